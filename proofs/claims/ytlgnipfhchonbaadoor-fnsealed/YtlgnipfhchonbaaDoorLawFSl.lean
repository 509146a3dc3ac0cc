/- The law FnSealed, walked: true at every two texts. -/
import Derived.Test.YtlgnipfhchonbaaDoorD2T
import Derived.Test.YtlgnipfhchonbaaDoorPwO
import Derived.Test.YtlgnipfhchonbaaDoorAgain2
import Derived.Deep.RegionHeld3
import Derived.Deep.DrawnRows
import Derived.Deep.DeepCutAuto
import Derived.Deep.Light
namespace Go.Proofs.YtlgnipfhchonbaaDoor
set_option linter.unusedVariables false
set_option linter.unusedSimpArgs false
open Go.RowKit
attribute [local go_sem ↓] Go.wp_at_zero Go.wp_at_succ

theorem Tab.alloc {w : World} (h : Tab w) (o : Obj) : Tab (w.alloc o) := h.keep (below_one _ _)
theorem zp_new {w wp : World} {t : TypeId} (hb : Below (w.alloc (Obj.cells #[Value.int .i64 0, Value.int .i64 0] t)).drew.heap.size (w.alloc (Obj.cells #[Value.int .i64 0, Value.int .i64 0] t)).drew wp) : Hid (C2 wp w.heap.size 0 0) := C2.keep (C2.drew (c2_new w 0 0 t w.heap.size rfl)) hb
theorem Tab.drew {w : World} (h : Tab w) : Tab w.drew := h.keep (Below.refl _ _).drew

set_option maxHeartbeats 16000000 in
set_option maxRecDepth 1000000 in
theorem lawFnSealed_c (ao : Option Addr) (n c : Nat) (bo : Option Addr) (m d : Nat) (w : World) (hn : n ≤ 9223372036854775807) (hm : m ≤ 9223372036854775807) (h1 : CodeOk w w.heap.size ao n) (h2 : CodeOk w w.heap.size bo m) (ht : Tab w) :
    Calls Tryd.prog 4 #[.slice ao n c, .slice bo m d] w fun e w' => e = .returned (.bool true) ∧ Below w.heap.size w w' := by
  by_cases hl : 1048576 < wrap64 ((n : Int) + (m : Int))
  · clear h1 h2 ht
    go_enter Tryd.func4, Tryd.ntmps4
    go_wp2
    go_ret
    exact ⟨rfl, Below.refl _ _⟩
  have HN : Hid (CodeOk w w.heap.size ao n) := h1
  have HM : Hid (CodeOk w w.heap.size bo m) := h2
  have HT0 : Hid (Tab w) := ht
  clear h1 h2 ht
  go_enter Tryd.func4, Tryd.ntmps4
  go_wp2_with (first | (go_at_call 22; refine (drawSealNumber_c ao n c _ hn HN.out).mono ?_; rintro e w1 ⟨p, nonce, mm, rfl, hb⟩; have HB1 : Hid (Below w.heap.size w w1) := hb; clear hb) | (go_at_call 23; refine (numberOf_c bo m d _ hm (HM.out.later HB1.out HB1.out.size)).mono ?_; rintro e w' ⟨z, rfl, hz0, hz1, hw⟩; subst w'))
  obtain ⟨S0, hS, hS1, hS2⟩ : ∃ S0 : Nat, 1 + z % 1498 = S0 ∧ 1 ≤ S0 ∧ S0 ≤ 1498 := ⟨(1 + z % 1498).toNat, by omega, by omega, by omega⟩
  rw [hS]
  clear hS hz0 hz1
  have HT1 : Hid (Tab w1) := HT0.out.keep HB1.out
  have hi1 := fun wx hx => implNumber_c p nonce mm wx hx
  have hs1 := fun wx => specNumber_c p nonce mm wx
  generalize (if againB p nonce 1 mm = true then 1 * pw 4 nonce.toNat % 2999 else 0) = r1 at hi1 hs1
  generalize (if againB p nonce 1 mm = true then mm * pw p nonce.toNat % 2999 else 0) = r2 at hi1 hs1
  generalize againB p nonce 1 mm = b1 at hi1 hs1
  have HI1 : Hid (∀ wx, Tab wx → Calls Tryd.prog 24 #[.int .i64 p, .int .i64 nonce, .int .i64 mm] wx fun e w' => e = .returned (.tuple #[.agg #[.int .i64 r1, .int .i64 r2], .bool b1]) ∧ Below wx.heap.size wx w') := hi1
  have HS1 : Hid (∀ wx, Calls Tryd.prog 25 #[.int .i64 p, .int .i64 nonce, .int .i64 mm] wx fun e w' => e = .returned (.tuple #[.agg #[.int .i64 r1, .int .i64 r2], .bool b1]) ∧ Below wx.heap.size wx w') := hs1
  have hS0 : ((S0 : Int)).toNat = S0 := by omega
  have hsec : secB (S0 : Int) = true := by simp only [secB, decide_eq_true_eq]; omega
  have HP : Hid (∀ wx, Tab wx → Calls Tryd.prog 9 #[.int .i64 S0] wx fun e w' => e = .returned (.tuple #[.int .i64 (pw 4 S0), .bool true]) ∧ w' = wx) := fun wx hx => by
    have h := implPublic_c (S0 : Int) wx hx
    rw [hsec, if_pos rfl, hS0] at h
    exact h
  have hi2 := fun wx hx => implNumber_c (pw 4 S0) nonce mm wx hx
  have hop : againB (pw 4 S0) nonce 1 mm = true → Opens S0 (if againB (pw 4 S0) nonce 1 mm = true then 1 * pw 4 nonce.toNat % 2999 else 0) (if againB (pw 4 S0) nonce 1 mm = true then mm * pw (pw 4 S0) nonce.toNat % 2999 else 0) mm := fun h => by
    rw [if_pos h, if_pos h]
    simp only [againB, sealB, Bool.and_eq_true] at h
    exact opens_new h.2.2 _
  have hmmb : againB (pw 4 S0) nonce 1 mm = true → 1 ≤ mm ∧ mm ≤ 2998 := fun h => by
    simp only [againB, sealB, Bool.and_eq_true] at h
    exact memB_in h.2.2
  generalize (if againB (pw 4 S0) nonce 1 mm = true then 1 * pw 4 nonce.toNat % 2999 else 0) = A at hi2 hop
  generalize (if againB (pw 4 S0) nonce 1 mm = true then mm * pw (pw 4 S0) nonce.toNat % 2999 else 0) = B at hi2 hop
  generalize againB (pw 4 S0) nonce 1 mm = two at hi2 hop hmmb
  have HOP : Hid (two = true → Opens S0 A B mm) := hop
  have HMB : Hid (two = true → 1 ≤ mm ∧ mm ≤ 2998) := hmmb
  obtain ⟨K, hK⟩ : ∃ K, pw 4 S0 = K := ⟨_, rfl⟩
  rw [hK] at HP hi2
  have HK : Hid (pw 4 S0 = K) := hK
  have HI2 : Hid (∀ wx, Tab wx → Calls Tryd.prog 24 #[.int .i64 K, .int .i64 nonce, .int .i64 mm] wx fun e w' => e = .returned (.tuple #[.agg #[.int .i64 A, .int .i64 B], .bool two]) ∧ Below wx.heap.size wx w') := hi2
  have e1 : (b1 != b1) = false := by simp
  clear hi1 hs1 hi2 hop hmmb hS0 hsec hK
  go_wp2_with fail
  refine (HI1.out _ HT1.out).mono ?_
  rintro e w2 ⟨rfl, hb⟩
  have HB2 : Hid (Below w.heap.size w w2) := by show Below _ _ _; refine Below.trans ?_ (hb.mono (by have := HB1.out.size; first | exact this | (simp; omega))); repeat (first | with_reducible exact HB1.out | refine Below.drew ?_ | refine Below.alloc ?_ HB1.out.size _)
  have HT2 : Hid (Tab w2) := HT0.out.keep HB2.out
  clear hb HI1
  go_wp2_with fail
  refine (HS1.out _).mono ?_
  rintro e w3 ⟨rfl, hb⟩
  have X3 : Hid (C2 w3 w2.heap.size r1 r2) := by show C2 _ _ _ _; refine C2.keep ?_ hb; repeat (first | with_reducible exact c2_new _ _ _ _ _ rfl | refine C2.drew ?_ | refine C2.alloc ?_ _)
  have HB3 : Hid (Below w.heap.size w w3) := by show Below _ _ _; refine Below.trans ?_ (hb.mono (by have := HB2.out.size; first | exact this | (simp; omega))); repeat (first | with_reducible exact HB2.out | refine Below.drew ?_ | refine Below.alloc ?_ HB2.out.size _)
  have HT3 : Hid (Tab w3) := HT0.out.keep HB3.out
  clear hb HS1
  obtain ⟨fXa, fXb⟩ := X3.out.cells
  have fXl := X3.out.lt
  go_wp2_with fail
  refine (HP.out _ (by repeat (first | with_reducible exact HT3.out | refine Tab.drew ?_ | refine Tab.alloc ?_ _))).mono ?_
  rintro e w' ⟨rfl, hw⟩
  subst w'
  go_wp2_with fail
  refine (HI2.out _ (by repeat (first | with_reducible exact HT3.out | refine Tab.drew ?_ | refine Tab.alloc ?_ _))).mono ?_
  rintro e w4 ⟨rfl, hb⟩
  have X4 : Hid (C2 w4 w2.heap.size r1 r2) := by show C2 _ _ _ _; refine C2.keep ?_ hb; repeat (first | with_reducible exact X3.out | refine C2.drew ?_ | refine C2.alloc ?_ _)
  have W4 : Hid (C2 w4 w3.heap.size r1 r2) := by show C2 _ _ _ _; refine C2.keep ?_ hb; repeat (first | with_reducible exact c2_new _ _ _ _ _ rfl | refine C2.drew ?_ | refine C2.alloc ?_ _)
  have HB4 : Hid (Below w.heap.size w w4) := by show Below _ _ _; refine Below.trans ?_ (hb.mono (by have := HB3.out.size; first | exact this | (simp; omega))); repeat (first | with_reducible exact HB3.out | refine Below.drew ?_ | refine Below.alloc ?_ HB3.out.size _)
  have HT4 : Hid (Tab w4) := HT0.out.keep HB4.out
  clear hb HI2 X3 fXa fXb fXl
  obtain ⟨fXa, fXb⟩ := X4.out.cells
  have fXl := X4.out.lt
  obtain ⟨fWa, fWb⟩ := W4.out.cells
  have fWl := W4.out.lt
  go_upto_if 100 with fail
  go_cut [17, 18, 19, 20, 21, 22, 23, 24, 25, 26] (fun _ _ _ _ _ _ _ _ _ _ wx => Hid (Below w.heap.size w wx))
  case first =>
    cases two
    · go_wp2
      go_meet
      exact HB4.out.alloc HB4.out.size _
    · have hO := HOP.out rfl
      obtain ⟨hm1, hm2⟩ := HMB.out rfl
      have HOs : Hid (Opens S0 A B mm) := hO
      have HO1 : Hid (∀ a2 b2 m2, Opens S0 a2 b2 m2 → ∀ wx, Calls Tryd.prog 26 #[.int .i64 S0, .agg #[.int .i64 a2, .int .i64 b2]] wx fun e w' => e = .returned (.tuple #[.int .i64 m2, .bool true]) ∧ Below wx.heap.size wx w') := fun a2 b2 m2 h wx => by
        have hc := implOpen_c (S0 : Int) a2 b2 wx
        rw [opens_openB h ⟨hS1, hS2⟩, if_pos rfl, show ((S0 : Int)).toNat = S0 by omega, opens_open h] at hc
        exact hc
      have HA2 : Hid (∀ (z2 : Int) (wx : World), 0 ≤ z2 → Tab wx → Calls Tryd.prog 27 #[.int .i64 K, .int .i64 (IntKind.i64.wrap (1 + z2.tmod 1498)), .agg #[.int .i64 A, .int .i64 B]] wx fun e w' => ∃ a2 b2, e = .returned (.tuple #[.agg #[.int .i64 a2, .int .i64 b2], .bool true]) ∧ Opens S0 a2 b2 mm ∧ Below wx.heap.size wx w') := fun z2 wx hz hx => by
        have ew : IntKind.i64.wrap (1 + z2.tmod 1498) = 1 + z2 % 1498 := by rw [Int.tmod_eq_emod_of_nonneg hz, IntKind.wrap_i64]; omega
        rw [ew]
        have hc := implAgain_c K (1 + z2 % 1498) A B wx hx
        have hb2 : againB K (1 + z2 % 1498) A B = true := by
          rw [← HK.out]
          simp only [againB, sealB, mem_pw4, hO.ma, hO.mb, secB, Bool.and_self, Bool.and_true, Bool.true_and, decide_eq_true_eq]
          omega
        rw [hb2, if_pos rfl, if_pos rfl] at hc
        refine hc.mono ?_
        rintro e w' ⟨rfl, hb⟩
        exact ⟨_, _, rfl, by rw [← HK.out]; exact opens_again hO _, hb⟩
      clear hO HOP HMB
      have Y4 : Hid (C2 (w4.alloc (Obj.cells #[Value.int .i64 A, Value.int .i64 B] 34)) w4.heap.size A B) := c2_new _ _ _ _ _ rfl
      go_wp2_with fail
      refine (HO1.out A B mm HOs.out _).mono ?_
      rintro e w5 ⟨rfl, hb⟩
      have Y5 : Hid (C2 w5 w4.heap.size A B) := by show C2 _ _ _ _; refine C2.keep ?_ hb; repeat (first | with_reducible exact c2_new _ _ _ _ _ rfl | refine C2.drew ?_ | refine C2.alloc ?_ _)
      have HB5 : Hid (Below w.heap.size w w5) := by show Below _ _ _; refine Below.trans ?_ (hb.mono (by have := HB4.out.size; first | exact this | (simp; omega))); repeat (first | with_reducible exact HB4.out | refine Below.drew ?_ | refine Below.alloc ?_ HB4.out.size _)
      have HT5 : Hid (Tab w5) := HT0.out.keep HB5.out
      clear hb Y4 X4 W4 fXa fXb fXl fWa fWb fWl
      obtain ⟨fYa, fYb⟩ := Y5.out.cells
      have fYl := Y5.out.lt
      go_upto_region 13 with fail
      go_cut [19, 20] (fun ub uv wx => ∃ (gz : Nat) (a2 b2 : Int), ub = .pointer (some ⟨gz, 0, none⟩) ∧ uv = .bool true ∧ Hid (C2 wx gz a2 b2) ∧ Hid (Opens S0 a2 b2 mm) ∧ Hid (Below w5.heap.size w5 wx))
      case first =>
        have z5 : w.heap.size ≤ w5.heap.size := HB5.out.size
        have HN5 : Hid (∀ wx, Below w5.heap.size w5 wx → CodeOk wx wx.heap.size ao n) := fun wx hx => HN.out.later (HB5.out.trans (hx.mono z5)) (Nat.le_trans z5 hx.size)
        have HTX : Hid (∀ wx, Below w5.heap.size w5 wx → Tab wx) := fun wx hx => HT5.out.keep hx
        go_region_held3 (fun w' => w'.cell? ⟨w4.heap.size, 0, none⟩ = some (.int .i64 A) ∧ w'.cell? ⟨w4.heap.size, 1, none⟩ = some (.int .i64 B)) (first | go_keep | exact ⟨((Yp.out.other (by omega) _ _).other (by omega) _ _).1, ((Yp.out.other (by omega) _ _).other (by omega) _ _).2.1⟩ | exact ⟨(Yp.out.other (by omega) _ _).1, (Yp.out.other (by omega) _ _).2.1⟩) (first | (go_at_call 23; refine (numberOf_c ao n c _ hn (HN5.out _ (by repeat (first | exact Below.refl _ _ | refine Below.drew ?_ | refine Below.alloc ?_ (by first | omega | (simp; done) | (simp; omega)) _)))).mono ?_; rintro e w' ⟨z2, rfl, hz20, hz21, hw⟩; subst w') | (go_at_call 27; refine (HA2.out z2 _ hz20 (HTX.out _ (by repeat (first | exact Below.refl _ _ | refine Below.drew ?_ | refine Below.alloc ?_ (by first | omega | (simp; done) | (simp; omega)) _)))).mono ?_; rintro e wp ⟨a2, b2, rfl, ho2, hb⟩; have HOz : Hid (Opens S0 a2 b2 mm) := ho2; have HBp : Hid (Below w5.heap.size w5 wp) := (Below.trans (by repeat (first | exact Below.refl _ _ | refine Below.drew ?_ | refine Below.alloc ?_ (by first | omega | (simp; done) | (simp; omega)) _)) (hb.mono (by first | exact Nat.le_refl _ | (simp; done) | (simp; omega)))); (try with_reducible have Zp : Hid (C2 wp w5.heap.size 0 0) := zp_new hb); have zp : w5.heap.size ≤ wp.heap.size := HBp.out.size; have zq := hb.size; (try simp at zq); have Yp : Hid (C2 wp w4.heap.size A B) := Y5.out.keep HBp.out; obtain ⟨Ya, Yb⟩ := Yp.out.cells; have Yl := Yp.out.lt; obtain ⟨hcp, hfp⟩ := bcell hb; (try simp at hcp); (try simp at hfp); (try (have zz : w5.heap.size < wp.heap.size := by omega)); clear hb ho2))
        all_goals go_wp2_with fail
        all_goals go_meet
        all_goals go_light
        all_goals first
          | exact ⟨wp.heap.size, a2, b2, rfl, rfl, (by show C2 _ _ _ _; repeat (first | with_reducible exact c2_new _ _ _ _ _ (by first | rfl | simp) | refine C2.drew ?_)), HOz, (by show Below _ _ _; repeat (first | with_reducible exact HBp.out | refine Below.drew ?_ | refine Below.alloc ?_ (by first | omega | (simp; done) | (simp; omega)) _ | refine Below.setCell ?_ (by first | omega | (simp; done) | (simp; omega)) _))⟩
          | exact ⟨w5.heap.size, a2, b2, rfl, rfl, C2.set Zp.out _ _, HOz, (by show Below _ _ _; repeat (first | with_reducible exact HBp.out | refine Below.drew ?_ | refine Below.alloc ?_ (by first | omega | (simp; done) | (simp; omega)) _ | refine Below.setCell ?_ (by first | omega | (simp; done) | (simp; omega)) _))⟩
      case rest =>
        obtain ⟨gz, a2, b2, rfl, rfl, Z6, HOz, hb6⟩ := hcut
        obtain ⟨w6, rfl⟩ : ∃ w6 : World, w6 = wc := ⟨_, rfl⟩
        have HB6 : Hid (Below w.heap.size w w6) := HB5.out.trans (hb6.out.mono HB5.out.size)
        have Y6 : Hid (C2 w6 w4.heap.size A B) := Y5.out.keep hb6.out
        clear hb6 Y5 fYa fYb fYl
        obtain ⟨fYa, fYb⟩ := Y6.out.cells
        have fYl := Y6.out.lt
        obtain ⟨fZa, fZb⟩ := Z6.out.cells
        have fZl := Z6.out.lt
        go_wp2_with fail
        refine (HO1.out a2 b2 mm HOz.out _).mono ?_
        rintro e w7 ⟨rfl, hb⟩
        have Y7 : Hid (C2 w7 w4.heap.size A B) := by show C2 _ _ _ _; refine C2.keep ?_ hb; repeat (first | with_reducible exact Y6.out | refine C2.drew ?_ | refine C2.alloc ?_ _)
        have Z7 : Hid (C2 w7 gz a2 b2) := by show C2 _ _ _ _; refine C2.keep ?_ hb; repeat (first | with_reducible exact Z6.out | refine C2.drew ?_ | refine C2.alloc ?_ _)
        have HB7 : Hid (Below w.heap.size w w7) := by show Below _ _ _; refine Below.trans ?_ (hb.mono (by have := HB6.out.size; first | exact this | (simp; omega))); repeat (first | with_reducible exact HB6.out | refine Below.drew ?_ | refine Below.alloc ?_ HB6.out.size _)
        clear hb Y6 Z6 fYa fYb fYl fZa fZb fZl
        obtain ⟨fYa, fYb⟩ := Y7.out.cells
        have fYl := Y7.out.lt
        obtain ⟨fZa, fZb⟩ := Z7.out.cells
        have fZl := Z7.out.lt
        have htb : timesB A B a2 b2 = true := by simp only [timesB, sealB, HOs.out.ma, HOs.out.mb, HOz.out.ma, HOz.out.mb, Bool.and_self]
        have HTM : Hid (∀ wx, Calls Tryd.prog 28 #[.agg #[.int .i64 A, .int .i64 B], .agg #[.int .i64 a2, .int .i64 b2]] wx fun e w' => e = .returned (.tuple #[.agg #[.int .i64 (A * a2 % 2999), .int .i64 (B * b2 % 2999)], .bool true]) ∧ Below wx.heap.size wx w') := fun wx => by
          have hc := implTimesSealed_c A B a2 b2 wx
          rw [htb, if_pos rfl, if_pos rfl] at hc
          exact hc
        have HOt : Hid (Opens S0 (A * a2 % 2999) (B * b2 % 2999) (mm * mm % 2999)) := opens_mul HOs.out HOz.out
        generalize A * a2 % 2999 = a3 at HTM HOt
        generalize B * b2 % 2999 = b3 at HTM HOt
        clear htb
        go_wp2_with fail
        refine (HTM.out _).mono ?_
        rintro e w8 ⟨rfl, hb⟩
        have HB8 : Hid (Below w.heap.size w w8) := by show Below _ _ _; refine Below.trans ?_ (hb.mono (by have := HB7.out.size; first | exact this | (simp; omega))); repeat (first | with_reducible exact HB7.out | refine Below.drew ?_ | refine Below.alloc ?_ HB7.out.size _)
        clear hb Y7 Z7 fYa fYb fYl fZa fZb fZl
        go_wp2_with fail
        refine (HO1.out a3 b3 (mm * mm % 2999) HOt.out _).mono ?_
        rintro e w9 ⟨rfl, hb⟩
        have HB9 : Hid (Below w.heap.size w w9) := by show Below _ _ _; refine Below.trans ?_ (hb.mono (by have := HB8.out.size; first | exact this | (simp; omega))); repeat (first | with_reducible exact HB8.out | refine Below.drew ?_ | refine Below.alloc ?_ HB8.out.size _)
        clear hb
        have hsq : 0 ≤ mm * mm ∧ mm * mm ≤ 8988004 := ⟨Int.mul_nonneg (by omega) (by omega), Int.mul_le_mul hm2 hm2 (by omega) (by omega)⟩
        obtain ⟨hsq0, hsq1⟩ := hsq
        go_wp2
        go_meet
        exact HB9
  case rest => as_aux_lemma =>
    have HBc : Hid (Below w.heap.size w wc) := hcut
    clear hcut X4 W4 fXa fXb fXl fWa fWb fWl HOP HMB HB1 HB2 HB3 HB4 HT1 HT2 HT3 HT4 HP HK
    go_wp2_with fail
    refine (drawOpenNumber_c bo m d _ hm (HM.out.later HBc.out HBc.out.size)).mono ?_
    rintro e w11 ⟨u, v1, v2, rfl, hb⟩
    have HB11 : Hid (Below w.heap.size w w11) := by show Below _ _ _; refine Below.trans ?_ (hb.mono (by have := HBc.out.size; first | exact this | (simp; omega))); repeat (first | with_reducible exact HBc.out | refine Below.drew ?_ | refine Below.alloc ?_ HBc.out.size _)
    clear hb
    have hia := fun wx => implOpen_c u v1 v2 wx
    have hsa := fun wx => specOpen_c u v1 v2 wx
    generalize (if openB u v1 v2 = true then (v2 * pw (pw v1 u.toNat) 2997 % 2999) else 0) = o1 at hia hsa
    generalize openB u v1 v2 = ob at hia hsa
    have HIa : Hid (∀ wx, Calls Tryd.prog 26 #[.int .i64 u, .agg #[.int .i64 v1, .int .i64 v2]] wx fun e w' => e = .returned (.tuple #[.int .i64 o1, .bool ob]) ∧ Below wx.heap.size wx w') := hia
    have HSa : Hid (∀ wx, Calls Tryd.prog 30 #[.int .i64 u, .agg #[.int .i64 v1, .int .i64 v2]] wx fun e w' => e = .returned (.tuple #[.int .i64 o1, .bool ob]) ∧ Below wx.heap.size wx w') := hsa
    clear hia hsa
    go_wp2_with fail
    refine (HIa.out _).mono ?_
    rintro e w12 ⟨rfl, hb⟩
    have V12 : Hid (C2 w12 w11.heap.size v1 v2) := by show C2 _ _ _ _; refine C2.keep ?_ hb; repeat (first | with_reducible exact c2_new _ _ _ _ _ rfl | refine C2.drew ?_ | refine C2.alloc ?_ _)
    have HB12 : Hid (Below w.heap.size w w12) := by show Below _ _ _; refine Below.trans ?_ (hb.mono (by have := HB11.out.size; first | exact this | (simp; omega))); repeat (first | with_reducible exact HB11.out | refine Below.drew ?_ | refine Below.alloc ?_ HB11.out.size _)
    clear hb HIa
    obtain ⟨fVa, fVb⟩ := V12.out.cells
    have fVl := V12.out.lt
    go_wp2_with fail
    refine (HSa.out _).mono ?_
    rintro e w13 ⟨rfl, hb⟩
    have HB13 : Hid (Below w.heap.size w w13) := by show Below _ _ _; refine Below.trans ?_ (hb.mono (by have := HB12.out.size; first | exact this | (simp; omega))); repeat (first | with_reducible exact HB12.out | refine Below.drew ?_ | refine Below.alloc ?_ HB12.out.size _)
    clear hb HSa V12 fVa fVb fVl
    go_wp2_with fail
    refine (drawSealAgain_c bo m d _ hm (HM.out.later HB13.out HB13.out.size)).mono ?_
    rintro e w14 ⟨ka, kb, ca, cb, rfl, hb⟩
    have HB14 : Hid (Below w.heap.size w w14) := by show Below _ _ _; refine Below.trans ?_ (hb.mono (by have := HB13.out.size; first | exact this | (simp; omega))); repeat (first | with_reducible exact HB13.out | refine Below.drew ?_ | refine Below.alloc ?_ HB13.out.size _)
    have HT14 : Hid (Tab w14) := HT0.out.keep HB14.out
    clear hb
    have hib := fun wx (hx : Tab wx) => implAgain_c ka kb ca cb wx hx
    have hsb := fun wx => specAgain_c ka kb ca cb wx
    generalize (if againB ka kb ca cb = true then ca * pw 4 kb.toNat % 2999 else 0) = g1 at hib hsb
    generalize (if againB ka kb ca cb = true then cb * pw ka kb.toNat % 2999 else 0) = g2 at hib hsb
    generalize againB ka kb ca cb = gb at hib hsb
    have HIb : Hid (∀ wx, Tab wx → Calls Tryd.prog 27 #[.int .i64 ka, .int .i64 kb, .agg #[.int .i64 ca, .int .i64 cb]] wx fun e w' => e = .returned (.tuple #[.agg #[.int .i64 g1, .int .i64 g2], .bool gb]) ∧ Below wx.heap.size wx w') := hib
    have HSb : Hid (∀ wx, Calls Tryd.prog 32 #[.int .i64 ka, .int .i64 kb, .agg #[.int .i64 ca, .int .i64 cb]] wx fun e w' => e = .returned (.tuple #[.agg #[.int .i64 g1, .int .i64 g2], .bool gb]) ∧ Below wx.heap.size wx w') := hsb
    clear hib hsb
    go_wp2_with fail
    refine (HIb.out _ (by repeat (first | with_reducible exact HT14.out | refine Tab.drew ?_ | refine Tab.alloc ?_ _))).mono ?_
    rintro e w15 ⟨rfl, hb⟩
    have C15 : Hid (C2 w15 w14.heap.size ca cb) := by show C2 _ _ _ _; refine C2.keep ?_ hb; repeat (first | with_reducible exact c2_new _ _ _ _ _ rfl | refine C2.drew ?_ | refine C2.alloc ?_ _)
    have HB15 : Hid (Below w.heap.size w w15) := by show Below _ _ _; refine Below.trans ?_ (hb.mono (by have := HB14.out.size; first | exact this | (simp; omega))); repeat (first | with_reducible exact HB14.out | refine Below.drew ?_ | refine Below.alloc ?_ HB14.out.size _)
    clear hb HIb
    obtain ⟨fCa, fCb⟩ := C15.out.cells
    have fCl := C15.out.lt
    go_wp2_with fail
    refine (HSb.out _).mono ?_
    rintro e w16 ⟨rfl, hb⟩
    have Z16 : Hid (C2 w16 w15.heap.size g1 g2) := by show C2 _ _ _ _; refine C2.keep ?_ hb; repeat (first | with_reducible exact c2_new _ _ _ _ _ rfl | refine C2.drew ?_ | refine C2.alloc ?_ _)
    have HB16 : Hid (Below w.heap.size w w16) := by show Below _ _ _; refine Below.trans ?_ (hb.mono (by have := HB15.out.size; first | exact this | (simp; omega))); repeat (first | with_reducible exact HB15.out | refine Below.drew ?_ | refine Below.alloc ?_ HB15.out.size _)
    clear hb HSb C15 fCa fCb fCl
    obtain ⟨fZa, fZb⟩ := Z16.out.cells
    have fZl := Z16.out.lt
    go_wp2_with fail
    refine (drawTimesSealed_c bo m d _ hm (HM.out.later (HB16.out.alloc HB16.out.size _) (HB16.out.alloc HB16.out.size _).size)).mono ?_
    rintro e w17 ⟨da, db, ea, eb, rfl, hb⟩
    have Z17 : Hid (C2 w17 w15.heap.size g1 g2) := by show C2 _ _ _ _; refine C2.keep ?_ hb; repeat (first | with_reducible exact Z16.out | refine C2.drew ?_ | refine C2.alloc ?_ _)
    have G17 : Hid (C2 w17 w16.heap.size g1 g2) := by show C2 _ _ _ _; refine C2.keep ?_ hb; repeat (first | with_reducible exact c2_new _ _ _ _ _ rfl | refine C2.drew ?_ | refine C2.alloc ?_ _)
    have HB17 : Hid (Below w.heap.size w w17) := by show Below _ _ _; refine Below.trans ?_ (hb.mono (by have := HB16.out.size; first | exact this | (simp; omega))); repeat (first | with_reducible exact HB16.out | refine Below.drew ?_ | refine Below.alloc ?_ HB16.out.size _)
    clear hb Z16 fZa fZb fZl
    obtain ⟨fZa, fZb⟩ := Z17.out.cells
    have fZl := Z17.out.lt
    obtain ⟨fGa, fGb⟩ := G17.out.cells
    have fGl := G17.out.lt
    have hic := fun wx => implTimesSealed_c da db ea eb wx
    have hsc := fun wx => specTimesSealed_c da db ea eb wx
    generalize (if timesB da db ea eb = true then da * ea % 2999 else 0) = t1 at hic hsc
    generalize (if timesB da db ea eb = true then db * eb % 2999 else 0) = t2 at hic hsc
    generalize timesB da db ea eb = tb at hic hsc
    have HIc : Hid (∀ wx, Calls Tryd.prog 28 #[.agg #[.int .i64 da, .int .i64 db], .agg #[.int .i64 ea, .int .i64 eb]] wx fun e w' => e = .returned (.tuple #[.agg #[.int .i64 t1, .int .i64 t2], .bool tb]) ∧ Below wx.heap.size wx w') := hic
    have HSc : Hid (∀ wx, Calls Tryd.prog 34 #[.agg #[.int .i64 da, .int .i64 db], .agg #[.int .i64 ea, .int .i64 eb]] wx fun e w' => e = .returned (.tuple #[.agg #[.int .i64 t1, .int .i64 t2], .bool tb]) ∧ Below wx.heap.size wx w') := hsc
    clear hic hsc
    go_wp2_with fail
    refine (HIc.out _).mono ?_
    rintro e w18 ⟨rfl, hb⟩
    have D18 : Hid (C2 w18 w17.heap.size da db) := by show C2 _ _ _ _; refine C2.keep ?_ hb; repeat (first | with_reducible exact c2_new _ _ _ _ _ rfl | refine C2.drew ?_ | refine C2.alloc ?_ _)
    have E18 : Hid (C2 w18 (w17.heap.size + 1) ea eb) := by show C2 _ _ _ _; refine C2.keep ?_ hb; repeat (first | with_reducible exact c2_new _ _ _ _ _ (by simp) | refine C2.drew ?_ | refine C2.alloc ?_ _)
    have Z18 : Hid (C2 w18 w15.heap.size g1 g2) := by show C2 _ _ _ _; refine C2.keep ?_ hb; repeat (first | with_reducible exact Z17.out | refine C2.drew ?_ | refine C2.alloc ?_ _)
    have G18 : Hid (C2 w18 w16.heap.size g1 g2) := by show C2 _ _ _ _; refine C2.keep ?_ hb; repeat (first | with_reducible exact G17.out | refine C2.drew ?_ | refine C2.alloc ?_ _)
    have HB18 : Hid (Below w.heap.size w w18) := by show Below _ _ _; refine Below.trans ?_ (hb.mono (by have := HB17.out.size; first | exact this | (simp; omega))); repeat (first | with_reducible exact HB17.out | refine Below.drew ?_ | refine Below.alloc ?_ (by have := HB17.out.size; first | exact this | (simp; omega)) _)
    clear hb HIc Z17 G17 fZa fZb fZl fGa fGb fGl
    obtain ⟨fDa, fDb⟩ := D18.out.cells
    have fDl := D18.out.lt
    obtain ⟨fEa, fEb⟩ := E18.out.cells
    have fEl := E18.out.lt
    obtain ⟨fZa, fZb⟩ := Z18.out.cells
    have fZl := Z18.out.lt
    obtain ⟨fGa, fGb⟩ := G18.out.cells
    have fGl := G18.out.lt
    go_wp2_with fail
    refine (HSc.out _).mono ?_
    rintro e w19 ⟨rfl, hb⟩
    have T19 : Hid (C2 w19 w18.heap.size t1 t2) := by show C2 _ _ _ _; refine C2.keep ?_ hb; repeat (first | with_reducible exact c2_new _ _ _ _ _ rfl | refine C2.drew ?_ | refine C2.alloc ?_ _)
    have Z19 : Hid (C2 w19 w15.heap.size g1 g2) := by show C2 _ _ _ _; refine C2.keep ?_ hb; repeat (first | with_reducible exact Z18.out | refine C2.drew ?_ | refine C2.alloc ?_ _)
    have G19 : Hid (C2 w19 w16.heap.size g1 g2) := by show C2 _ _ _ _; refine C2.keep ?_ hb; repeat (first | with_reducible exact G18.out | refine C2.drew ?_ | refine C2.alloc ?_ _)
    have HB19 : Hid (Below w.heap.size w w19) := by show Below _ _ _; refine Below.trans ?_ (hb.mono (by have := HB18.out.size; first | exact this | (simp; omega))); repeat (first | with_reducible exact HB18.out | refine Below.drew ?_ | refine Below.alloc ?_ HB18.out.size _)
    clear hb HSc Z18 G18 D18 E18 fZa fZb fZl fGa fGb fGl fDa fDb fDl fEa fEb fEl
    obtain ⟨fTa, fTb⟩ := T19.out.cells
    have fTl := T19.out.lt
    obtain ⟨fZa, fZb⟩ := Z19.out.cells
    have fZl := Z19.out.lt
    obtain ⟨fGa, fGb⟩ := G19.out.cells
    have fGl := G19.out.lt
    go_wp2
    go_ret
    exact ⟨by simp, HB19.out.alloc HB19.out.size _⟩

end Go.Proofs.YtlgnipfhchonbaaDoor
