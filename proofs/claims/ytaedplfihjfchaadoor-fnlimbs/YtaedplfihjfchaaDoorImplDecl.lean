/- The contract of the program's OfDigits. -/
import Derived.Test.YtaedplfihjfchaaDoorDecl
import Derived.Test.YtaedplfihjfchaaDoorImplLess2l
import Derived.Deep.RegionWith
namespace Go.Proofs.YtaedplfihjfchaaDoor
set_option linter.unusedVariables false
set_option maxRecDepth 1000000
set_option linter.unusedSimpArgs false
open Go.RowKit

set_option maxHeartbeats 4000000 in
theorem implDec_len (s : ByteArray) (w : World) (hs : s.size ≤ 9223372036854775807) (h : s.size < 1 ∨ 30 < s.size ∨ (1 < s.size ∧ (byts s).getD 0 0 = 48)) :
    Calls Tryd.prog 19 #[.string s] w fun e w' => ∃ a' c', e = .returned (.tuple #[.agg #[.slice a' 0 c'], .bool false]) ∧ Own w' w.heap.size (.slice a' 0 c') [] ∧ Below w.heap.size w w' := by
  by_cases h1 : s.size < 1
  · go_enter Tryd.func19, Tryd.ntmps19
    go_wp2
    refine bodyPost_ret (v := .tuple #[.agg #[.slice none 0 0], .bool false]) (by simp [results, Tryd.results19, go_sem]) rfl ⟨none, 0, rfl, World.ownsRow_nil _ _ _ _, ?_⟩
    repeat (first | exact Below.refl _ _ | refine Below.setCell ?_ (by simp) _ | refine Below.alloc ?_ (by simp) _)
  · by_cases h2 : 30 < s.size
    · go_enter Tryd.func19, Tryd.ntmps19
      go_wp2
      refine bodyPost_ret (v := .tuple #[.agg #[.slice none 0 0], .bool false]) (by simp [results, Tryd.results19, go_sem]) rfl ⟨none, 0, rfl, World.ownsRow_nil _ _ _ _, ?_⟩
      repeat (first | exact Below.refl _ _ | refine Below.setCell ?_ (by simp) _ | refine Below.alloc ?_ (by simp) _)
    · have h3 : 1 < s.size ∧ (byts s).getD 0 0 = 48 := by omega
      obtain ⟨h4, h5⟩ := h3
      have h6 : ((s[0].toNat : Int) == 48) = true := by rw [← byts_getD s 0 (by omega), h5]; rfl
      have h0 : 0 < s.size := by omega
      clear h h5
      go_enter Tryd.func19, Tryd.ntmps19
      go_wp2
      refine bodyPost_ret (v := .tuple #[.agg #[.slice none 0 0], .bool false]) (by simp [results, Tryd.results19, go_sem]) rfl ⟨none, 0, rfl, World.ownsRow_nil _ _ _ _, ?_⟩
      repeat (first | exact Below.refl _ _ | refine Below.setCell ?_ (by simp) _ | refine Below.alloc ?_ (by simp) _)

theorem wrap_dig {c : Int} (h : 48 ≤ c ∧ c ≤ 57) : IntKind.i64.wrap (IntKind.u8.wrap (c - 48)) = c - 48 := by
  have : c = 48 ∨ c = 49 ∨ c = 50 ∨ c = 51 ∨ c = 52 ∨ c = 53 ∨ c = 54 ∨ c = 55 ∨ c = 56 ∨ c = 57 := by omega
  rcases this with rfl | rfl | rfl | rfl | rfl | rfl | rfl | rfl | rfl | rfl <;> decide

theorem OwnA.set6 {t : TypeId} {w : World} {g : Nat} {a0 a1 a2 a3 a4 a5 : Int} (h : OwnA t w g [a0, a1, a2, a3, a4, a5]) (r0 r1 r2 r3 r4 r5 : Int) :
    OwnA t ((((((w.setCell ⟨g, 0, none⟩ (.int .i64 r0)).setCell ⟨g, 1, none⟩ (.int .i64 r1)).setCell ⟨g, 2, none⟩ (.int .i64 r2)).setCell ⟨g, 3, none⟩ (.int .i64 r3)).setCell ⟨g, 4, none⟩ (.int .i64 r4)).setCell ⟨g, 5, none⟩ (.int .i64 r5)) g [r0, r1, r2, r3, r4, r5] :=
  (((((h.stored 0 r0).stored 1 r1).stored 2 r2).stored 3 r3).stored 4 r4).stored 5 r5

theorem dec_none {l zs : List Int} {fb : Bool} {p : Nat} (h : digF l = ([], false)) (hF : digF l = (zs, fb)) (hp : zs.length = p) : [] = zs ∧ false = fb ∧ 0 = p := by
  rw [h] at hF
  simp only [Prod.mk.injEq] at hF
  refine ⟨hF.1, hF.2, ?_⟩
  rw [← hp, ← hF.1]; rfl

set_option maxHeartbeats 2000000 in
set_option maxRecDepth 1000000 in
theorem implDec_ok (s : ByteArray) (w : World) (h : ¬ (s.size < 1 ∨ 30 < s.size ∨ (1 < s.size ∧ (byts s).getD 0 0 = 48))) (zs : List Int) (fb : Bool) (p : Nat) (hF : digF (byts s) = (zs, fb)) (hp : zs.length = p) :
    Calls Tryd.prog 19 #[.string s] w fun e w' => ∃ a' c', e = .returned (.tuple #[.agg #[.slice a' p c'], .bool fb]) ∧ Own w' w.heap.size (.slice a' p c') zs ∧ Below w.heap.size w w' := by
  have h1 : 1 ≤ s.size := by omega
  have h2 : s.size ≤ 30 := by omega
  have HNL : Hid (¬ ((byts s).length < 1 ∨ 30 < (byts s).length ∨ (1 < (byts s).length ∧ (byts s).getD 0 0 = 48))) := by rw [byts_length]; exact h
  have HF : Hid (digF (byts s) = (zs, fb)) := hF
  have HP : Hid (zs.length = p) := hp
  have hgt : s.size = 1 ∨ (1 < s.size ∧ ((s[0].toNat : Int) == 48) = false) := by
    by_cases e : s.size = 1
    · exact Or.inl e
    · refine Or.inr ⟨by omega, ?_⟩
      rw [← byts_getD s 0 (by omega)]
      simp only [beq_eq_false_iff_ne, ne_eq]
      intro e2
      exact h (Or.inr (Or.inr ⟨by omega, e2⟩))
  have h0 : 0 < s.size := by omega
  clear h hF hp
  rcases hgt with hg | ⟨hg1, hg2⟩
  · have hg1 : ¬ 1 < s.size := by omega
    clear hg
    go_enter Tryd.func19, Tryd.ntmps19
    go_wp2
    go_loopw [28] (fun iv wr => ∃ (k : Nat) (R : List Int), k ≤ s.size ∧ iv = .int .i64 k ∧ Hid (R.length = 6 ∧ Digs R ∧ val R = decV ((byts s).take k) ∧ DigAll ((byts s).take k)) ∧ Hid (OwnA 53 wr (w.heap.size + 1) R) ∧ wr.cell? ⟨w.heap.size, 0, none⟩ = some (.slice none 0 0) ∧ wr.frozen? ⟨w.heap.size, 0, none⟩ = false ∧ Hid (Below w.heap.size w wr)) (fun iv _ => s.size - (intOf iv).toNat)
    case atStart => exact ⟨0, [0, 0, 0, 0, 0, 0], by omega, rfl, ⟨rfl, digs_replicate 6, by simp [val, decV], fun c hc => by simp at hc⟩, ownA_at _ _ _ _ _ rfl (by simp) (by simp), by simp, by simp, below_two w _ _⟩
    case round =>
      obtain ⟨k, R, hk, rfl, hV, hA, cR, fR, hB⟩ := hrel
      by_cases hlt : k < s.size
      · have HBK : Hid ((byts s).getD k 0 = (s[k].toNat : Int)) := byts_getD s k hlt
        obtain ⟨a0, a1, a2, a3, a4, a5, h6⟩ := list6 hV.out.1
        have HR6 : Hid (R = [a0, a1, a2, a3, a4, a5]) := h6
        rw [h6] at hA
        obtain ⟨q0, q1, q2, q3, q4, q5⟩ := hA.out.cells6
        have f0 := hA.out.free 0
        have f1 := hA.out.free 1
        have f2 := hA.out.free 2
        have f3 := hA.out.free 3
        have f4 := hA.out.free 4
        have f5 := hA.out.free 5
        clear h6
        go_wp2
        · have hdg : ¬ (48 ≤ (s[k].toNat : Int) ∧ (s[k].toNat : Int) ≤ 57) := by
            have : (s[k].toNat : Int) < 48 ∨ 57 < (s[k].toNat : Int) := by assumption
            omega
          obtain ⟨rfl, rfl, rfl⟩ := dec_none (digF_bad (k := k) (by rw [byts_length]; exact hlt) (by rw [HBK.out]; exact hdg)) HF.out HP.out
          refine bodyPost_ret (v := .tuple #[.agg #[.slice none 0 0], .bool false]) (by simp [results, Tryd.results19, go_sem, cR]) rfl ⟨none, 0, rfl, World.ownsRow_nil _ _ _ _, hB.out.setCell (by simp) _⟩
        · have hdg : 48 ≤ (s[k].toNat : Int) ∧ (s[k].toNat : Int) ≤ 57 := by assumption
          have HW : Hid (0 ≤ (IntKind.i64.wrap (IntKind.u8.wrap ((s[k].toNat : Int) - 48))) ∧ (IntKind.i64.wrap (IntKind.u8.wrap ((s[k].toNat : Int) - 48))) ≤ 9) := by
            have e : (IntKind.i64.wrap (IntKind.u8.wrap ((s[k].toNat : Int) - 48))) = (s[k].toNat : Int) - 48 := wrap_dig hdg
            rw [e]; exact ⟨by omega, by omega⟩
          have HWE : Hid ((IntKind.i64.wrap (IntKind.u8.wrap ((s[k].toNat : Int) - 48))) = (s[k].toNat : Int) - 48) := wrap_dig hdg
          obtain ⟨m1, m2, m3, m4, m5⟩ := mulC_spec (xs := R) (IntKind.i64.wrap (IntKind.u8.wrap ((s[k].toNat : Int) - 48))) hV.out.2.1 HW.out.1 HW.out.2
          obtain ⟨r0, r1, r2, r3, r4, r5, hr6⟩ := list6 (L := (mulC R (IntKind.i64.wrap (IntKind.u8.wrap ((s[k].toNat : Int) - 48)))).1) (by rw [m3, hV.out.1])
          obtain ⟨cy, hcy⟩ : ∃ cy, (mulC R (IntKind.i64.wrap (IntKind.u8.wrap ((s[k].toNat : Int) - 48)))).2 = cy := ⟨_, rfl⟩
          rw [hcy, hr6, val_snoc6 (by simp), hV.out.2.2.1, HWE.out] at m1
          rw [hr6] at m2
          rw [hcy] at m4 m5
          have HE : Hid (mulC [a0, a1, a2, a3, a4, a5] (IntKind.i64.wrap (IntKind.u8.wrap ((s[k].toNat : Int) - 48))) = ([r0, r1, r2, r3, r4, r5], cy)) := by
            show _ = _
            rw [← HR6.out]; exact Prod.ext hr6 hcy
          have HDA : Hid (Digs [a0, a1, a2, a3, a4, a5]) := by rw [← HR6.out]; exact hV.out.2.1
          have hsucc := decV_succ (l := byts s) (k := k) (by rw [byts_length]; exact hlt)
          rw [HBK.out] at hsucc
          have HM : Hid (val [r0, r1, r2, r3, r4, r5] + 79228162514264337593543950336 * cy = decV ((byts s).take (k + 1)) ∧ Digs [r0, r1, r2, r3, r4, r5]) := ⟨by rw [hsucc]; omega, m2⟩
          have HDG : Hid (DigAll ((byts s).take (k + 1))) := digAll_take_succ hV.out.2.2.2 (by rw [byts_length]; exact hlt) (by rw [HBK.out]; exact hdg)
          clear hsucc m1 m2 m3 hr6 hcy hdg
          by_cases hc0 : cy = 0
          · subst hc0
            go_region_with ((go_at_call 48; refine (timesOneAnd_c a0 a1 a2 a3 a4 a5 (IntKind.i64.wrap (IntKind.u8.wrap ((s[k].toNat : Int) - 48))) _ HDA.out HW.out.1 HW.out.2 r0 r1 r2 r3 r4 r5 0 HE.out).mono ?_; rintro e w3 ⟨rfl, hb3⟩; have hbk3 : Below wr.heap.size wr w3 := (Below.refl _ _).drew.trans hb3; have HA3 : Hid (OwnA 53 w3 (w.heap.size + 1) [a0, a1, a2, a3, a4, a5]) := hA.out.later hbk3; obtain ⟨p0, p1, p2, p3, p4, p5⟩ := HA3.out.cells6; have e0 := HA3.out.free 0; have e1 := HA3.out.free 1; have e2 := HA3.out.free 2; have e3 := HA3.out.free 3; have e4 := HA3.out.free 4; have e5 := HA3.out.free 5; have cR3 : w3.cell? ⟨w.heap.size, 0, none⟩ = some (.slice none 0 0) := cell_keep (S := 0) hbk3 cR; have fR3 : w3.frozen? ⟨w.heap.size, 0, none⟩ = false := fcell_keep hbk3 (World.block_lt_of_cell? _ _ cR) fR; have HB3 : Hid (Below w.heap.size w w3) := hB.out.trans (hbk3.mono hB.out.size); clear hb3 hbk3))
            all_goals go_wp2
            all_goals go_roundw
            all_goals first | exact ⟨k + 1, [r0, r1, r2, r3, r4, r5], by omega, by go_num, ⟨rfl, HM.out.2, by have := HM.out.1; omega, HDG.out⟩, HA3.out.set6 r0 r1 r2 r3 r4 r5, keep6 cR3 (by omega), by simpa using fR3, below_set6 HB3.out (by omega)⟩ | (simp [intOf]; omega)
          · have hcb : (cy != 0) = true := by simpa using hc0
            have hov : 79228162514264337593543950336 ≤ decV ((byts s).take (k + 1)) := by
              have h1 := HM.out.1
              have h2 := val_nonneg HM.out.2
              omega
            obtain ⟨rfl, rfl, rfl⟩ := dec_none (digF_over (k := k + 1) (by rw [byts_length]; omega) hov) HF.out HP.out
            clear hc0 hov
            go_region_with ((go_at_call 48; refine (timesOneAnd_c a0 a1 a2 a3 a4 a5 (IntKind.i64.wrap (IntKind.u8.wrap ((s[k].toNat : Int) - 48))) _ HDA.out HW.out.1 HW.out.2 r0 r1 r2 r3 r4 r5 cy HE.out).mono ?_; rintro e w3 ⟨rfl, hb3⟩; have hbk3 : Below wr.heap.size wr w3 := (Below.refl _ _).drew.trans hb3; have HA3 : Hid (OwnA 53 w3 (w.heap.size + 1) [a0, a1, a2, a3, a4, a5]) := hA.out.later hbk3; obtain ⟨p0, p1, p2, p3, p4, p5⟩ := HA3.out.cells6; have e0 := HA3.out.free 0; have e1 := HA3.out.free 1; have e2 := HA3.out.free 2; have e3 := HA3.out.free 3; have e4 := HA3.out.free 4; have e5 := HA3.out.free 5; have cR3 : w3.cell? ⟨w.heap.size, 0, none⟩ = some (.slice none 0 0) := cell_keep (S := 0) hbk3 cR; have fR3 : w3.frozen? ⟨w.heap.size, 0, none⟩ = false := fcell_keep hbk3 (World.block_lt_of_cell? _ _ cR) fR; have HB3 : Hid (Below w.heap.size w w3) := hB.out.trans (hbk3.mono hB.out.size); clear hb3 hbk3))
            all_goals go_wp2
            all_goals refine bodyPost_ret (v := .tuple #[.agg #[.slice none 0 0], .bool false]) (by simp [results, Tryd.results19, go_sem, rsame (keep6 cR3 (show w.heap.size ≠ w.heap.size + 1 by omega))]) rfl ⟨none, 0, rfl, World.ownsRow_nil _ _ _ _, (below_set6 HB3.out (by omega)).setCell (by simp) _⟩
        · have hdg : ¬ (48 ≤ (s[k].toNat : Int) ∧ (s[k].toNat : Int) ≤ 57) := by
            have : (s[k].toNat : Int) < 48 := by assumption
            omega
          obtain ⟨rfl, rfl, rfl⟩ := dec_none (digF_bad (k := k) (by rw [byts_length]; exact hlt) (by rw [HBK.out]; exact hdg)) HF.out HP.out
          refine bodyPost_ret (v := .tuple #[.agg #[.slice none 0 0], .bool false]) (by simp [results, Tryd.results19, go_sem, cR]) rfl ⟨none, 0, rfl, World.ownsRow_nil _ _ _ _, hB.out.setCell (by simp) _⟩
      · obtain rfl : k = s.size := by omega
        have hall : (byts s).take s.size = byts s := List.take_of_length_le (by rw [byts_length]; omega)
        have hvR : val R = decV (byts s) := by rw [hV.out.2.2.1, hall]
        have hdA : DigAll (byts s) := by have := hV.out.2.2.2; rwa [hall] at this
        have hT : digF (byts s) = (trim R, true) := by
          rw [digF_good HNL.out hdA, ← hvR, tellF_good (val_lt6 hV.out.2.1 (by rw [hV.out.1]; omega)), trim_bigL hV.out.2.1]
        have hf := HF.out
        rw [hT] at hf
        simp only [Prod.mk.injEq] at hf
        obtain ⟨hz, rfl⟩ := hf
        obtain ⟨a0, a1, a2, a3, a4, a5, h6⟩ := list6 hV.out.1
        rw [h6] at hA hz
        have HZ : Hid (trim [a0, a1, a2, a3, a4, a5] = zs) := hz
        obtain ⟨q0, q1, q2, q3, q4, q5⟩ := hA.out.cells6
        have lR := World.block_lt_of_cell? _ _ cR
        clear hall hvR hdA hT hz h6
        go_wp2_with fail
        refine (bigFrom_c a0 a1 a2 a3 a4 a5 _ p (by rw [HZ.out]; exact HP.out)).mono ?_
        rw [HZ.out]
        rintro e w2 ⟨a', c', rfl, ho, hb⟩
        have HB2 : Hid (Below w.heap.size w w2) := hB.out.trans (hb.mono hB.out.size)
        have r2' : w2.cell? ⟨w.heap.size, 0, none⟩ = some (.slice none 0 0) := cell_keep (S := 0) hb cR
        have f2' : w2.frozen? ⟨w.heap.size, 0, none⟩ = false := fcell_keep hb lR fR
        have HO2 : Hid (Own w2 wr.heap.size (.slice a' p c') zs) := ho
        clear hb ho cR fR
        go_wp2
        refine bodyPost_ret (v := .tuple #[.agg #[.slice a' p c'], .bool true]) (by simp [results, Tryd.results19, go_sem, r2']) rfl ⟨a', c', rfl, own_set_mono HO2.out (by omega) (by omega), HB2.out.setCell (by simp) _⟩
  · go_enter Tryd.func19, Tryd.ntmps19
    go_wp2
    clear hg2
    go_loopw [28] (fun iv wr => ∃ (k : Nat) (R : List Int), k ≤ s.size ∧ iv = .int .i64 k ∧ Hid (R.length = 6 ∧ Digs R ∧ val R = decV ((byts s).take k) ∧ DigAll ((byts s).take k)) ∧ Hid (OwnA 53 wr (w.heap.size + 1) R) ∧ wr.cell? ⟨w.heap.size, 0, none⟩ = some (.slice none 0 0) ∧ wr.frozen? ⟨w.heap.size, 0, none⟩ = false ∧ Hid (Below w.heap.size w wr)) (fun iv _ => s.size - (intOf iv).toNat)
    case atStart => exact ⟨0, [0, 0, 0, 0, 0, 0], by omega, rfl, ⟨rfl, digs_replicate 6, by simp [val, decV], fun c hc => by simp at hc⟩, ownA_at _ _ _ _ _ rfl (by simp) (by simp), by simp, by simp, below_two w _ _⟩
    case round =>
      obtain ⟨k, R, hk, rfl, hV, hA, cR, fR, hB⟩ := hrel
      by_cases hlt : k < s.size
      · have HBK : Hid ((byts s).getD k 0 = (s[k].toNat : Int)) := byts_getD s k hlt
        obtain ⟨a0, a1, a2, a3, a4, a5, h6⟩ := list6 hV.out.1
        have HR6 : Hid (R = [a0, a1, a2, a3, a4, a5]) := h6
        rw [h6] at hA
        obtain ⟨q0, q1, q2, q3, q4, q5⟩ := hA.out.cells6
        have f0 := hA.out.free 0
        have f1 := hA.out.free 1
        have f2 := hA.out.free 2
        have f3 := hA.out.free 3
        have f4 := hA.out.free 4
        have f5 := hA.out.free 5
        clear h6
        go_wp2
        · have hdg : ¬ (48 ≤ (s[k].toNat : Int) ∧ (s[k].toNat : Int) ≤ 57) := by
            have : (s[k].toNat : Int) < 48 ∨ 57 < (s[k].toNat : Int) := by assumption
            omega
          obtain ⟨rfl, rfl, rfl⟩ := dec_none (digF_bad (k := k) (by rw [byts_length]; exact hlt) (by rw [HBK.out]; exact hdg)) HF.out HP.out
          refine bodyPost_ret (v := .tuple #[.agg #[.slice none 0 0], .bool false]) (by simp [results, Tryd.results19, go_sem, cR]) rfl ⟨none, 0, rfl, World.ownsRow_nil _ _ _ _, hB.out.setCell (by simp) _⟩
        · have hdg : 48 ≤ (s[k].toNat : Int) ∧ (s[k].toNat : Int) ≤ 57 := by assumption
          have HW : Hid (0 ≤ (IntKind.i64.wrap (IntKind.u8.wrap ((s[k].toNat : Int) - 48))) ∧ (IntKind.i64.wrap (IntKind.u8.wrap ((s[k].toNat : Int) - 48))) ≤ 9) := by
            have e : (IntKind.i64.wrap (IntKind.u8.wrap ((s[k].toNat : Int) - 48))) = (s[k].toNat : Int) - 48 := wrap_dig hdg
            rw [e]; exact ⟨by omega, by omega⟩
          have HWE : Hid ((IntKind.i64.wrap (IntKind.u8.wrap ((s[k].toNat : Int) - 48))) = (s[k].toNat : Int) - 48) := wrap_dig hdg
          obtain ⟨m1, m2, m3, m4, m5⟩ := mulC_spec (xs := R) (IntKind.i64.wrap (IntKind.u8.wrap ((s[k].toNat : Int) - 48))) hV.out.2.1 HW.out.1 HW.out.2
          obtain ⟨r0, r1, r2, r3, r4, r5, hr6⟩ := list6 (L := (mulC R (IntKind.i64.wrap (IntKind.u8.wrap ((s[k].toNat : Int) - 48)))).1) (by rw [m3, hV.out.1])
          obtain ⟨cy, hcy⟩ : ∃ cy, (mulC R (IntKind.i64.wrap (IntKind.u8.wrap ((s[k].toNat : Int) - 48)))).2 = cy := ⟨_, rfl⟩
          rw [hcy, hr6, val_snoc6 (by simp), hV.out.2.2.1, HWE.out] at m1
          rw [hr6] at m2
          rw [hcy] at m4 m5
          have HE : Hid (mulC [a0, a1, a2, a3, a4, a5] (IntKind.i64.wrap (IntKind.u8.wrap ((s[k].toNat : Int) - 48))) = ([r0, r1, r2, r3, r4, r5], cy)) := by
            show _ = _
            rw [← HR6.out]; exact Prod.ext hr6 hcy
          have HDA : Hid (Digs [a0, a1, a2, a3, a4, a5]) := by rw [← HR6.out]; exact hV.out.2.1
          have hsucc := decV_succ (l := byts s) (k := k) (by rw [byts_length]; exact hlt)
          rw [HBK.out] at hsucc
          have HM : Hid (val [r0, r1, r2, r3, r4, r5] + 79228162514264337593543950336 * cy = decV ((byts s).take (k + 1)) ∧ Digs [r0, r1, r2, r3, r4, r5]) := ⟨by rw [hsucc]; omega, m2⟩
          have HDG : Hid (DigAll ((byts s).take (k + 1))) := digAll_take_succ hV.out.2.2.2 (by rw [byts_length]; exact hlt) (by rw [HBK.out]; exact hdg)
          clear hsucc m1 m2 m3 hr6 hcy hdg
          by_cases hc0 : cy = 0
          · subst hc0
            go_region_with ((go_at_call 48; refine (timesOneAnd_c a0 a1 a2 a3 a4 a5 (IntKind.i64.wrap (IntKind.u8.wrap ((s[k].toNat : Int) - 48))) _ HDA.out HW.out.1 HW.out.2 r0 r1 r2 r3 r4 r5 0 HE.out).mono ?_; rintro e w3 ⟨rfl, hb3⟩; have hbk3 : Below wr.heap.size wr w3 := (Below.refl _ _).drew.trans hb3; have HA3 : Hid (OwnA 53 w3 (w.heap.size + 1) [a0, a1, a2, a3, a4, a5]) := hA.out.later hbk3; obtain ⟨p0, p1, p2, p3, p4, p5⟩ := HA3.out.cells6; have e0 := HA3.out.free 0; have e1 := HA3.out.free 1; have e2 := HA3.out.free 2; have e3 := HA3.out.free 3; have e4 := HA3.out.free 4; have e5 := HA3.out.free 5; have cR3 : w3.cell? ⟨w.heap.size, 0, none⟩ = some (.slice none 0 0) := cell_keep (S := 0) hbk3 cR; have fR3 : w3.frozen? ⟨w.heap.size, 0, none⟩ = false := fcell_keep hbk3 (World.block_lt_of_cell? _ _ cR) fR; have HB3 : Hid (Below w.heap.size w w3) := hB.out.trans (hbk3.mono hB.out.size); clear hb3 hbk3))
            all_goals go_wp2
            all_goals go_roundw
            all_goals first | exact ⟨k + 1, [r0, r1, r2, r3, r4, r5], by omega, by go_num, ⟨rfl, HM.out.2, by have := HM.out.1; omega, HDG.out⟩, HA3.out.set6 r0 r1 r2 r3 r4 r5, keep6 cR3 (by omega), by simpa using fR3, below_set6 HB3.out (by omega)⟩ | (simp [intOf]; omega)
          · have hcb : (cy != 0) = true := by simpa using hc0
            have hov : 79228162514264337593543950336 ≤ decV ((byts s).take (k + 1)) := by
              have h1 := HM.out.1
              have h2 := val_nonneg HM.out.2
              omega
            obtain ⟨rfl, rfl, rfl⟩ := dec_none (digF_over (k := k + 1) (by rw [byts_length]; omega) hov) HF.out HP.out
            clear hc0 hov
            go_region_with ((go_at_call 48; refine (timesOneAnd_c a0 a1 a2 a3 a4 a5 (IntKind.i64.wrap (IntKind.u8.wrap ((s[k].toNat : Int) - 48))) _ HDA.out HW.out.1 HW.out.2 r0 r1 r2 r3 r4 r5 cy HE.out).mono ?_; rintro e w3 ⟨rfl, hb3⟩; have hbk3 : Below wr.heap.size wr w3 := (Below.refl _ _).drew.trans hb3; have HA3 : Hid (OwnA 53 w3 (w.heap.size + 1) [a0, a1, a2, a3, a4, a5]) := hA.out.later hbk3; obtain ⟨p0, p1, p2, p3, p4, p5⟩ := HA3.out.cells6; have e0 := HA3.out.free 0; have e1 := HA3.out.free 1; have e2 := HA3.out.free 2; have e3 := HA3.out.free 3; have e4 := HA3.out.free 4; have e5 := HA3.out.free 5; have cR3 : w3.cell? ⟨w.heap.size, 0, none⟩ = some (.slice none 0 0) := cell_keep (S := 0) hbk3 cR; have fR3 : w3.frozen? ⟨w.heap.size, 0, none⟩ = false := fcell_keep hbk3 (World.block_lt_of_cell? _ _ cR) fR; have HB3 : Hid (Below w.heap.size w w3) := hB.out.trans (hbk3.mono hB.out.size); clear hb3 hbk3))
            all_goals go_wp2
            all_goals refine bodyPost_ret (v := .tuple #[.agg #[.slice none 0 0], .bool false]) (by simp [results, Tryd.results19, go_sem, rsame (keep6 cR3 (show w.heap.size ≠ w.heap.size + 1 by omega))]) rfl ⟨none, 0, rfl, World.ownsRow_nil _ _ _ _, (below_set6 HB3.out (by omega)).setCell (by simp) _⟩
        · have hdg : ¬ (48 ≤ (s[k].toNat : Int) ∧ (s[k].toNat : Int) ≤ 57) := by
            have : (s[k].toNat : Int) < 48 := by assumption
            omega
          obtain ⟨rfl, rfl, rfl⟩ := dec_none (digF_bad (k := k) (by rw [byts_length]; exact hlt) (by rw [HBK.out]; exact hdg)) HF.out HP.out
          refine bodyPost_ret (v := .tuple #[.agg #[.slice none 0 0], .bool false]) (by simp [results, Tryd.results19, go_sem, cR]) rfl ⟨none, 0, rfl, World.ownsRow_nil _ _ _ _, hB.out.setCell (by simp) _⟩
      · obtain rfl : k = s.size := by omega
        have hall : (byts s).take s.size = byts s := List.take_of_length_le (by rw [byts_length]; omega)
        have hvR : val R = decV (byts s) := by rw [hV.out.2.2.1, hall]
        have hdA : DigAll (byts s) := by have := hV.out.2.2.2; rwa [hall] at this
        have hT : digF (byts s) = (trim R, true) := by
          rw [digF_good HNL.out hdA, ← hvR, tellF_good (val_lt6 hV.out.2.1 (by rw [hV.out.1]; omega)), trim_bigL hV.out.2.1]
        have hf := HF.out
        rw [hT] at hf
        simp only [Prod.mk.injEq] at hf
        obtain ⟨hz, rfl⟩ := hf
        obtain ⟨a0, a1, a2, a3, a4, a5, h6⟩ := list6 hV.out.1
        rw [h6] at hA hz
        have HZ : Hid (trim [a0, a1, a2, a3, a4, a5] = zs) := hz
        obtain ⟨q0, q1, q2, q3, q4, q5⟩ := hA.out.cells6
        have lR := World.block_lt_of_cell? _ _ cR
        clear hall hvR hdA hT hz h6
        go_wp2_with fail
        refine (bigFrom_c a0 a1 a2 a3 a4 a5 _ p (by rw [HZ.out]; exact HP.out)).mono ?_
        rw [HZ.out]
        rintro e w2 ⟨a', c', rfl, ho, hb⟩
        have HB2 : Hid (Below w.heap.size w w2) := hB.out.trans (hb.mono hB.out.size)
        have r2' : w2.cell? ⟨w.heap.size, 0, none⟩ = some (.slice none 0 0) := cell_keep (S := 0) hb cR
        have f2' : w2.frozen? ⟨w.heap.size, 0, none⟩ = false := fcell_keep hb lR fR
        have HO2 : Hid (Own w2 wr.heap.size (.slice a' p c') zs) := ho
        clear hb ho cR fR
        go_wp2
        refine bodyPost_ret (v := .tuple #[.agg #[.slice a' p c'], .bool true]) (by simp [results, Tryd.results19, go_sem, r2']) rfl ⟨a', c', rfl, own_set_mono HO2.out (by omega) (by omega), HB2.out.setCell (by simp) _⟩

theorem implDec_c (s : ByteArray) (w : World) (hs : s.size ≤ 9223372036854775807) (zs : List Int) (fb : Bool) (p : Nat) (hF : digF (byts s) = (zs, fb)) (hp : zs.length = p) :
    Calls Tryd.prog 19 #[.string s] w fun e w' => ∃ a' c', e = .returned (.tuple #[.agg #[.slice a' p c'], .bool fb]) ∧ Own w' w.heap.size (.slice a' p c') zs ∧ Below w.heap.size w w' := by
  by_cases h : s.size < 1 ∨ 30 < s.size ∨ (1 < s.size ∧ (byts s).getD 0 0 = 48)
  · obtain ⟨rfl, rfl, rfl⟩ := dec_none (digF_len (by rw [byts_length]; exact h)) hF hp
    exact implDec_len s w hs h
  · exact implDec_ok s w h zs fb p hF hp

end Go.Proofs.YtaedplfihjfchaaDoor
