/- The law on FnExactDivBig, walked: it answers true at every argument and turns nothing that was there. -/
import Derived.Test.YtjahgpmncamilaaRelDiv
import Derived.Deep.RegionHeld3
import Derived.Deep.DrawnRows
import Derived.Deep.DeepCutAuto
import Derived.Deep.Light
namespace Go.Proofs.Ytjahgpmncamilaa
set_option linter.unusedVariables false
set_option linter.unusedSimpArgs false
open Go.RowKit
attribute [local go_sem ↓] Go.wp_at_zero Go.wp_at_succ

theorem cnewE {w : World} {g : Nat} {v : Value} {t : TypeId} (h : g = w.heap.size) : (w.alloc (.cells #[v] t)).cell? ⟨g, 0, none⟩ = some v := by
  subst h; exact cnew _ _ _

theorem lawDiv_long1 (ao bo : Option Addr) (n m c d : Nat) (w : World) (hm0 : n ≤ 9223372036854775807) (hs : 1048576 < n) :
    Calls Try.prog 10 #[.agg #[.slice ao n c], .agg #[.slice bo m d]] w fun e w' => e = .returned (.bool true) ∧ Below w.heap.size w w' := by
  have HB0 : Hid (Below w.heap.size w ((w.alloc (Obj.cells #[Value.slice ao n c] 37)).alloc (Obj.cells #[Value.slice bo m d] 37))) := below_two w _ _
  go_enter Try.func10, Try.ntmps10
  go_wp2_with fail
  refine (szBig_c ao n c 1048576 _ (by omega) (by omega) (by omega)).mono ?_
  rw [if_pos (by omega)]
  rintro e w1 ⟨rfl, hb⟩
  have HB1 : Hid (Below w.heap.size w w1) := HB0.out.trans (hb.mono (by simp; omega))
  clear hb
  go_wp2
  go_ret
  exact ⟨rfl, HB1.out⟩

theorem lawDiv_long2 (ao bo : Option Addr) (n m c d : Nat) (w : World) (hm1 : m ≤ 9223372036854775807) (h1 : n ≤ 1048576) (hs : (1048576 : Int) - n < m) :
    Calls Try.prog 10 #[.agg #[.slice ao n c], .agg #[.slice bo m d]] w fun e w' => e = .returned (.bool true) ∧ Below w.heap.size w w' := by
  have HB0 : Hid (Below w.heap.size w ((w.alloc (Obj.cells #[Value.slice ao n c] 37)).alloc (Obj.cells #[Value.slice bo m d] 37))) := below_two w _ _
  go_enter Try.func10, Try.ntmps10
  go_wp2_with fail
  refine (szBig_c ao n c 1048576 _ (by omega) (by omega) (by omega)).mono ?_
  rw [if_neg (by omega)]
  rintro e w1 ⟨rfl, hb⟩
  have HB1 : Hid (Below w.heap.size w w1) := HB0.out.trans (hb.mono (by simp; omega))
  have B_1 : w1.cell? ⟨w.heap.size + 1, 0, none⟩ = some (.slice bo m d) := cell_keep (S := 0) hb (by simp)
  clear hb
  go_wp2_with fail
  refine (szBig_c bo m d (1048576 - n) _ (by omega) (by omega) (by omega)).mono ?_
  rw [if_pos (by omega)]
  rintro e w2 ⟨rfl, hb⟩
  have HB2 : Hid (Below w.heap.size w w2) := HB1.out.trans (hb.mono HB1.out.size)
  clear hb
  go_wp2
  go_ret
  exact ⟨rfl, HB2.out⟩

set_option maxHeartbeats 16000000 in
set_option maxRecDepth 1000000 in
theorem lawDiv_c (ao bo : Option Addr) (n m c d : Nat) (xs ys : List Int) (w : World) (hx : xs.length = n) (hy : ys.length = m) (hm0 : n ≤ 9223372036854775807) (hm1 : m ≤ 9223372036854775807) (hr : Rd w ao xs) (hs : Rd w bo ys) :
    Calls Try.prog 10 #[.agg #[.slice ao n c], .agg #[.slice bo m d]] w fun e w' => e = .returned (.bool true) ∧ Below w.heap.size w w' := by
  by_cases h1 : 1048576 < n
  · exact lawDiv_long1 ao bo n m c d w hm0 h1
  by_cases h2 : (1048576 : Int) - n < m
  · exact lawDiv_long2 ao bo n m c d w hm1 (by omega) h2
  · have HX : Hid (xs.length = n) := hx
    have HY : Hid (ys.length = m) := hy
    have HR : Hid (Rd w ao xs) := hr
    have HS : Hid (Rd w bo ys) := hs
    have HB0 : Hid (Below w.heap.size w ((w.alloc (Obj.cells #[Value.slice ao n c] 37)).alloc (Obj.cells #[Value.slice bo m d] 37))) := below_two w _ _
    obtain ⟨zs, us, fb, hF⟩ : ∃ zs us fb, divF xs ys = (zs, us, fb) := ⟨_, _, _, rfl⟩
    have HF : Hid (divF xs ys = (zs, us, fb)) := hF
    obtain ⟨p, hp⟩ : ∃ p, zs.length = p := ⟨_, rfl⟩
    obtain ⟨q, hq⟩ : ∃ q, us.length = q := ⟨_, rfl⟩
    have HP : Hid (zs.length = p) := hp
    have HQ : Hid (us.length = q) := hq
    have hp6 : p ≤ 6 := by rw [← hp]; exact (divF_short hF).1
    have hq6 : q ≤ 6 := by rw [← hq]; exact (divF_short hF).2
    have hfb : (fb != fb) = false := by simp
    clear hx hy hr hs hF hp hq
    have hn : n ≤ 17592186044416 := by omega
    have hm : m ≤ 17592186044416 := by omega
    go_enter Try.func10, Try.ntmps10
    go_wp2_with fail
    refine (szBig_c ao n c 1048576 _ (by omega) (by omega) (by omega)).mono ?_
    rw [if_neg (by omega)]
    rintro e w1 ⟨rfl, hb⟩
    have HB1 : Hid (Below w.heap.size w w1) := HB0.out.trans (hb.mono (by simp; omega))
    have A_1 : w1.cell? ⟨w.heap.size, 0, none⟩ = some (Value.slice ao n c) := cell_keep (S := 0) hb (by simp)
    have B_1 : w1.cell? ⟨w.heap.size + 1, 0, none⟩ = some (Value.slice bo m d) := cell_keep (S := 0) hb (by simp)
    have z1 : w.heap.size + 2 ≤ w1.heap.size := by have := hb.size; simp at this; omega
    clear hb
    go_wp2_with fail
    have hba : Below w1.heap.size w1 w1 := Below.refl _ _
    refine (szBig_c bo m d (1048576 - n) _ (by omega) (by omega) (by omega)).mono ?_
    rw [if_neg (by omega)]
    rintro e w2 ⟨rfl, hb⟩
    have hbk : Below w1.heap.size w1 w2 := hba.trans (hb.mono (by first | exact Nat.le_refl _ | (simp; done) | (simp; omega)))
    have HB2 : Hid (Below w.heap.size w w2) := HB1.out.trans (hbk.mono HB1.out.size)
    have z2 : w1.heap.size ≤ w2.heap.size := hbk.size
    have A_2 : w2.cell? ⟨w.heap.size, 0, none⟩ = some (Value.slice ao n c) := cell_keep (S := 0) hbk A_1
    have B_2 : w2.cell? ⟨w.heap.size + 1, 0, none⟩ = some (Value.slice bo m d) := cell_keep (S := 0) hbk B_1
    have lA_2 : w.heap.size < w2.heap.size := World.block_lt_of_cell? _ _ A_2
    have lB_2 : w.heap.size + 1 < w2.heap.size := World.block_lt_of_cell? _ _ B_2
    clear hba
    clear hb hbk
    clear A_1 B_1
    go_upto_region 8 with fail
    go_cut [6, 7, 8] (fun ua ub uv wx => ∃ (g1 h1 : Nat) (a1 : Option Addr) (d1 : Nat) (e1 : Option Addr) (f1 : Nat), ua = .pointer (some ⟨g1, 0, none⟩) ∧ ub = .pointer (some ⟨h1, 0, none⟩) ∧ uv = .bool fb ∧ wx.cell? ⟨g1, 0, none⟩ = some (Value.slice a1 p d1) ∧ wx.cell? ⟨h1, 0, none⟩ = some (Value.slice e1 q f1) ∧ Hid (Own wx w2.heap.size (Value.slice a1 p d1) zs) ∧ Hid (Own wx w2.heap.size (Value.slice e1 q f1) us) ∧ Hid (Below w2.heap.size w2 wx))
    case first => as_aux_lemma =>
      have tok1 : True := trivial
      have HBs : Hid (Below w2.heap.size w2 w2) := Below.refl _ _
      have lAs : w.heap.size + 1 < w2.heap.size := World.block_lt_of_cell? _ _ B_2
      go_region_held3 (fun w' => w'.cell? ⟨w.heap.size, 0, none⟩ = some (Value.slice ao n c) ∧ w'.cell? ⟨w.heap.size + 1, 0, none⟩ = some (Value.slice bo m d)) (first | go_keep | (refine ⟨?_, ?_⟩ <;> (repeat (first | rw [cset_ne (by omega)] | rw [calloc_eq (by first | omega | (simp; omega))])) <;> assumption)) (first
        | (go_at_call 34; have _t := tok1; refine (toBig_d HX.out hn (HR.out.later HB2.out) _ (by repeat (first | exact HBs.out | refine Below.drew ?_ | refine Below.alloc ?_ (by first | omega | (simp; done) | (simp; omega)) _))).mono ?_; rintro e wp1 ⟨b1, e1, rfl, ho1, HBp1, hb1⟩; clear tok1 _t; have A_p1 : wp1.cell? ⟨w.heap.size, 0, none⟩ = some (Value.slice ao n c) := cell_keep (S := 0) hb1 (by first | exact A_2 | exact calloc A_2 | exact calloc (calloc A_2)); have B_p1 : wp1.cell? ⟨w.heap.size + 1, 0, none⟩ = some (Value.slice bo m d) := cell_keep (S := 0) hb1 (by first | exact B_2 | exact calloc B_2 | exact calloc (calloc B_2)); have lp1 : w.heap.size + 1 < wp1.heap.size := World.block_lt_of_cell? _ _ B_p1; have R1 : Hid (Rd wp1 b1 xs) := ho1.rd'.2; have zp1 : w2.heap.size ≤ wp1.heap.size := HBp1.out.size; obtain ⟨hc1, hf1⟩ := bcell hb1; have zq1 := hb1.size; (try simp at hc1); (try simp at hf1); (try simp at zq1); (try (have zzw2_1 : w2.heap.size < wp1.heap.size := by omega)); (try (have zyw2_1 : w2.heap.size + 1 < wp1.heap.size := by omega)); clear hb1 ho1)
        | (go_at_call 34; refine (toBig_d HY.out hm (HS.out.later HB2.out) _ (by repeat (first | exact HBp1.out | refine Below.drew ?_ | refine Below.alloc ?_ (by first | omega | (simp; done) | (simp; omega)) _))).mono ?_; rintro e wp2 ⟨b2, e2, rfl, ho2, HBp2, hb2⟩; have A_p2 : wp2.cell? ⟨w.heap.size, 0, none⟩ = some (Value.slice ao n c) := cell_keep (S := 0) hb2 (by first | exact A_p1 | exact calloc A_p1 | exact calloc (calloc A_p1)); have B_p2 : wp2.cell? ⟨w.heap.size + 1, 0, none⟩ = some (Value.slice bo m d) := cell_keep (S := 0) hb2 (by first | exact B_p1 | exact calloc B_p1 | exact calloc (calloc B_p1)); have lp2 : w.heap.size + 1 < wp2.heap.size := World.block_lt_of_cell? _ _ B_p2; have R1' : Hid (Rd wp2 b1 xs) := Rd.later (by first | exact R1.out | exact R1.out.alloc _ | exact (R1.out.alloc _).alloc _) hb2; have R2 : Hid (Rd wp2 b2 ys) := ho2.rd'.2; have zp2 : w2.heap.size ≤ wp2.heap.size := HBp2.out.size; obtain ⟨hc2, hf2⟩ := bcell hb2; have zq2 := hb2.size; (try simp at hc2); (try simp at hf2); (try simp at zq2); (try (have zzw2_2 : w2.heap.size < wp2.heap.size := by omega)); (try (have zyw2_2 : w2.heap.size + 1 < wp2.heap.size := by omega)); (try (have zzwp1_2 : wp1.heap.size < wp2.heap.size := by omega)); (try (have zywp1_2 : wp1.heap.size + 1 < wp2.heap.size := by omega)); clear hb2 ho2)
        | (go_at_call 43; refine (specDiv_d (w := w2) HX.out HY.out hn hm (by first | exact R1'.out | exact R1'.out.alloc _ | exact (R1'.out.alloc _).alloc _) (by first | exact R2.out | exact R2.out.alloc _ | exact (R2.out.alloc _).alloc _) HF.out HP.out HQ.out (by repeat (first | exact HBp2.out | refine Below.drew ?_ | refine Below.alloc ?_ (by first | omega | (simp; done) | (simp; omega)) _))).mono ?_; rintro e wp3 ⟨a1, d1, e1, f1, rfl, ho3, ho4, HBp3, hb3⟩; have A_p3 : wp3.cell? ⟨w.heap.size, 0, none⟩ = some (Value.slice ao n c) := cell_keep (S := 0) hb3 (by first | exact A_p2 | exact calloc A_p2 | exact calloc (calloc A_p2)); have B_p3 : wp3.cell? ⟨w.heap.size + 1, 0, none⟩ = some (Value.slice bo m d) := cell_keep (S := 0) hb3 (by first | exact B_p2 | exact calloc B_p2 | exact calloc (calloc B_p2)); have lp3 : w.heap.size + 1 < wp3.heap.size := World.block_lt_of_cell? _ _ B_p3; have zp3 : w2.heap.size ≤ wp3.heap.size := HBp3.out.size; obtain ⟨H3, hH3, HM3⟩ : ∃ H3 : Nat, H3 = _ ∧ Hid (Own wp3 H3 (Value.slice a1 p d1) zs ∧ Own wp3 H3 (Value.slice e1 q f1) us) := ⟨_, rfl, ho3, ho4⟩; have hH3b : wp2.heap.size ≤ H3 := (by rw [hH3]; first | exact Nat.le_refl _ | (simp; done) | (simp; omega)); (try (have hH3c : wp2.heap.size < H3 := by rw [hH3]; first | (simp; done) | (simp; omega))); (try (have hH3d : wp2.heap.size + 1 < H3 := by rw [hH3]; first | (simp; done) | (simp; omega))); clear hH3; obtain ⟨hc3, hf3⟩ := bcell hb3; have zq3 := hb3.size; (try simp at hc3); (try simp at hf3); (try simp at zq3); (try (have zzw2_3 : w2.heap.size < wp3.heap.size := by omega)); (try (have zyw2_3 : w2.heap.size + 1 < wp3.heap.size := by omega)); (try (have zzwp1_3 : wp1.heap.size < wp3.heap.size := by omega)); (try (have zywp1_3 : wp1.heap.size + 1 < wp3.heap.size := by omega)); (try (have zzwp2_3 : wp2.heap.size < wp3.heap.size := by omega)); (try (have zywp2_3 : wp2.heap.size + 1 < wp3.heap.size := by omega)); clear hb3 ho3 ho4))
      all_goals go_wp2_with fail
      all_goals go_meet
      all_goals go_light
      all_goals refine ⟨_, _, a1, d1, e1, f1, rfl, rfl, rfl, ?_, ?_, ?_, ?_, ?_⟩
      all_goals try (repeat' (first | (with_reducible refine cnewE ?_; first | rfl | (simp; done)) | with_reducible refine calloc ?_ | with_reducible refine rsame (u := Value.slice none 0 0) ?_ | (with_reducible refine keep1 ?_ (by omega))))
      all_goals first
        | (show Own _ _ _ _; with_reducible exact ((HM3.out.1.later (balloc _ _)).later (balloc _ _)).mono (by omega))
        | (show Own _ _ _ _; with_reducible exact ((own_set_below HM3.out.1 (by omega) _).later (balloc _ _)).mono (by omega))
        | (show Own _ _ _ _; with_reducible exact (own_set_below (own_set_below HM3.out.1 (by omega) _) (by omega) _).mono (by omega))
        | (show Own _ _ _ _; with_reducible exact ((HM3.out.2.later (balloc _ _)).later (balloc _ _)).mono (by omega))
        | (show Own _ _ _ _; with_reducible exact ((own_set_below HM3.out.2 (by omega) _).later (balloc _ _)).mono (by omega))
        | (show Own _ _ _ _; with_reducible exact (own_set_below (own_set_below HM3.out.2 (by omega) _) (by omega) _).mono (by omega))
        | (show Below _ _ _; repeat (first | with_reducible exact HBp3.out | refine Below.alloc ?_ (by first | omega | (simp; done) | (simp; omega)) _ | refine Below.setCell ?_ (by first | omega | (simp; done) | (simp; omega)) _))
        | (simp [go_sem, *]; done)
    case rest => as_aux_lemma =>
      obtain ⟨g1, h1, a1, d1, e1, f1, rfl, rfl, rfl, c0, c1, ho, ho2, hb⟩ := hcut
      obtain ⟨w3, rfl⟩ : ∃ w3 : World, w3 = wc := ⟨_, rfl⟩
      have hbk : Below w2.heap.size w2 w3 := hb.out
      have HB3 : Hid (Below w.heap.size w w3) := HB2.out.trans (hbk.mono HB2.out.size)
      have z3 : w2.heap.size ≤ w3.heap.size := hbk.size
      have A_3 : w3.cell? ⟨w.heap.size, 0, none⟩ = some (Value.slice ao n c) := cell_keep (S := 0) hbk A_2
      have B_3 : w3.cell? ⟨w.heap.size + 1, 0, none⟩ = some (Value.slice bo m d) := cell_keep (S := 0) hbk B_2
      have bw_3 : w3.cell? ⟨g1, 0, none⟩ = some (Value.slice a1 p d1) := c0
      have lo_bw : g1 < w3.heap.size := World.block_lt_of_cell? _ _ bw_3
      have bv_3 : w3.cell? ⟨h1, 0, none⟩ = some (Value.slice e1 q f1) := c1
      have lo_bv : h1 < w3.heap.size := World.block_lt_of_cell? _ _ bv_3
      have Z_3 : Hid (Own w3 w2.heap.size (Value.slice a1 p d1) zs) := ho
      have I_Z : Hid (∀ k, (Value.slice a1 p d1).ownBlock = some k → w2.heap.size ≤ k ∧ k < w3.heap.size) := World.ownsRow.lt Z_3.out
      have Y2_3 : Hid (Own w3 w2.heap.size (Value.slice e1 q f1) us) := ho2
      have I_Y2 : Hid (∀ k, (Value.slice e1 q f1).ownBlock = some k → w2.heap.size ≤ k ∧ k < w3.heap.size) := World.ownsRow.lt Y2_3.out
      have lA_3 : w.heap.size < w3.heap.size := World.block_lt_of_cell? _ _ A_3
      have lB_3 : w.heap.size + 1 < w3.heap.size := World.block_lt_of_cell? _ _ B_3
      have lbw_3 : g1 < w3.heap.size := World.block_lt_of_cell? _ _ bw_3
      have lbv_3 : h1 < w3.heap.size := World.block_lt_of_cell? _ _ bv_3
      clear A_2 B_2 lA_2 lB_2
      clear hb hbk ho ho2 c0 c1
      go_wp2_with fail
      have hba : Below w3.heap.size w3 w3 := Below.refl _ _
      refine (toBig_c ao n c xs _ HX.out hn (HR.out.later HB3.out)).mono ?_
      rintro e w4 ⟨a3, d3, rfl, ho, hb⟩
      have hbk : Below w3.heap.size w3 w4 := hba.trans (hb.mono (by first | exact Nat.le_refl _ | (simp; done) | (simp; omega)))
      have HB4 : Hid (Below w.heap.size w w4) := HB3.out.trans (hbk.mono HB3.out.size)
      have z4 : w3.heap.size ≤ w4.heap.size := hbk.size
      have A_4 : w4.cell? ⟨w.heap.size, 0, none⟩ = some (Value.slice ao n c) := cell_keep (S := 0) hbk A_3
      have B_4 : w4.cell? ⟨w.heap.size + 1, 0, none⟩ = some (Value.slice bo m d) := cell_keep (S := 0) hbk B_3
      have bw_4 : w4.cell? ⟨g1, 0, none⟩ = some (Value.slice a1 p d1) := cell_keep (S := 0) hbk bw_3
      have bv_4 : w4.cell? ⟨h1, 0, none⟩ = some (Value.slice e1 q f1) := cell_keep (S := 0) hbk bv_3
      have Z_4 : Hid (Own w4 w2.heap.size (Value.slice a1 p d1) (zs)) := Z_3.out.later hbk
      have Y2_4 : Hid (Own w4 w2.heap.size (Value.slice e1 q f1) (us)) := Y2_3.out.later hbk
      have X_4 : Hid (Own w4 w3.heap.size (Value.slice a3 n d3) (xs)) := ho.mono (by first | exact Nat.le_refl _ | (simp; done) | (simp; omega))
      have I_X : Hid (∀ k, (Value.slice a3 n d3).ownBlock = some k → w3.heap.size ≤ k ∧ k < w4.heap.size) := World.ownsRow.lt X_4.out
      have lA_4 : w.heap.size < w4.heap.size := World.block_lt_of_cell? _ _ A_4
      have lB_4 : w.heap.size + 1 < w4.heap.size := World.block_lt_of_cell? _ _ B_4
      have lbw_4 : g1 < w4.heap.size := World.block_lt_of_cell? _ _ bw_4
      have lbv_4 : h1 < w4.heap.size := World.block_lt_of_cell? _ _ bv_4
      clear hba
      clear hb hbk
      clear ho
      clear A_3 B_3 bw_3 bv_3 Z_3 Y2_3 lA_3 lB_3 lbw_3 lbv_3
      go_wp2_with fail
      have hba : Below w4.heap.size w4 (w4.alloc (Obj.cells #[Value.slice a3 n d3] 25)) := (Below.refl _ _).alloc (Nat.le_refl _) _
      refine (toBig_c bo m d ys _ HY.out hm (HS.out.later (HB4.out.trans (hba.mono HB4.out.size)))).mono ?_
      rintro e w5 ⟨a4, d4, rfl, ho, hb⟩
      have hbk : Below w4.heap.size w4 w5 := hba.trans (hb.mono (by first | exact Nat.le_refl _ | (simp; done) | (simp; omega)))
      have HB5 : Hid (Below w.heap.size w w5) := HB4.out.trans (hbk.mono HB4.out.size)
      have z5 : w4.heap.size ≤ w5.heap.size := hbk.size
      have A_5 : w5.cell? ⟨w.heap.size, 0, none⟩ = some (Value.slice ao n c) := cell_keep (S := 0) hbk A_4
      have B_5 : w5.cell? ⟨w.heap.size + 1, 0, none⟩ = some (Value.slice bo m d) := cell_keep (S := 0) hbk B_4
      have bw_5 : w5.cell? ⟨g1, 0, none⟩ = some (Value.slice a1 p d1) := cell_keep (S := 0) hbk bw_4
      have bv_5 : w5.cell? ⟨h1, 0, none⟩ = some (Value.slice e1 q f1) := cell_keep (S := 0) hbk bv_4
      have bx_5 : w5.cell? ⟨w4.heap.size, 0, none⟩ = some (Value.slice a3 n d3) := cell_keep (S := 0) hb (by simp)
      have zl5 : w4.heap.size < w5.heap.size := by have := hb.size; simp at this; omega
      have Z_5 : Hid (Own w5 w2.heap.size (Value.slice a1 p d1) (zs)) := Z_4.out.later hbk
      have Y2_5 : Hid (Own w5 w2.heap.size (Value.slice e1 q f1) (us)) := Y2_4.out.later hbk
      have X_5 : Hid (Own w5 w3.heap.size (Value.slice a3 n d3) (xs)) := X_4.out.later hbk
      have Y_5 : Hid (Own w5 (w4.heap.size + 1) (Value.slice a4 m d4) (ys)) := ho.mono (by first | exact Nat.le_refl _ | (simp; done) | (simp; omega))
      have I_Y : Hid (∀ k, (Value.slice a4 m d4).ownBlock = some k → (w4.heap.size + 1) ≤ k ∧ k < w5.heap.size) := World.ownsRow.lt Y_5.out
      have lA_5 : w.heap.size < w5.heap.size := World.block_lt_of_cell? _ _ A_5
      have lB_5 : w.heap.size + 1 < w5.heap.size := World.block_lt_of_cell? _ _ B_5
      have lbw_5 : g1 < w5.heap.size := World.block_lt_of_cell? _ _ bw_5
      have lbv_5 : h1 < w5.heap.size := World.block_lt_of_cell? _ _ bv_5
      have lbx_5 : w4.heap.size < w5.heap.size := World.block_lt_of_cell? _ _ bx_5
      clear hba
      clear hb hbk
      clear ho
      clear A_4 B_4 bw_4 bv_4 Z_4 Y2_4 X_4 lA_4 lB_4 lbw_4 lbv_4
      go_wp2_with fail
      have hba : Below w5.heap.size w5 (w5.alloc (Obj.cells #[Value.slice a4 m d4] 25)) := (Below.refl _ _).alloc (Nat.le_refl _) _
      refine (implDiv_c a3 a4 n m d3 d4 xs ys _ HX.out HY.out hn hm (X_5.out.rd'.2.later hba) (Y_5.out.rd'.2.later hba) zs us fb p q HF.out HP.out HQ.out).mono ?_
      rintro e w6 ⟨a5, d5, a6, d6, M, rfl, ho, ho2, hM, hb⟩
      have hbk : Below w5.heap.size w5 w6 := hba.trans (hb.mono (by first | exact Nat.le_refl _ | (simp; done) | (simp; omega)))
      have zl6 : w5.heap.size < w6.heap.size := by have := hb.size; simp at this; omega
      have hM1 : w5.heap.size + 1 ≤ M := by have := hM.1; simp at this; omega
      obtain ⟨N, hN1, hN2, hN3, hN4⟩ : ∃ N, N ≤ M ∧ N ≤ w6.heap.size ∧ w5.heap.size + 1 ≤ N ∧ ∀ k, k < M → k < w6.heap.size → k < N := ⟨min M w6.heap.size, by omega, by omega, by omega, fun k h1 h2 => by omega⟩
      have HB6 : Hid (Below w.heap.size w w6) := HB5.out.trans (hbk.mono HB5.out.size)
      have z6 : w5.heap.size ≤ w6.heap.size := hbk.size
      have A_6 : w6.cell? ⟨w.heap.size, 0, none⟩ = some (Value.slice ao n c) := cell_keep (S := 0) hbk A_5
      have B_6 : w6.cell? ⟨w.heap.size + 1, 0, none⟩ = some (Value.slice bo m d) := cell_keep (S := 0) hbk B_5
      have bw_6 : w6.cell? ⟨g1, 0, none⟩ = some (Value.slice a1 p d1) := cell_keep (S := 0) hbk bw_5
      have bv_6 : w6.cell? ⟨h1, 0, none⟩ = some (Value.slice e1 q f1) := cell_keep (S := 0) hbk bv_5
      have bx_6 : w6.cell? ⟨w4.heap.size, 0, none⟩ = some (Value.slice a3 n d3) := cell_keep (S := 0) hbk bx_5
      have Z_6 : Hid (Own w6 w2.heap.size (Value.slice a1 p d1) (zs)) := Z_5.out.later hbk
      have Y2_6 : Hid (Own w6 w2.heap.size (Value.slice e1 q f1) (us)) := Y2_5.out.later hbk
      have X_6 : Hid (Own w6 w3.heap.size (Value.slice a3 n d3) (xs)) := X_5.out.later hbk
      have Y_6 : Hid (Own w6 (w4.heap.size + 1) (Value.slice a4 m d4) (ys)) := Y_5.out.later hbk
      have bz_6 : w6.cell? ⟨w5.heap.size, 0, none⟩ = some (Value.slice a4 m d4) := cell_keep (S := 0) hb (by simp)
      have lo_bz : w5.heap.size < w6.heap.size := World.block_lt_of_cell? _ _ bz_6
      have G_6 : Hid (Own w6 (w5.heap.size + 1) (Value.slice a5 p d5) zs) := ho.mono (by first | exact Nat.le_refl _ | (simp; done) | (simp; omega))
      have H_6 : Hid (Own w6 N (Value.slice a6 q d6) us) := ho2.mono hN1
      have I_H : Hid (∀ k, (Value.slice a6 q d6).ownBlock = some k → N ≤ k ∧ k < w6.heap.size) := World.ownsRow.lt H_6.out
      have lA_6 : w.heap.size < w6.heap.size := World.block_lt_of_cell? _ _ A_6
      have lB_6 : w.heap.size + 1 < w6.heap.size := World.block_lt_of_cell? _ _ B_6
      have lbw_6 : g1 < w6.heap.size := World.block_lt_of_cell? _ _ bw_6
      have lbv_6 : h1 < w6.heap.size := World.block_lt_of_cell? _ _ bv_6
      have lbx_6 : w4.heap.size < w6.heap.size := World.block_lt_of_cell? _ _ bx_6
      have lbz_6 : w5.heap.size < w6.heap.size := World.block_lt_of_cell? _ _ bz_6
      clear A_5 B_5 bw_5 bv_5 bx_5 Z_5 Y2_5 X_5 Y_5 lA_5 lB_5 lbw_5 lbv_5 lbx_5
      have I_G : Hid (∀ k, (Value.slice a5 p d5).ownBlock = some k → (w5.heap.size + 1) ≤ k ∧ k < N) := fun k e => ⟨(World.ownsRow.lt G_6.out k e).1, hN4 k (hM.2 k e) (World.ownsRow.lt G_6.out k e).2⟩
      clear hb hbk hba ho ho2 hM hN4
      go_wp2_with fail
      have hbk : Below w6.heap.size w6 ((w6.alloc (Obj.cells #[Value.slice a5 p d5] 25)).alloc (Obj.cells #[Value.slice a6 q d6] 25)) := ((Below.refl _ _).alloc (Nat.le_refl _) _).alloc (by simp) _
      have cg : ((w6.alloc (Obj.cells #[Value.slice a5 p d5] 25)).alloc (Obj.cells #[Value.slice a6 q d6] 25)).cell? ⟨w6.heap.size, 0, none⟩ = some (Value.slice a5 p d5) := calloc (by simp)
      have ch : ((w6.alloc (Obj.cells #[Value.slice a5 p d5] 25)).alloc (Obj.cells #[Value.slice a6 q d6] 25)).cell? ⟨w6.heap.size + 1, 0, none⟩ = some (Value.slice a6 q d6) := by rw [World.cell?_alloc_at _ _ _ _ (by simp)]; rfl
      generalize ((w6.alloc (Obj.cells #[Value.slice a5 p d5] 25)).alloc (Obj.cells #[Value.slice a6 q d6] 25)) = w7 at hbk cg ch ⊢
      have HB7 : Hid (Below w.heap.size w w7) := HB6.out.trans (hbk.mono HB6.out.size)
      have z7 : w6.heap.size ≤ w7.heap.size := hbk.size
      have A_7 : w7.cell? ⟨w.heap.size, 0, none⟩ = some (Value.slice ao n c) := cell_keep (S := 0) hbk A_6
      have B_7 : w7.cell? ⟨w.heap.size + 1, 0, none⟩ = some (Value.slice bo m d) := cell_keep (S := 0) hbk B_6
      have bw_7 : w7.cell? ⟨g1, 0, none⟩ = some (Value.slice a1 p d1) := cell_keep (S := 0) hbk bw_6
      have bv_7 : w7.cell? ⟨h1, 0, none⟩ = some (Value.slice e1 q f1) := cell_keep (S := 0) hbk bv_6
      have bx_7 : w7.cell? ⟨w4.heap.size, 0, none⟩ = some (Value.slice a3 n d3) := cell_keep (S := 0) hbk bx_6
      have bz_7 : w7.cell? ⟨w5.heap.size, 0, none⟩ = some (Value.slice a4 m d4) := cell_keep (S := 0) hbk bz_6
      have Z_7 : Hid (Own w7 w2.heap.size (Value.slice a1 p d1) (zs)) := Z_6.out.later hbk
      have Y2_7 : Hid (Own w7 w2.heap.size (Value.slice e1 q f1) (us)) := Y2_6.out.later hbk
      have X_7 : Hid (Own w7 w3.heap.size (Value.slice a3 n d3) (xs)) := X_6.out.later hbk
      have Y_7 : Hid (Own w7 (w4.heap.size + 1) (Value.slice a4 m d4) (ys)) := Y_6.out.later hbk
      have G_7 : Hid (Own w7 (w5.heap.size + 1) (Value.slice a5 p d5) (zs)) := G_6.out.later hbk
      have H_7 : Hid (Own w7 N (Value.slice a6 q d6) (us)) := H_6.out.later hbk
      have bg_7 : w7.cell? ⟨w6.heap.size, 0, none⟩ = some (Value.slice a5 p d5) := cg
      have lo_bg : w6.heap.size < w7.heap.size := World.block_lt_of_cell? _ _ bg_7
      have bh_7 : w7.cell? ⟨w6.heap.size + 1, 0, none⟩ = some (Value.slice a6 q d6) := ch
      have lo_bh : w6.heap.size + 1 < w7.heap.size := World.block_lt_of_cell? _ _ bh_7
      have lA_7 : w.heap.size < w7.heap.size := World.block_lt_of_cell? _ _ A_7
      have lB_7 : w.heap.size + 1 < w7.heap.size := World.block_lt_of_cell? _ _ B_7
      have lbw_7 : g1 < w7.heap.size := World.block_lt_of_cell? _ _ bw_7
      have lbv_7 : h1 < w7.heap.size := World.block_lt_of_cell? _ _ bv_7
      have lbx_7 : w4.heap.size < w7.heap.size := World.block_lt_of_cell? _ _ bx_7
      have lbz_7 : w5.heap.size < w7.heap.size := World.block_lt_of_cell? _ _ bz_7
      have lbg_7 : w6.heap.size < w7.heap.size := World.block_lt_of_cell? _ _ bg_7
      have lbh_7 : w6.heap.size + 1 < w7.heap.size := World.block_lt_of_cell? _ _ bh_7
      clear A_6 B_6 bw_6 bv_6 bx_6 bz_6 Z_6 Y2_6 X_6 Y_6 G_6 H_6 lA_6 lB_6 lbw_6 lbv_6 lbx_6 lbz_6
      clear hbk cg ch
      have hba : Below w7.heap.size w7 w7 := Below.refl _ _
      refine (eqBig_c a5 a1 p p d5 d1 zs zs _ HP.out HP.out (by omega) (by omega) G_7.out.rd'.2 Z_7.out.rd'.2).mono ?_
      rw [decide_eq_true rfl]
      rintro e w8 ⟨rfl, hb⟩
      have hbk : Below w7.heap.size w7 w8 := hba.trans (hb.mono (by first | exact Nat.le_refl _ | (simp; done) | (simp; omega)))
      have HB8 : Hid (Below w.heap.size w w8) := HB7.out.trans (hbk.mono HB7.out.size)
      have z8 : w7.heap.size ≤ w8.heap.size := hbk.size
      have A_8 : w8.cell? ⟨w.heap.size, 0, none⟩ = some (Value.slice ao n c) := cell_keep (S := 0) hbk A_7
      have B_8 : w8.cell? ⟨w.heap.size + 1, 0, none⟩ = some (Value.slice bo m d) := cell_keep (S := 0) hbk B_7
      have bw_8 : w8.cell? ⟨g1, 0, none⟩ = some (Value.slice a1 p d1) := cell_keep (S := 0) hbk bw_7
      have bv_8 : w8.cell? ⟨h1, 0, none⟩ = some (Value.slice e1 q f1) := cell_keep (S := 0) hbk bv_7
      have bx_8 : w8.cell? ⟨w4.heap.size, 0, none⟩ = some (Value.slice a3 n d3) := cell_keep (S := 0) hbk bx_7
      have bz_8 : w8.cell? ⟨w5.heap.size, 0, none⟩ = some (Value.slice a4 m d4) := cell_keep (S := 0) hbk bz_7
      have bg_8 : w8.cell? ⟨w6.heap.size, 0, none⟩ = some (Value.slice a5 p d5) := cell_keep (S := 0) hbk bg_7
      have bh_8 : w8.cell? ⟨w6.heap.size + 1, 0, none⟩ = some (Value.slice a6 q d6) := cell_keep (S := 0) hbk bh_7
      have Z_8 : Hid (Own w8 w2.heap.size (Value.slice a1 p d1) (zs)) := Z_7.out.later hbk
      have Y2_8 : Hid (Own w8 w2.heap.size (Value.slice e1 q f1) (us)) := Y2_7.out.later hbk
      have X_8 : Hid (Own w8 w3.heap.size (Value.slice a3 n d3) (xs)) := X_7.out.later hbk
      have Y_8 : Hid (Own w8 (w4.heap.size + 1) (Value.slice a4 m d4) (ys)) := Y_7.out.later hbk
      have G_8 : Hid (Own w8 (w5.heap.size + 1) (Value.slice a5 p d5) (zs)) := G_7.out.later hbk
      have H_8 : Hid (Own w8 N (Value.slice a6 q d6) (us)) := H_7.out.later hbk
      have lA_8 : w.heap.size < w8.heap.size := World.block_lt_of_cell? _ _ A_8
      have lB_8 : w.heap.size + 1 < w8.heap.size := World.block_lt_of_cell? _ _ B_8
      have lbw_8 : g1 < w8.heap.size := World.block_lt_of_cell? _ _ bw_8
      have lbv_8 : h1 < w8.heap.size := World.block_lt_of_cell? _ _ bv_8
      have lbx_8 : w4.heap.size < w8.heap.size := World.block_lt_of_cell? _ _ bx_8
      have lbz_8 : w5.heap.size < w8.heap.size := World.block_lt_of_cell? _ _ bz_8
      have lbg_8 : w6.heap.size < w8.heap.size := World.block_lt_of_cell? _ _ bg_8
      have lbh_8 : w6.heap.size + 1 < w8.heap.size := World.block_lt_of_cell? _ _ bh_8
      clear hba
      clear hb hbk
      clear A_7 B_7 bw_7 bv_7 bx_7 bz_7 bg_7 bh_7 Z_7 Y2_7 X_7 Y_7 G_7 H_7 lA_7 lB_7 lbw_7 lbv_7 lbx_7 lbz_7 lbg_7 lbh_7
      go_wp2_with fail
      have hba : Below w8.heap.size w8 w8 := Below.refl _ _
      refine (eqBig_c a6 e1 q q d6 f1 us us _ HQ.out HQ.out (by omega) (by omega) H_8.out.rd'.2 Y2_8.out.rd'.2).mono ?_
      rw [decide_eq_true rfl]
      rintro e w9 ⟨rfl, hb⟩
      have hbk : Below w8.heap.size w8 w9 := hba.trans (hb.mono (by first | exact Nat.le_refl _ | (simp; done) | (simp; omega)))
      have HB9 : Hid (Below w.heap.size w w9) := HB8.out.trans (hbk.mono HB8.out.size)
      have z9 : w8.heap.size ≤ w9.heap.size := hbk.size
      have A_9 : w9.cell? ⟨w.heap.size, 0, none⟩ = some (Value.slice ao n c) := cell_keep (S := 0) hbk A_8
      have B_9 : w9.cell? ⟨w.heap.size + 1, 0, none⟩ = some (Value.slice bo m d) := cell_keep (S := 0) hbk B_8
      have bw_9 : w9.cell? ⟨g1, 0, none⟩ = some (Value.slice a1 p d1) := cell_keep (S := 0) hbk bw_8
      have bv_9 : w9.cell? ⟨h1, 0, none⟩ = some (Value.slice e1 q f1) := cell_keep (S := 0) hbk bv_8
      have bx_9 : w9.cell? ⟨w4.heap.size, 0, none⟩ = some (Value.slice a3 n d3) := cell_keep (S := 0) hbk bx_8
      have bz_9 : w9.cell? ⟨w5.heap.size, 0, none⟩ = some (Value.slice a4 m d4) := cell_keep (S := 0) hbk bz_8
      have bg_9 : w9.cell? ⟨w6.heap.size, 0, none⟩ = some (Value.slice a5 p d5) := cell_keep (S := 0) hbk bg_8
      have bh_9 : w9.cell? ⟨w6.heap.size + 1, 0, none⟩ = some (Value.slice a6 q d6) := cell_keep (S := 0) hbk bh_8
      have Z_9 : Hid (Own w9 w2.heap.size (Value.slice a1 p d1) (zs)) := Z_8.out.later hbk
      have Y2_9 : Hid (Own w9 w2.heap.size (Value.slice e1 q f1) (us)) := Y2_8.out.later hbk
      have X_9 : Hid (Own w9 w3.heap.size (Value.slice a3 n d3) (xs)) := X_8.out.later hbk
      have Y_9 : Hid (Own w9 (w4.heap.size + 1) (Value.slice a4 m d4) (ys)) := Y_8.out.later hbk
      have G_9 : Hid (Own w9 (w5.heap.size + 1) (Value.slice a5 p d5) (zs)) := G_8.out.later hbk
      have H_9 : Hid (Own w9 N (Value.slice a6 q d6) (us)) := H_8.out.later hbk
      have lA_9 : w.heap.size < w9.heap.size := World.block_lt_of_cell? _ _ A_9
      have lB_9 : w.heap.size + 1 < w9.heap.size := World.block_lt_of_cell? _ _ B_9
      have lbw_9 : g1 < w9.heap.size := World.block_lt_of_cell? _ _ bw_9
      have lbv_9 : h1 < w9.heap.size := World.block_lt_of_cell? _ _ bv_9
      have lbx_9 : w4.heap.size < w9.heap.size := World.block_lt_of_cell? _ _ bx_9
      have lbz_9 : w5.heap.size < w9.heap.size := World.block_lt_of_cell? _ _ bz_9
      have lbg_9 : w6.heap.size < w9.heap.size := World.block_lt_of_cell? _ _ bg_9
      have lbh_9 : w6.heap.size + 1 < w9.heap.size := World.block_lt_of_cell? _ _ bh_9
      clear hba
      clear hb hbk
      clear A_8 B_8 bw_8 bv_8 bx_8 bz_8 bg_8 bh_8 Z_8 Y2_8 X_8 Y_8 G_8 H_8 lA_8 lB_8 lbw_8 lbv_8 lbx_8 lbz_8 lbg_8 lbh_8
      go_wp2_with fail
      go_region_held3 (fun w' => w'.cell? ⟨w.heap.size, 0, none⟩ = some (Value.slice ao n c) ∧ w'.cell? ⟨w.heap.size + 1, 0, none⟩ = some (Value.slice bo m d) ∧ w'.cell? ⟨g1, 0, none⟩ = some (Value.slice a1 p d1) ∧ w'.cell? ⟨h1, 0, none⟩ = some (Value.slice e1 q f1) ∧ w'.cell? ⟨w4.heap.size, 0, none⟩ = some (Value.slice a3 n d3) ∧ w'.cell? ⟨w5.heap.size, 0, none⟩ = some (Value.slice a4 m d4) ∧ w'.cell? ⟨w6.heap.size, 0, none⟩ = some (Value.slice a5 p d5) ∧ w'.cell? ⟨w6.heap.size + 1, 0, none⟩ = some (Value.slice a6 q d6)) (first | go_keep) (first
        | (go_at_call 34; have hba : Below w9.heap.size w9 w9.drew := (Below.refl _ _).drew; refine (toBig_c ao n c xs _ HX.out hn (HR.out.later (HB9.out.trans (hba.mono HB9.out.size)))).mono ?_; rintro e w10 ⟨a16, d16, rfl, ho, hb⟩; have hbk : Below w9.heap.size w9 w10 := hba.trans (hb.mono (by first | exact Nat.le_refl _ | (simp; done) | (simp; omega))); have HB10 : Hid (Below w.heap.size w w10) := HB9.out.trans (hbk.mono HB9.out.size); have z10 : w9.heap.size ≤ w10.heap.size := hbk.size; have A_10 : w10.cell? ⟨w.heap.size, 0, none⟩ = some (Value.slice ao n c) := cell_keep (S := 0) hbk A_9; have B_10 : w10.cell? ⟨w.heap.size + 1, 0, none⟩ = some (Value.slice bo m d) := cell_keep (S := 0) hbk B_9; have bw_10 : w10.cell? ⟨g1, 0, none⟩ = some (Value.slice a1 p d1) := cell_keep (S := 0) hbk bw_9; have bv_10 : w10.cell? ⟨h1, 0, none⟩ = some (Value.slice e1 q f1) := cell_keep (S := 0) hbk bv_9; have bx_10 : w10.cell? ⟨w4.heap.size, 0, none⟩ = some (Value.slice a3 n d3) := cell_keep (S := 0) hbk bx_9; have bz_10 : w10.cell? ⟨w5.heap.size, 0, none⟩ = some (Value.slice a4 m d4) := cell_keep (S := 0) hbk bz_9; have bg_10 : w10.cell? ⟨w6.heap.size, 0, none⟩ = some (Value.slice a5 p d5) := cell_keep (S := 0) hbk bg_9; have bh_10 : w10.cell? ⟨w6.heap.size + 1, 0, none⟩ = some (Value.slice a6 q d6) := cell_keep (S := 0) hbk bh_9; have Z_10 : Hid (Own w10 w2.heap.size (Value.slice a1 p d1) (zs)) := Z_9.out.later hbk; have Y2_10 : Hid (Own w10 w2.heap.size (Value.slice e1 q f1) (us)) := Y2_9.out.later hbk; have X_10 : Hid (Own w10 w3.heap.size (Value.slice a3 n d3) (xs)) := X_9.out.later hbk; have Y_10 : Hid (Own w10 (w4.heap.size + 1) (Value.slice a4 m d4) (ys)) := Y_9.out.later hbk; have G_10 : Hid (Own w10 (w5.heap.size + 1) (Value.slice a5 p d5) (zs)) := G_9.out.later hbk; have H_10 : Hid (Own w10 N (Value.slice a6 q d6) (us)) := H_9.out.later hbk; have T16_10 : Hid (Own w10 w9.heap.size (Value.slice a16 n d16) (xs)) := ho.mono (by first | exact Nat.le_refl _ | (simp; done) | (simp; omega)); have I_T16 : Hid (∀ k, (Value.slice a16 n d16).ownBlock = some k → w9.heap.size ≤ k ∧ k < w10.heap.size) := World.ownsRow.lt T16_10.out; have lA_10 : w.heap.size < w10.heap.size := World.block_lt_of_cell? _ _ A_10; have lB_10 : w.heap.size + 1 < w10.heap.size := World.block_lt_of_cell? _ _ B_10; have lbw_10 : g1 < w10.heap.size := World.block_lt_of_cell? _ _ bw_10; have lbv_10 : h1 < w10.heap.size := World.block_lt_of_cell? _ _ bv_10; have lbx_10 : w4.heap.size < w10.heap.size := World.block_lt_of_cell? _ _ bx_10; have lbz_10 : w5.heap.size < w10.heap.size := World.block_lt_of_cell? _ _ bz_10; have lbg_10 : w6.heap.size < w10.heap.size := World.block_lt_of_cell? _ _ bg_10; have lbh_10 : w6.heap.size + 1 < w10.heap.size := World.block_lt_of_cell? _ _ bh_10; clear hba; clear hb hbk; clear ho; clear A_9 B_9 bw_9 bv_9 bx_9 bz_9 bg_9 bh_9 Z_9 Y2_9 X_9 Y_9 G_9 H_9 lA_9 lB_9 lbw_9 lbv_9 lbx_9 lbz_9 lbg_9 lbh_9)
        | (go_at_call 36; have hba : Below w10.heap.size w10 w10 := Below.refl _ _; refine (eqBig_c a3 a16 n n d3 d16 xs xs _ HX.out HX.out hn hn X_10.out.rd'.2 T16_10.out.rd'.2).mono ?_; rw [decide_eq_true rfl]; rintro e w11 ⟨rfl, hb⟩; have hbk : Below w10.heap.size w10 w11 := hba.trans (hb.mono (by first | exact Nat.le_refl _ | (simp; done) | (simp; omega))); have HB11 : Hid (Below w.heap.size w w11) := HB10.out.trans (hbk.mono HB10.out.size); have z11 : w10.heap.size ≤ w11.heap.size := hbk.size; have A_11 : w11.cell? ⟨w.heap.size, 0, none⟩ = some (Value.slice ao n c) := cell_keep (S := 0) hbk A_10; have B_11 : w11.cell? ⟨w.heap.size + 1, 0, none⟩ = some (Value.slice bo m d) := cell_keep (S := 0) hbk B_10; have bw_11 : w11.cell? ⟨g1, 0, none⟩ = some (Value.slice a1 p d1) := cell_keep (S := 0) hbk bw_10; have bv_11 : w11.cell? ⟨h1, 0, none⟩ = some (Value.slice e1 q f1) := cell_keep (S := 0) hbk bv_10; have bx_11 : w11.cell? ⟨w4.heap.size, 0, none⟩ = some (Value.slice a3 n d3) := cell_keep (S := 0) hbk bx_10; have bz_11 : w11.cell? ⟨w5.heap.size, 0, none⟩ = some (Value.slice a4 m d4) := cell_keep (S := 0) hbk bz_10; have bg_11 : w11.cell? ⟨w6.heap.size, 0, none⟩ = some (Value.slice a5 p d5) := cell_keep (S := 0) hbk bg_10; have bh_11 : w11.cell? ⟨w6.heap.size + 1, 0, none⟩ = some (Value.slice a6 q d6) := cell_keep (S := 0) hbk bh_10; have Z_11 : Hid (Own w11 w2.heap.size (Value.slice a1 p d1) (zs)) := Z_10.out.later hbk; have Y2_11 : Hid (Own w11 w2.heap.size (Value.slice e1 q f1) (us)) := Y2_10.out.later hbk; have X_11 : Hid (Own w11 w3.heap.size (Value.slice a3 n d3) (xs)) := X_10.out.later hbk; have Y_11 : Hid (Own w11 (w4.heap.size + 1) (Value.slice a4 m d4) (ys)) := Y_10.out.later hbk; have G_11 : Hid (Own w11 (w5.heap.size + 1) (Value.slice a5 p d5) (zs)) := G_10.out.later hbk; have H_11 : Hid (Own w11 N (Value.slice a6 q d6) (us)) := H_10.out.later hbk; have T16_11 : Hid (Own w11 w9.heap.size (Value.slice a16 n d16) (xs)) := T16_10.out.later hbk; have lA_11 : w.heap.size < w11.heap.size := World.block_lt_of_cell? _ _ A_11; have lB_11 : w.heap.size + 1 < w11.heap.size := World.block_lt_of_cell? _ _ B_11; have lbw_11 : g1 < w11.heap.size := World.block_lt_of_cell? _ _ bw_11; have lbv_11 : h1 < w11.heap.size := World.block_lt_of_cell? _ _ bv_11; have lbx_11 : w4.heap.size < w11.heap.size := World.block_lt_of_cell? _ _ bx_11; have lbz_11 : w5.heap.size < w11.heap.size := World.block_lt_of_cell? _ _ bz_11; have lbg_11 : w6.heap.size < w11.heap.size := World.block_lt_of_cell? _ _ bg_11; have lbh_11 : w6.heap.size + 1 < w11.heap.size := World.block_lt_of_cell? _ _ bh_11; clear hba; clear hb hbk; clear A_10 B_10 bw_10 bv_10 bx_10 bz_10 bg_10 bh_10 Z_10 Y2_10 X_10 Y_10 G_10 H_10 T16_10 lA_10 lB_10 lbw_10 lbv_10 lbx_10 lbz_10 lbg_10 lbh_10))
      clear T16_11 I_T16
      go_wp2_with fail
      go_region_held3 (fun w' => w'.cell? ⟨w.heap.size, 0, none⟩ = some (Value.slice ao n c) ∧ w'.cell? ⟨w.heap.size + 1, 0, none⟩ = some (Value.slice bo m d) ∧ w'.cell? ⟨g1, 0, none⟩ = some (Value.slice a1 p d1) ∧ w'.cell? ⟨h1, 0, none⟩ = some (Value.slice e1 q f1) ∧ w'.cell? ⟨w4.heap.size, 0, none⟩ = some (Value.slice a3 n d3) ∧ w'.cell? ⟨w5.heap.size, 0, none⟩ = some (Value.slice a4 m d4) ∧ w'.cell? ⟨w6.heap.size, 0, none⟩ = some (Value.slice a5 p d5) ∧ w'.cell? ⟨w6.heap.size + 1, 0, none⟩ = some (Value.slice a6 q d6)) (first | go_keep) (first
        | (go_at_call 34; have hba : Below w11.heap.size w11 w11.drew := (Below.refl _ _).drew; refine (toBig_c bo m d ys _ HY.out hm (HS.out.later (HB11.out.trans (hba.mono HB11.out.size)))).mono ?_; rintro e w12 ⟨a17, d17, rfl, ho, hb⟩; have hbk : Below w11.heap.size w11 w12 := hba.trans (hb.mono (by first | exact Nat.le_refl _ | (simp; done) | (simp; omega))); have HB12 : Hid (Below w.heap.size w w12) := HB11.out.trans (hbk.mono HB11.out.size); have z12 : w11.heap.size ≤ w12.heap.size := hbk.size; have A_12 : w12.cell? ⟨w.heap.size, 0, none⟩ = some (Value.slice ao n c) := cell_keep (S := 0) hbk A_11; have B_12 : w12.cell? ⟨w.heap.size + 1, 0, none⟩ = some (Value.slice bo m d) := cell_keep (S := 0) hbk B_11; have bw_12 : w12.cell? ⟨g1, 0, none⟩ = some (Value.slice a1 p d1) := cell_keep (S := 0) hbk bw_11; have bv_12 : w12.cell? ⟨h1, 0, none⟩ = some (Value.slice e1 q f1) := cell_keep (S := 0) hbk bv_11; have bx_12 : w12.cell? ⟨w4.heap.size, 0, none⟩ = some (Value.slice a3 n d3) := cell_keep (S := 0) hbk bx_11; have bz_12 : w12.cell? ⟨w5.heap.size, 0, none⟩ = some (Value.slice a4 m d4) := cell_keep (S := 0) hbk bz_11; have bg_12 : w12.cell? ⟨w6.heap.size, 0, none⟩ = some (Value.slice a5 p d5) := cell_keep (S := 0) hbk bg_11; have bh_12 : w12.cell? ⟨w6.heap.size + 1, 0, none⟩ = some (Value.slice a6 q d6) := cell_keep (S := 0) hbk bh_11; have Z_12 : Hid (Own w12 w2.heap.size (Value.slice a1 p d1) (zs)) := Z_11.out.later hbk; have Y2_12 : Hid (Own w12 w2.heap.size (Value.slice e1 q f1) (us)) := Y2_11.out.later hbk; have X_12 : Hid (Own w12 w3.heap.size (Value.slice a3 n d3) (xs)) := X_11.out.later hbk; have Y_12 : Hid (Own w12 (w4.heap.size + 1) (Value.slice a4 m d4) (ys)) := Y_11.out.later hbk; have G_12 : Hid (Own w12 (w5.heap.size + 1) (Value.slice a5 p d5) (zs)) := G_11.out.later hbk; have H_12 : Hid (Own w12 N (Value.slice a6 q d6) (us)) := H_11.out.later hbk; have T17_12 : Hid (Own w12 w11.heap.size (Value.slice a17 m d17) (ys)) := ho.mono (by first | exact Nat.le_refl _ | (simp; done) | (simp; omega)); have I_T17 : Hid (∀ k, (Value.slice a17 m d17).ownBlock = some k → w11.heap.size ≤ k ∧ k < w12.heap.size) := World.ownsRow.lt T17_12.out; have lA_12 : w.heap.size < w12.heap.size := World.block_lt_of_cell? _ _ A_12; have lB_12 : w.heap.size + 1 < w12.heap.size := World.block_lt_of_cell? _ _ B_12; have lbw_12 : g1 < w12.heap.size := World.block_lt_of_cell? _ _ bw_12; have lbv_12 : h1 < w12.heap.size := World.block_lt_of_cell? _ _ bv_12; have lbx_12 : w4.heap.size < w12.heap.size := World.block_lt_of_cell? _ _ bx_12; have lbz_12 : w5.heap.size < w12.heap.size := World.block_lt_of_cell? _ _ bz_12; have lbg_12 : w6.heap.size < w12.heap.size := World.block_lt_of_cell? _ _ bg_12; have lbh_12 : w6.heap.size + 1 < w12.heap.size := World.block_lt_of_cell? _ _ bh_12; clear hba; clear hb hbk; clear ho; clear A_11 B_11 bw_11 bv_11 bx_11 bz_11 bg_11 bh_11 Z_11 Y2_11 X_11 Y_11 G_11 H_11 lA_11 lB_11 lbw_11 lbv_11 lbx_11 lbz_11 lbg_11 lbh_11)
        | (go_at_call 36; have hba : Below w12.heap.size w12 w12 := Below.refl _ _; refine (eqBig_c a4 a17 m m d4 d17 ys ys _ HY.out HY.out hm hm Y_12.out.rd'.2 T17_12.out.rd'.2).mono ?_; rw [decide_eq_true rfl]; rintro e w13 ⟨rfl, hb⟩; have hbk : Below w12.heap.size w12 w13 := hba.trans (hb.mono (by first | exact Nat.le_refl _ | (simp; done) | (simp; omega))); have HB13 : Hid (Below w.heap.size w w13) := HB12.out.trans (hbk.mono HB12.out.size); have z13 : w12.heap.size ≤ w13.heap.size := hbk.size; have A_13 : w13.cell? ⟨w.heap.size, 0, none⟩ = some (Value.slice ao n c) := cell_keep (S := 0) hbk A_12; have B_13 : w13.cell? ⟨w.heap.size + 1, 0, none⟩ = some (Value.slice bo m d) := cell_keep (S := 0) hbk B_12; have bw_13 : w13.cell? ⟨g1, 0, none⟩ = some (Value.slice a1 p d1) := cell_keep (S := 0) hbk bw_12; have bv_13 : w13.cell? ⟨h1, 0, none⟩ = some (Value.slice e1 q f1) := cell_keep (S := 0) hbk bv_12; have bx_13 : w13.cell? ⟨w4.heap.size, 0, none⟩ = some (Value.slice a3 n d3) := cell_keep (S := 0) hbk bx_12; have bz_13 : w13.cell? ⟨w5.heap.size, 0, none⟩ = some (Value.slice a4 m d4) := cell_keep (S := 0) hbk bz_12; have bg_13 : w13.cell? ⟨w6.heap.size, 0, none⟩ = some (Value.slice a5 p d5) := cell_keep (S := 0) hbk bg_12; have bh_13 : w13.cell? ⟨w6.heap.size + 1, 0, none⟩ = some (Value.slice a6 q d6) := cell_keep (S := 0) hbk bh_12; have Z_13 : Hid (Own w13 w2.heap.size (Value.slice a1 p d1) (zs)) := Z_12.out.later hbk; have Y2_13 : Hid (Own w13 w2.heap.size (Value.slice e1 q f1) (us)) := Y2_12.out.later hbk; have X_13 : Hid (Own w13 w3.heap.size (Value.slice a3 n d3) (xs)) := X_12.out.later hbk; have Y_13 : Hid (Own w13 (w4.heap.size + 1) (Value.slice a4 m d4) (ys)) := Y_12.out.later hbk; have G_13 : Hid (Own w13 (w5.heap.size + 1) (Value.slice a5 p d5) (zs)) := G_12.out.later hbk; have H_13 : Hid (Own w13 N (Value.slice a6 q d6) (us)) := H_12.out.later hbk; have T17_13 : Hid (Own w13 w11.heap.size (Value.slice a17 m d17) (ys)) := T17_12.out.later hbk; have lA_13 : w.heap.size < w13.heap.size := World.block_lt_of_cell? _ _ A_13; have lB_13 : w.heap.size + 1 < w13.heap.size := World.block_lt_of_cell? _ _ B_13; have lbw_13 : g1 < w13.heap.size := World.block_lt_of_cell? _ _ bw_13; have lbv_13 : h1 < w13.heap.size := World.block_lt_of_cell? _ _ bv_13; have lbx_13 : w4.heap.size < w13.heap.size := World.block_lt_of_cell? _ _ bx_13; have lbz_13 : w5.heap.size < w13.heap.size := World.block_lt_of_cell? _ _ bz_13; have lbg_13 : w6.heap.size < w13.heap.size := World.block_lt_of_cell? _ _ bg_13; have lbh_13 : w6.heap.size + 1 < w13.heap.size := World.block_lt_of_cell? _ _ bh_13; clear hba; clear hb hbk; clear A_12 B_12 bw_12 bv_12 bx_12 bz_12 bg_12 bh_12 Z_12 Y2_12 X_12 Y_12 G_12 H_12 T17_12 lA_12 lB_12 lbw_12 lbv_12 lbx_12 lbz_12 lbg_12 lbh_12))
      clear T17_13 I_T17
      go_wp2_with fail
      have hba : Below w13.heap.size w13 w13 := Below.refl _ _
      refine (markBig_c a3 n d3 1 w3.heap.size xs _ hn (by omega) (by omega) X_13.out).mono ?_
      rintro e w14 ⟨rfl, ho, hg⟩
      have hgr : w13.grownBy w14 (Value.slice a3 n d3).ownBlock := hg
      have HB14 : Hid (Below w.heap.size w w14) := HB13.out.grown hgr HB13.out.size (fun k e => by have := I_X.out k e; omega)
      have z14 : w13.heap.size ≤ w14.heap.size := hgr.size
      have A_14 : w14.cell? ⟨w.heap.size, 0, none⟩ = some (Value.slice ao n c) := hgr.cell A_13 (fun e => by have h := I_X.out _ e.symm; dsimp only at h; omega)
      have B_14 : w14.cell? ⟨w.heap.size + 1, 0, none⟩ = some (Value.slice bo m d) := hgr.cell B_13 (fun e => by have h := I_X.out _ e.symm; dsimp only at h; omega)
      have bw_14 : w14.cell? ⟨g1, 0, none⟩ = some (Value.slice a1 p d1) := hgr.cell bw_13 (fun e => by have h := I_X.out _ e.symm; dsimp only at h; omega)
      have bv_14 : w14.cell? ⟨h1, 0, none⟩ = some (Value.slice e1 q f1) := hgr.cell bv_13 (fun e => by have h := I_X.out _ e.symm; dsimp only at h; omega)
      have bx_14 : w14.cell? ⟨w4.heap.size, 0, none⟩ = some (Value.slice a3 n d3) := hgr.cell bx_13 (fun e => by have h := I_X.out _ e.symm; dsimp only at h; omega)
      have bz_14 : w14.cell? ⟨w5.heap.size, 0, none⟩ = some (Value.slice a4 m d4) := hgr.cell bz_13 (fun e => by have h := I_X.out _ e.symm; dsimp only at h; omega)
      have bg_14 : w14.cell? ⟨w6.heap.size, 0, none⟩ = some (Value.slice a5 p d5) := hgr.cell bg_13 (fun e => by have h := I_X.out _ e.symm; dsimp only at h; omega)
      have bh_14 : w14.cell? ⟨w6.heap.size + 1, 0, none⟩ = some (Value.slice a6 q d6) := hgr.cell bh_13 (fun e => by have h := I_X.out _ e.symm; dsimp only at h; omega)
      have Z_14 : Hid (Own w14 w2.heap.size (Value.slice a1 p d1) (zs)) := Z_13.out.kept hgr (own_sep I_Z.out I_X.out (by omega))
      have Y2_14 : Hid (Own w14 w2.heap.size (Value.slice e1 q f1) (us)) := Y2_13.out.kept hgr (own_sep I_Y2.out I_X.out (by omega))
      have Y_14 : Hid (Own w14 (w4.heap.size + 1) (Value.slice a4 m d4) (ys)) := Y_13.out.kept hgr (own_sep I_Y.out I_X.out (by omega))
      have G_14 : Hid (Own w14 (w5.heap.size + 1) (Value.slice a5 p d5) (zs)) := G_13.out.kept hgr (own_sep I_G.out I_X.out (by omega))
      have H_14 : Hid (Own w14 N (Value.slice a6 q d6) (us)) := H_13.out.kept hgr (own_sep I_H.out I_X.out (by omega))
      have X_14 : Hid (Own w14 w3.heap.size (Value.slice a3 n d3) (marks 1 n)) := ho
      have lA_14 : w.heap.size < w14.heap.size := World.block_lt_of_cell? _ _ A_14
      have lB_14 : w.heap.size + 1 < w14.heap.size := World.block_lt_of_cell? _ _ B_14
      have lbw_14 : g1 < w14.heap.size := World.block_lt_of_cell? _ _ bw_14
      have lbv_14 : h1 < w14.heap.size := World.block_lt_of_cell? _ _ bv_14
      have lbx_14 : w4.heap.size < w14.heap.size := World.block_lt_of_cell? _ _ bx_14
      have lbz_14 : w5.heap.size < w14.heap.size := World.block_lt_of_cell? _ _ bz_14
      have lbg_14 : w6.heap.size < w14.heap.size := World.block_lt_of_cell? _ _ bg_14
      have lbh_14 : w6.heap.size + 1 < w14.heap.size := World.block_lt_of_cell? _ _ bh_14
      clear hba
      clear hg hgr ho
      clear A_13 B_13 bw_13 bv_13 bx_13 bz_13 bg_13 bh_13 Z_13 Y2_13 X_13 Y_13 G_13 H_13 lA_13 lB_13 lbw_13 lbv_13 lbx_13 lbz_13 lbg_13 lbh_13
      go_wp2_with fail
      have hba : Below w14.heap.size w14 w14 := Below.refl _ _
      refine (markBig_c a4 m d4 (1 + n) (w4.heap.size + 1) ys _ hm (by omega) (by omega) Y_14.out).mono ?_
      rintro e w15 ⟨rfl, ho, hg⟩
      have hgr : w14.grownBy w15 (Value.slice a4 m d4).ownBlock := hg
      have HB15 : Hid (Below w.heap.size w w15) := HB14.out.grown hgr HB14.out.size (fun k e => by have := I_Y.out k e; omega)
      have z15 : w14.heap.size ≤ w15.heap.size := hgr.size
      have A_15 : w15.cell? ⟨w.heap.size, 0, none⟩ = some (Value.slice ao n c) := hgr.cell A_14 (fun e => by have h := I_Y.out _ e.symm; dsimp only at h; omega)
      have B_15 : w15.cell? ⟨w.heap.size + 1, 0, none⟩ = some (Value.slice bo m d) := hgr.cell B_14 (fun e => by have h := I_Y.out _ e.symm; dsimp only at h; omega)
      have bw_15 : w15.cell? ⟨g1, 0, none⟩ = some (Value.slice a1 p d1) := hgr.cell bw_14 (fun e => by have h := I_Y.out _ e.symm; dsimp only at h; omega)
      have bv_15 : w15.cell? ⟨h1, 0, none⟩ = some (Value.slice e1 q f1) := hgr.cell bv_14 (fun e => by have h := I_Y.out _ e.symm; dsimp only at h; omega)
      have bx_15 : w15.cell? ⟨w4.heap.size, 0, none⟩ = some (Value.slice a3 n d3) := hgr.cell bx_14 (fun e => by have h := I_Y.out _ e.symm; dsimp only at h; omega)
      have bz_15 : w15.cell? ⟨w5.heap.size, 0, none⟩ = some (Value.slice a4 m d4) := hgr.cell bz_14 (fun e => by have h := I_Y.out _ e.symm; dsimp only at h; omega)
      have bg_15 : w15.cell? ⟨w6.heap.size, 0, none⟩ = some (Value.slice a5 p d5) := hgr.cell bg_14 (fun e => by have h := I_Y.out _ e.symm; dsimp only at h; omega)
      have bh_15 : w15.cell? ⟨w6.heap.size + 1, 0, none⟩ = some (Value.slice a6 q d6) := hgr.cell bh_14 (fun e => by have h := I_Y.out _ e.symm; dsimp only at h; omega)
      have Z_15 : Hid (Own w15 w2.heap.size (Value.slice a1 p d1) (zs)) := Z_14.out.kept hgr (own_sep I_Z.out I_Y.out (by omega))
      have Y2_15 : Hid (Own w15 w2.heap.size (Value.slice e1 q f1) (us)) := Y2_14.out.kept hgr (own_sep I_Y2.out I_Y.out (by omega))
      have X_15 : Hid (Own w15 w3.heap.size (Value.slice a3 n d3) (marks 1 n)) := X_14.out.kept hgr (own_sep I_X.out I_Y.out (by omega))
      have G_15 : Hid (Own w15 (w5.heap.size + 1) (Value.slice a5 p d5) (zs)) := G_14.out.kept hgr (own_sep I_G.out I_Y.out (by omega))
      have H_15 : Hid (Own w15 N (Value.slice a6 q d6) (us)) := H_14.out.kept hgr (own_sep I_H.out I_Y.out (by omega))
      have Y_15 : Hid (Own w15 (w4.heap.size + 1) (Value.slice a4 m d4) (marks (1 + n) m)) := ho
      have lA_15 : w.heap.size < w15.heap.size := World.block_lt_of_cell? _ _ A_15
      have lB_15 : w.heap.size + 1 < w15.heap.size := World.block_lt_of_cell? _ _ B_15
      have lbw_15 : g1 < w15.heap.size := World.block_lt_of_cell? _ _ bw_15
      have lbv_15 : h1 < w15.heap.size := World.block_lt_of_cell? _ _ bv_15
      have lbx_15 : w4.heap.size < w15.heap.size := World.block_lt_of_cell? _ _ bx_15
      have lbz_15 : w5.heap.size < w15.heap.size := World.block_lt_of_cell? _ _ bz_15
      have lbg_15 : w6.heap.size < w15.heap.size := World.block_lt_of_cell? _ _ bg_15
      have lbh_15 : w6.heap.size + 1 < w15.heap.size := World.block_lt_of_cell? _ _ bh_15
      clear hba
      clear hg hgr ho
      clear A_14 B_14 bw_14 bv_14 bx_14 bz_14 bg_14 bh_14 Z_14 Y2_14 X_14 Y_14 G_14 H_14 lA_14 lB_14 lbw_14 lbv_14 lbx_14 lbz_14 lbg_14 lbh_14
      clear X_15 Y_15 I_X I_Y
      go_wp2_with fail
      have hba : Below w15.heap.size w15 w15 := Below.refl _ _
      refine (eqBig_c a5 a1 p p d5 d1 zs zs _ HP.out HP.out (by omega) (by omega) G_15.out.rd'.2 Z_15.out.rd'.2).mono ?_
      rw [decide_eq_true rfl]
      rintro e w16 ⟨rfl, hb⟩
      have hbk : Below w15.heap.size w15 w16 := hba.trans (hb.mono (by first | exact Nat.le_refl _ | (simp; done) | (simp; omega)))
      have HB16 : Hid (Below w.heap.size w w16) := HB15.out.trans (hbk.mono HB15.out.size)
      have z16 : w15.heap.size ≤ w16.heap.size := hbk.size
      have A_16 : w16.cell? ⟨w.heap.size, 0, none⟩ = some (Value.slice ao n c) := cell_keep (S := 0) hbk A_15
      have B_16 : w16.cell? ⟨w.heap.size + 1, 0, none⟩ = some (Value.slice bo m d) := cell_keep (S := 0) hbk B_15
      have bw_16 : w16.cell? ⟨g1, 0, none⟩ = some (Value.slice a1 p d1) := cell_keep (S := 0) hbk bw_15
      have bv_16 : w16.cell? ⟨h1, 0, none⟩ = some (Value.slice e1 q f1) := cell_keep (S := 0) hbk bv_15
      have bx_16 : w16.cell? ⟨w4.heap.size, 0, none⟩ = some (Value.slice a3 n d3) := cell_keep (S := 0) hbk bx_15
      have bz_16 : w16.cell? ⟨w5.heap.size, 0, none⟩ = some (Value.slice a4 m d4) := cell_keep (S := 0) hbk bz_15
      have bg_16 : w16.cell? ⟨w6.heap.size, 0, none⟩ = some (Value.slice a5 p d5) := cell_keep (S := 0) hbk bg_15
      have bh_16 : w16.cell? ⟨w6.heap.size + 1, 0, none⟩ = some (Value.slice a6 q d6) := cell_keep (S := 0) hbk bh_15
      have Z_16 : Hid (Own w16 w2.heap.size (Value.slice a1 p d1) (zs)) := Z_15.out.later hbk
      have Y2_16 : Hid (Own w16 w2.heap.size (Value.slice e1 q f1) (us)) := Y2_15.out.later hbk
      have G_16 : Hid (Own w16 (w5.heap.size + 1) (Value.slice a5 p d5) (zs)) := G_15.out.later hbk
      have H_16 : Hid (Own w16 N (Value.slice a6 q d6) (us)) := H_15.out.later hbk
      have lA_16 : w.heap.size < w16.heap.size := World.block_lt_of_cell? _ _ A_16
      have lB_16 : w.heap.size + 1 < w16.heap.size := World.block_lt_of_cell? _ _ B_16
      have lbw_16 : g1 < w16.heap.size := World.block_lt_of_cell? _ _ bw_16
      have lbv_16 : h1 < w16.heap.size := World.block_lt_of_cell? _ _ bv_16
      have lbx_16 : w4.heap.size < w16.heap.size := World.block_lt_of_cell? _ _ bx_16
      have lbz_16 : w5.heap.size < w16.heap.size := World.block_lt_of_cell? _ _ bz_16
      have lbg_16 : w6.heap.size < w16.heap.size := World.block_lt_of_cell? _ _ bg_16
      have lbh_16 : w6.heap.size + 1 < w16.heap.size := World.block_lt_of_cell? _ _ bh_16
      clear hba
      clear hb hbk
      clear A_15 B_15 bw_15 bv_15 bx_15 bz_15 bg_15 bh_15 Z_15 Y2_15 G_15 H_15 lA_15 lB_15 lbw_15 lbv_15 lbx_15 lbz_15 lbg_15 lbh_15
      go_wp2_with fail
      have hba : Below w16.heap.size w16 w16 := Below.refl _ _
      refine (eqBig_c a6 e1 q q d6 f1 us us _ HQ.out HQ.out (by omega) (by omega) H_16.out.rd'.2 Y2_16.out.rd'.2).mono ?_
      rw [decide_eq_true rfl]
      rintro e w17 ⟨rfl, hb⟩
      have hbk : Below w16.heap.size w16 w17 := hba.trans (hb.mono (by first | exact Nat.le_refl _ | (simp; done) | (simp; omega)))
      have HB17 : Hid (Below w.heap.size w w17) := HB16.out.trans (hbk.mono HB16.out.size)
      have z17 : w16.heap.size ≤ w17.heap.size := hbk.size
      have A_17 : w17.cell? ⟨w.heap.size, 0, none⟩ = some (Value.slice ao n c) := cell_keep (S := 0) hbk A_16
      have B_17 : w17.cell? ⟨w.heap.size + 1, 0, none⟩ = some (Value.slice bo m d) := cell_keep (S := 0) hbk B_16
      have bw_17 : w17.cell? ⟨g1, 0, none⟩ = some (Value.slice a1 p d1) := cell_keep (S := 0) hbk bw_16
      have bv_17 : w17.cell? ⟨h1, 0, none⟩ = some (Value.slice e1 q f1) := cell_keep (S := 0) hbk bv_16
      have bx_17 : w17.cell? ⟨w4.heap.size, 0, none⟩ = some (Value.slice a3 n d3) := cell_keep (S := 0) hbk bx_16
      have bz_17 : w17.cell? ⟨w5.heap.size, 0, none⟩ = some (Value.slice a4 m d4) := cell_keep (S := 0) hbk bz_16
      have bg_17 : w17.cell? ⟨w6.heap.size, 0, none⟩ = some (Value.slice a5 p d5) := cell_keep (S := 0) hbk bg_16
      have bh_17 : w17.cell? ⟨w6.heap.size + 1, 0, none⟩ = some (Value.slice a6 q d6) := cell_keep (S := 0) hbk bh_16
      have Z_17 : Hid (Own w17 w2.heap.size (Value.slice a1 p d1) (zs)) := Z_16.out.later hbk
      have Y2_17 : Hid (Own w17 w2.heap.size (Value.slice e1 q f1) (us)) := Y2_16.out.later hbk
      have G_17 : Hid (Own w17 (w5.heap.size + 1) (Value.slice a5 p d5) (zs)) := G_16.out.later hbk
      have H_17 : Hid (Own w17 N (Value.slice a6 q d6) (us)) := H_16.out.later hbk
      have lA_17 : w.heap.size < w17.heap.size := World.block_lt_of_cell? _ _ A_17
      have lB_17 : w.heap.size + 1 < w17.heap.size := World.block_lt_of_cell? _ _ B_17
      have lbw_17 : g1 < w17.heap.size := World.block_lt_of_cell? _ _ bw_17
      have lbv_17 : h1 < w17.heap.size := World.block_lt_of_cell? _ _ bv_17
      have lbx_17 : w4.heap.size < w17.heap.size := World.block_lt_of_cell? _ _ bx_17
      have lbz_17 : w5.heap.size < w17.heap.size := World.block_lt_of_cell? _ _ bz_17
      have lbg_17 : w6.heap.size < w17.heap.size := World.block_lt_of_cell? _ _ bg_17
      have lbh_17 : w6.heap.size + 1 < w17.heap.size := World.block_lt_of_cell? _ _ bh_17
      clear hba
      clear hb hbk
      clear A_16 B_16 bw_16 bv_16 bx_16 bz_16 bg_16 bh_16 Z_16 Y2_16 G_16 H_16 lA_16 lB_16 lbw_16 lbv_16 lbx_16 lbz_16 lbg_16 lbh_16
      go_wp2_with fail
      have hba : Below w17.heap.size w17 w17 := Below.refl _ _
      refine (markBig_c a5 p d5 1 (w5.heap.size + 1) zs _ (by omega) (by omega) (by omega) G_17.out).mono ?_
      rintro e w18 ⟨rfl, ho, hg⟩
      have hgr : w17.grownBy w18 (Value.slice a5 p d5).ownBlock := hg
      have HB18 : Hid (Below w.heap.size w w18) := HB17.out.grown hgr HB17.out.size (fun k e => by have := I_G.out k e; omega)
      have z18 : w17.heap.size ≤ w18.heap.size := hgr.size
      have A_18 : w18.cell? ⟨w.heap.size, 0, none⟩ = some (Value.slice ao n c) := hgr.cell A_17 (fun e => by have h := I_G.out _ e.symm; dsimp only at h; omega)
      have B_18 : w18.cell? ⟨w.heap.size + 1, 0, none⟩ = some (Value.slice bo m d) := hgr.cell B_17 (fun e => by have h := I_G.out _ e.symm; dsimp only at h; omega)
      have bw_18 : w18.cell? ⟨g1, 0, none⟩ = some (Value.slice a1 p d1) := hgr.cell bw_17 (fun e => by have h := I_G.out _ e.symm; dsimp only at h; omega)
      have bv_18 : w18.cell? ⟨h1, 0, none⟩ = some (Value.slice e1 q f1) := hgr.cell bv_17 (fun e => by have h := I_G.out _ e.symm; dsimp only at h; omega)
      have bx_18 : w18.cell? ⟨w4.heap.size, 0, none⟩ = some (Value.slice a3 n d3) := hgr.cell bx_17 (fun e => by have h := I_G.out _ e.symm; dsimp only at h; omega)
      have bz_18 : w18.cell? ⟨w5.heap.size, 0, none⟩ = some (Value.slice a4 m d4) := hgr.cell bz_17 (fun e => by have h := I_G.out _ e.symm; dsimp only at h; omega)
      have bg_18 : w18.cell? ⟨w6.heap.size, 0, none⟩ = some (Value.slice a5 p d5) := hgr.cell bg_17 (fun e => by have h := I_G.out _ e.symm; dsimp only at h; omega)
      have bh_18 : w18.cell? ⟨w6.heap.size + 1, 0, none⟩ = some (Value.slice a6 q d6) := hgr.cell bh_17 (fun e => by have h := I_G.out _ e.symm; dsimp only at h; omega)
      have Z_18 : Hid (Own w18 w2.heap.size (Value.slice a1 p d1) (zs)) := Z_17.out.kept hgr (own_sep I_Z.out I_G.out (by omega))
      have Y2_18 : Hid (Own w18 w2.heap.size (Value.slice e1 q f1) (us)) := Y2_17.out.kept hgr (own_sep I_Y2.out I_G.out (by omega))
      have H_18 : Hid (Own w18 N (Value.slice a6 q d6) (us)) := H_17.out.kept hgr (own_sep I_H.out I_G.out (by omega))
      have G_18 : Hid (Own w18 (w5.heap.size + 1) (Value.slice a5 p d5) (marks 1 p)) := ho
      have lA_18 : w.heap.size < w18.heap.size := World.block_lt_of_cell? _ _ A_18
      have lB_18 : w.heap.size + 1 < w18.heap.size := World.block_lt_of_cell? _ _ B_18
      have lbw_18 : g1 < w18.heap.size := World.block_lt_of_cell? _ _ bw_18
      have lbv_18 : h1 < w18.heap.size := World.block_lt_of_cell? _ _ bv_18
      have lbx_18 : w4.heap.size < w18.heap.size := World.block_lt_of_cell? _ _ bx_18
      have lbz_18 : w5.heap.size < w18.heap.size := World.block_lt_of_cell? _ _ bz_18
      have lbg_18 : w6.heap.size < w18.heap.size := World.block_lt_of_cell? _ _ bg_18
      have lbh_18 : w6.heap.size + 1 < w18.heap.size := World.block_lt_of_cell? _ _ bh_18
      clear hba
      clear hg hgr ho
      clear A_17 B_17 bw_17 bv_17 bx_17 bz_17 bg_17 bh_17 Z_17 Y2_17 G_17 H_17 lA_17 lB_17 lbw_17 lbv_17 lbx_17 lbz_17 lbg_17 lbh_17
      go_wp2_with fail
      have hba : Below w18.heap.size w18 w18 := Below.refl _ _
      refine (markBig_c a6 q d6 (1 + p) N us _ (by omega) (by omega) (by omega) H_18.out).mono ?_
      rintro e w19 ⟨rfl, ho, hg⟩
      have hgr : w18.grownBy w19 (Value.slice a6 q d6).ownBlock := hg
      have HB19 : Hid (Below w.heap.size w w19) := HB18.out.grown hgr HB18.out.size (fun k e => by have := I_H.out k e; omega)
      have z19 : w18.heap.size ≤ w19.heap.size := hgr.size
      have A_19 : w19.cell? ⟨w.heap.size, 0, none⟩ = some (Value.slice ao n c) := hgr.cell A_18 (fun e => by have h := I_H.out _ e.symm; dsimp only at h; omega)
      have B_19 : w19.cell? ⟨w.heap.size + 1, 0, none⟩ = some (Value.slice bo m d) := hgr.cell B_18 (fun e => by have h := I_H.out _ e.symm; dsimp only at h; omega)
      have bw_19 : w19.cell? ⟨g1, 0, none⟩ = some (Value.slice a1 p d1) := hgr.cell bw_18 (fun e => by have h := I_H.out _ e.symm; dsimp only at h; omega)
      have bv_19 : w19.cell? ⟨h1, 0, none⟩ = some (Value.slice e1 q f1) := hgr.cell bv_18 (fun e => by have h := I_H.out _ e.symm; dsimp only at h; omega)
      have bx_19 : w19.cell? ⟨w4.heap.size, 0, none⟩ = some (Value.slice a3 n d3) := hgr.cell bx_18 (fun e => by have h := I_H.out _ e.symm; dsimp only at h; omega)
      have bz_19 : w19.cell? ⟨w5.heap.size, 0, none⟩ = some (Value.slice a4 m d4) := hgr.cell bz_18 (fun e => by have h := I_H.out _ e.symm; dsimp only at h; omega)
      have bg_19 : w19.cell? ⟨w6.heap.size, 0, none⟩ = some (Value.slice a5 p d5) := hgr.cell bg_18 (fun e => by have h := I_H.out _ e.symm; dsimp only at h; omega)
      have bh_19 : w19.cell? ⟨w6.heap.size + 1, 0, none⟩ = some (Value.slice a6 q d6) := hgr.cell bh_18 (fun e => by have h := I_H.out _ e.symm; dsimp only at h; omega)
      have Z_19 : Hid (Own w19 w2.heap.size (Value.slice a1 p d1) (zs)) := Z_18.out.kept hgr (own_sep I_Z.out I_H.out (by omega))
      have Y2_19 : Hid (Own w19 w2.heap.size (Value.slice e1 q f1) (us)) := Y2_18.out.kept hgr (own_sep I_Y2.out I_H.out (by omega))
      have G_19 : Hid (Own w19 (w5.heap.size + 1) (Value.slice a5 p d5) (marks 1 p)) := G_18.out.kept hgr (own_sep I_G.out I_H.out (by omega))
      have H_19 : Hid (Own w19 N (Value.slice a6 q d6) (marks (1 + p) q)) := ho
      have lA_19 : w.heap.size < w19.heap.size := World.block_lt_of_cell? _ _ A_19
      have lB_19 : w.heap.size + 1 < w19.heap.size := World.block_lt_of_cell? _ _ B_19
      have lbw_19 : g1 < w19.heap.size := World.block_lt_of_cell? _ _ bw_19
      have lbv_19 : h1 < w19.heap.size := World.block_lt_of_cell? _ _ bv_19
      have lbx_19 : w4.heap.size < w19.heap.size := World.block_lt_of_cell? _ _ bx_19
      have lbz_19 : w5.heap.size < w19.heap.size := World.block_lt_of_cell? _ _ bz_19
      have lbg_19 : w6.heap.size < w19.heap.size := World.block_lt_of_cell? _ _ bg_19
      have lbh_19 : w6.heap.size + 1 < w19.heap.size := World.block_lt_of_cell? _ _ bh_19
      clear hba
      clear hg hgr ho
      clear A_18 B_18 bw_18 bv_18 bx_18 bz_18 bg_18 bh_18 Z_18 Y2_18 G_18 H_18 lA_18 lB_18 lbw_18 lbv_18 lbx_18 lbz_18 lbg_18 lbh_18
      go_wp2_with fail
      have hba : Below w19.heap.size w19 w19 := Below.refl _ _
      refine (heldBig_c a5 p d5 1 (w5.heap.size + 1) _ (by omega) (by omega) (by omega) G_19.out).mono ?_
      rintro e w20 ⟨rfl, hb⟩
      have hbk : Below w19.heap.size w19 w20 := hba.trans (hb.mono (by first | exact Nat.le_refl _ | (simp; done) | (simp; omega)))
      have HB20 : Hid (Below w.heap.size w w20) := HB19.out.trans (hbk.mono HB19.out.size)
      have z20 : w19.heap.size ≤ w20.heap.size := hbk.size
      have A_20 : w20.cell? ⟨w.heap.size, 0, none⟩ = some (Value.slice ao n c) := cell_keep (S := 0) hbk A_19
      have B_20 : w20.cell? ⟨w.heap.size + 1, 0, none⟩ = some (Value.slice bo m d) := cell_keep (S := 0) hbk B_19
      have bw_20 : w20.cell? ⟨g1, 0, none⟩ = some (Value.slice a1 p d1) := cell_keep (S := 0) hbk bw_19
      have bv_20 : w20.cell? ⟨h1, 0, none⟩ = some (Value.slice e1 q f1) := cell_keep (S := 0) hbk bv_19
      have bx_20 : w20.cell? ⟨w4.heap.size, 0, none⟩ = some (Value.slice a3 n d3) := cell_keep (S := 0) hbk bx_19
      have bz_20 : w20.cell? ⟨w5.heap.size, 0, none⟩ = some (Value.slice a4 m d4) := cell_keep (S := 0) hbk bz_19
      have bg_20 : w20.cell? ⟨w6.heap.size, 0, none⟩ = some (Value.slice a5 p d5) := cell_keep (S := 0) hbk bg_19
      have bh_20 : w20.cell? ⟨w6.heap.size + 1, 0, none⟩ = some (Value.slice a6 q d6) := cell_keep (S := 0) hbk bh_19
      have Z_20 : Hid (Own w20 w2.heap.size (Value.slice a1 p d1) (zs)) := Z_19.out.later hbk
      have Y2_20 : Hid (Own w20 w2.heap.size (Value.slice e1 q f1) (us)) := Y2_19.out.later hbk
      have G_20 : Hid (Own w20 (w5.heap.size + 1) (Value.slice a5 p d5) (marks 1 p)) := G_19.out.later hbk
      have H_20 : Hid (Own w20 N (Value.slice a6 q d6) (marks (1 + p) q)) := H_19.out.later hbk
      have lA_20 : w.heap.size < w20.heap.size := World.block_lt_of_cell? _ _ A_20
      have lB_20 : w.heap.size + 1 < w20.heap.size := World.block_lt_of_cell? _ _ B_20
      have lbw_20 : g1 < w20.heap.size := World.block_lt_of_cell? _ _ bw_20
      have lbv_20 : h1 < w20.heap.size := World.block_lt_of_cell? _ _ bv_20
      have lbx_20 : w4.heap.size < w20.heap.size := World.block_lt_of_cell? _ _ bx_20
      have lbz_20 : w5.heap.size < w20.heap.size := World.block_lt_of_cell? _ _ bz_20
      have lbg_20 : w6.heap.size < w20.heap.size := World.block_lt_of_cell? _ _ bg_20
      have lbh_20 : w6.heap.size + 1 < w20.heap.size := World.block_lt_of_cell? _ _ bh_20
      clear hba
      clear hb hbk
      clear A_19 B_19 bw_19 bv_19 bx_19 bz_19 bg_19 bh_19 Z_19 Y2_19 G_19 H_19 lA_19 lB_19 lbw_19 lbv_19 lbx_19 lbz_19 lbg_19 lbh_19
      go_wp2_with fail
      have hba : Below w20.heap.size w20 w20 := Below.refl _ _
      refine (heldBig_c a6 q d6 (1 + p) N _ (by omega) (by omega) (by omega) H_20.out).mono ?_
      rintro e w21 ⟨rfl, hb⟩
      have hbk : Below w20.heap.size w20 w21 := hba.trans (hb.mono (by first | exact Nat.le_refl _ | (simp; done) | (simp; omega)))
      have HB21 : Hid (Below w.heap.size w w21) := HB20.out.trans (hbk.mono HB20.out.size)
      have z21 : w20.heap.size ≤ w21.heap.size := hbk.size
      have A_21 : w21.cell? ⟨w.heap.size, 0, none⟩ = some (Value.slice ao n c) := cell_keep (S := 0) hbk A_20
      have B_21 : w21.cell? ⟨w.heap.size + 1, 0, none⟩ = some (Value.slice bo m d) := cell_keep (S := 0) hbk B_20
      have bw_21 : w21.cell? ⟨g1, 0, none⟩ = some (Value.slice a1 p d1) := cell_keep (S := 0) hbk bw_20
      have bv_21 : w21.cell? ⟨h1, 0, none⟩ = some (Value.slice e1 q f1) := cell_keep (S := 0) hbk bv_20
      have bx_21 : w21.cell? ⟨w4.heap.size, 0, none⟩ = some (Value.slice a3 n d3) := cell_keep (S := 0) hbk bx_20
      have bz_21 : w21.cell? ⟨w5.heap.size, 0, none⟩ = some (Value.slice a4 m d4) := cell_keep (S := 0) hbk bz_20
      have bg_21 : w21.cell? ⟨w6.heap.size, 0, none⟩ = some (Value.slice a5 p d5) := cell_keep (S := 0) hbk bg_20
      have bh_21 : w21.cell? ⟨w6.heap.size + 1, 0, none⟩ = some (Value.slice a6 q d6) := cell_keep (S := 0) hbk bh_20
      have Z_21 : Hid (Own w21 w2.heap.size (Value.slice a1 p d1) (zs)) := Z_20.out.later hbk
      have Y2_21 : Hid (Own w21 w2.heap.size (Value.slice e1 q f1) (us)) := Y2_20.out.later hbk
      have G_21 : Hid (Own w21 (w5.heap.size + 1) (Value.slice a5 p d5) (marks 1 p)) := G_20.out.later hbk
      have H_21 : Hid (Own w21 N (Value.slice a6 q d6) (marks (1 + p) q)) := H_20.out.later hbk
      have lA_21 : w.heap.size < w21.heap.size := World.block_lt_of_cell? _ _ A_21
      have lB_21 : w.heap.size + 1 < w21.heap.size := World.block_lt_of_cell? _ _ B_21
      have lbw_21 : g1 < w21.heap.size := World.block_lt_of_cell? _ _ bw_21
      have lbv_21 : h1 < w21.heap.size := World.block_lt_of_cell? _ _ bv_21
      have lbx_21 : w4.heap.size < w21.heap.size := World.block_lt_of_cell? _ _ bx_21
      have lbz_21 : w5.heap.size < w21.heap.size := World.block_lt_of_cell? _ _ bz_21
      have lbg_21 : w6.heap.size < w21.heap.size := World.block_lt_of_cell? _ _ bg_21
      have lbh_21 : w6.heap.size + 1 < w21.heap.size := World.block_lt_of_cell? _ _ bh_21
      clear hba
      clear hb hbk
      clear A_20 B_20 bw_20 bv_20 bx_20 bz_20 bg_20 bh_20 Z_20 Y2_20 G_20 H_20 lA_20 lB_20 lbw_20 lbv_20 lbx_20 lbz_20 lbg_20 lbh_20
      go_upto_region 35 with fail
      go_cut [17, 18, 19] (fun ua ub uv wx => ∃ (g8 h8 : Nat) (a8 : Option Addr) (d8 : Nat) (e8 : Option Addr) (f8 : Nat), ua = .pointer (some ⟨g8, 0, none⟩) ∧ ub = .pointer (some ⟨h8, 0, none⟩) ∧ uv = .bool fb ∧ wx.cell? ⟨g8, 0, none⟩ = some (Value.slice a8 p d8) ∧ wx.cell? ⟨h8, 0, none⟩ = some (Value.slice e8 q f8) ∧ Hid (Own wx w21.heap.size (Value.slice a8 p d8) zs) ∧ Hid (Own wx w21.heap.size (Value.slice e8 q f8) us) ∧ Hid (Below w21.heap.size w21 wx))
      case first => as_aux_lemma =>
        have tok1 : True := trivial
        have HBs : Hid (Below w21.heap.size w21 w21) := Below.refl _ _
        have lAs : w.heap.size + 1 < w21.heap.size := World.block_lt_of_cell? _ _ B_21
        go_region_held3 (fun w' => w'.cell? ⟨w.heap.size, 0, none⟩ = some (Value.slice ao n c) ∧ w'.cell? ⟨w.heap.size + 1, 0, none⟩ = some (Value.slice bo m d)) (first | go_keep | (refine ⟨?_, ?_⟩ <;> (repeat (first | rw [cset_ne (by omega)] | rw [calloc_eq (by first | omega | (simp; omega))])) <;> assumption)) (first
          | (go_at_call 34; have _t := tok1; refine (toBig_d HX.out hn (HR.out.later HB21.out) _ (by repeat (first | exact HBs.out | refine Below.drew ?_ | refine Below.alloc ?_ (by first | omega | (simp; done) | (simp; omega)) _))).mono ?_; rintro e wp1 ⟨b1, e1, rfl, ho1, HBp1, hb1⟩; clear tok1 _t; have A_p1 : wp1.cell? ⟨w.heap.size, 0, none⟩ = some (Value.slice ao n c) := cell_keep (S := 0) hb1 (by first | exact A_21 | exact calloc A_21 | exact calloc (calloc A_21)); have B_p1 : wp1.cell? ⟨w.heap.size + 1, 0, none⟩ = some (Value.slice bo m d) := cell_keep (S := 0) hb1 (by first | exact B_21 | exact calloc B_21 | exact calloc (calloc B_21)); have lp1 : w.heap.size + 1 < wp1.heap.size := World.block_lt_of_cell? _ _ B_p1; have R1 : Hid (Rd wp1 b1 xs) := ho1.rd'.2; have zp1 : w21.heap.size ≤ wp1.heap.size := HBp1.out.size; obtain ⟨hc1, hf1⟩ := bcell hb1; have zq1 := hb1.size; (try simp at hc1); (try simp at hf1); (try simp at zq1); (try (have zzw21_1 : w21.heap.size < wp1.heap.size := by omega)); (try (have zyw21_1 : w21.heap.size + 1 < wp1.heap.size := by omega)); clear hb1 ho1)
          | (go_at_call 34; refine (toBig_d HY.out hm (HS.out.later HB21.out) _ (by repeat (first | exact HBp1.out | refine Below.drew ?_ | refine Below.alloc ?_ (by first | omega | (simp; done) | (simp; omega)) _))).mono ?_; rintro e wp2 ⟨b2, e2, rfl, ho2, HBp2, hb2⟩; have A_p2 : wp2.cell? ⟨w.heap.size, 0, none⟩ = some (Value.slice ao n c) := cell_keep (S := 0) hb2 (by first | exact A_p1 | exact calloc A_p1 | exact calloc (calloc A_p1)); have B_p2 : wp2.cell? ⟨w.heap.size + 1, 0, none⟩ = some (Value.slice bo m d) := cell_keep (S := 0) hb2 (by first | exact B_p1 | exact calloc B_p1 | exact calloc (calloc B_p1)); have lp2 : w.heap.size + 1 < wp2.heap.size := World.block_lt_of_cell? _ _ B_p2; have R1' : Hid (Rd wp2 b1 xs) := Rd.later (by first | exact R1.out | exact R1.out.alloc _ | exact (R1.out.alloc _).alloc _) hb2; have R2 : Hid (Rd wp2 b2 ys) := ho2.rd'.2; have zp2 : w21.heap.size ≤ wp2.heap.size := HBp2.out.size; obtain ⟨hc2, hf2⟩ := bcell hb2; have zq2 := hb2.size; (try simp at hc2); (try simp at hf2); (try simp at zq2); (try (have zzw21_2 : w21.heap.size < wp2.heap.size := by omega)); (try (have zyw21_2 : w21.heap.size + 1 < wp2.heap.size := by omega)); (try (have zzwp1_2 : wp1.heap.size < wp2.heap.size := by omega)); (try (have zywp1_2 : wp1.heap.size + 1 < wp2.heap.size := by omega)); clear hb2 ho2)
          | (go_at_call 25; refine (implDiv_d (w := w21) HX.out HY.out hn hm (by first | exact R1'.out | exact R1'.out.alloc _ | exact (R1'.out.alloc _).alloc _) (by first | exact R2.out | exact R2.out.alloc _ | exact (R2.out.alloc _).alloc _) HF.out HP.out HQ.out (by repeat (first | exact HBp2.out | refine Below.drew ?_ | refine Below.alloc ?_ (by first | omega | (simp; done) | (simp; omega)) _))).mono ?_; rintro e wp3 ⟨a8, d8, e8, f8, rfl, ho3, ho4, HBp3, hb3⟩; have A_p3 : wp3.cell? ⟨w.heap.size, 0, none⟩ = some (Value.slice ao n c) := cell_keep (S := 0) hb3 (by first | exact A_p2 | exact calloc A_p2 | exact calloc (calloc A_p2)); have B_p3 : wp3.cell? ⟨w.heap.size + 1, 0, none⟩ = some (Value.slice bo m d) := cell_keep (S := 0) hb3 (by first | exact B_p2 | exact calloc B_p2 | exact calloc (calloc B_p2)); have lp3 : w.heap.size + 1 < wp3.heap.size := World.block_lt_of_cell? _ _ B_p3; have zp3 : w21.heap.size ≤ wp3.heap.size := HBp3.out.size; obtain ⟨H3, hH3, HM3⟩ : ∃ H3 : Nat, H3 = _ ∧ Hid (Own wp3 H3 (Value.slice a8 p d8) zs ∧ Own wp3 H3 (Value.slice e8 q f8) us) := ⟨_, rfl, ho3, ho4⟩; have hH3b : wp2.heap.size ≤ H3 := (by rw [hH3]; first | exact Nat.le_refl _ | (simp; done) | (simp; omega)); (try (have hH3c : wp2.heap.size < H3 := by rw [hH3]; first | (simp; done) | (simp; omega))); (try (have hH3d : wp2.heap.size + 1 < H3 := by rw [hH3]; first | (simp; done) | (simp; omega))); clear hH3; obtain ⟨hc3, hf3⟩ := bcell hb3; have zq3 := hb3.size; (try simp at hc3); (try simp at hf3); (try simp at zq3); (try (have zzw21_3 : w21.heap.size < wp3.heap.size := by omega)); (try (have zyw21_3 : w21.heap.size + 1 < wp3.heap.size := by omega)); (try (have zzwp1_3 : wp1.heap.size < wp3.heap.size := by omega)); (try (have zywp1_3 : wp1.heap.size + 1 < wp3.heap.size := by omega)); (try (have zzwp2_3 : wp2.heap.size < wp3.heap.size := by omega)); (try (have zywp2_3 : wp2.heap.size + 1 < wp3.heap.size := by omega)); clear hb3 ho3 ho4))
        all_goals go_wp2_with fail
        all_goals go_meet
        all_goals go_light
        all_goals refine ⟨_, _, a8, d8, e8, f8, rfl, rfl, rfl, ?_, ?_, ?_, ?_, ?_⟩
        all_goals try (repeat' (first | (with_reducible refine cnewE ?_; first | rfl | (simp; done)) | with_reducible refine calloc ?_ | with_reducible refine rsame (u := Value.slice none 0 0) ?_ | (with_reducible refine keep1 ?_ (by omega))))
        all_goals first
          | (show Own _ _ _ _; with_reducible exact ((HM3.out.1.later (balloc _ _)).later (balloc _ _)).mono (by omega))
          | (show Own _ _ _ _; with_reducible exact ((own_set_below HM3.out.1 (by omega) _).later (balloc _ _)).mono (by omega))
          | (show Own _ _ _ _; with_reducible exact (own_set_below (own_set_below HM3.out.1 (by omega) _) (by omega) _).mono (by omega))
          | (show Own _ _ _ _; with_reducible exact ((HM3.out.2.later (balloc _ _)).later (balloc _ _)).mono (by omega))
          | (show Own _ _ _ _; with_reducible exact ((own_set_below HM3.out.2 (by omega) _).later (balloc _ _)).mono (by omega))
          | (show Own _ _ _ _; with_reducible exact (own_set_below (own_set_below HM3.out.2 (by omega) _) (by omega) _).mono (by omega))
          | (show Below _ _ _; repeat (first | with_reducible exact HBp3.out | refine Below.alloc ?_ (by first | omega | (simp; done) | (simp; omega)) _ | refine Below.setCell ?_ (by first | omega | (simp; done) | (simp; omega)) _))
          | (simp [go_sem, *]; done)
      case rest => as_aux_lemma =>
        obtain ⟨g8, h8, a8, d8, e8, f8, rfl, rfl, rfl, c0, c1, ho, ho2, hb⟩ := hcut
        obtain ⟨w22, rfl⟩ : ∃ w22 : World, w22 = wc := ⟨_, rfl⟩
        have hbk : Below w21.heap.size w21 w22 := hb.out
        have HB22 : Hid (Below w.heap.size w w22) := HB21.out.trans (hbk.mono HB21.out.size)
        have z22 : w21.heap.size ≤ w22.heap.size := hbk.size
        have A_22 : w22.cell? ⟨w.heap.size, 0, none⟩ = some (Value.slice ao n c) := cell_keep (S := 0) hbk A_21
        have B_22 : w22.cell? ⟨w.heap.size + 1, 0, none⟩ = some (Value.slice bo m d) := cell_keep (S := 0) hbk B_21
        have bw_22 : w22.cell? ⟨g1, 0, none⟩ = some (Value.slice a1 p d1) := cell_keep (S := 0) hbk bw_21
        have bv_22 : w22.cell? ⟨h1, 0, none⟩ = some (Value.slice e1 q f1) := cell_keep (S := 0) hbk bv_21
        have bx_22 : w22.cell? ⟨w4.heap.size, 0, none⟩ = some (Value.slice a3 n d3) := cell_keep (S := 0) hbk bx_21
        have bz_22 : w22.cell? ⟨w5.heap.size, 0, none⟩ = some (Value.slice a4 m d4) := cell_keep (S := 0) hbk bz_21
        have bg_22 : w22.cell? ⟨w6.heap.size, 0, none⟩ = some (Value.slice a5 p d5) := cell_keep (S := 0) hbk bg_21
        have bh_22 : w22.cell? ⟨w6.heap.size + 1, 0, none⟩ = some (Value.slice a6 q d6) := cell_keep (S := 0) hbk bh_21
        have Z_22 : Hid (Own w22 w2.heap.size (Value.slice a1 p d1) (zs)) := Z_21.out.later hbk
        have Y2_22 : Hid (Own w22 w2.heap.size (Value.slice e1 q f1) (us)) := Y2_21.out.later hbk
        have G_22 : Hid (Own w22 (w5.heap.size + 1) (Value.slice a5 p d5) (marks 1 p)) := G_21.out.later hbk
        have H_22 : Hid (Own w22 N (Value.slice a6 q d6) (marks (1 + p) q)) := H_21.out.later hbk
        have bk_22 : w22.cell? ⟨g8, 0, none⟩ = some (Value.slice a8 p d8) := c0
        have lo_bk : g8 < w22.heap.size := World.block_lt_of_cell? _ _ bk_22
        have bl_22 : w22.cell? ⟨h8, 0, none⟩ = some (Value.slice e8 q f8) := c1
        have lo_bl : h8 < w22.heap.size := World.block_lt_of_cell? _ _ bl_22
        have K_22 : Hid (Own w22 w21.heap.size (Value.slice a8 p d8) zs) := ho
        have I_K : Hid (∀ k, (Value.slice a8 p d8).ownBlock = some k → w21.heap.size ≤ k ∧ k < w22.heap.size) := World.ownsRow.lt K_22.out
        have K2_22 : Hid (Own w22 w21.heap.size (Value.slice e8 q f8) us) := ho2
        have I_K2 : Hid (∀ k, (Value.slice e8 q f8).ownBlock = some k → w21.heap.size ≤ k ∧ k < w22.heap.size) := World.ownsRow.lt K2_22.out
        have lA_22 : w.heap.size < w22.heap.size := World.block_lt_of_cell? _ _ A_22
        have lB_22 : w.heap.size + 1 < w22.heap.size := World.block_lt_of_cell? _ _ B_22
        have lbw_22 : g1 < w22.heap.size := World.block_lt_of_cell? _ _ bw_22
        have lbv_22 : h1 < w22.heap.size := World.block_lt_of_cell? _ _ bv_22
        have lbx_22 : w4.heap.size < w22.heap.size := World.block_lt_of_cell? _ _ bx_22
        have lbz_22 : w5.heap.size < w22.heap.size := World.block_lt_of_cell? _ _ bz_22
        have lbg_22 : w6.heap.size < w22.heap.size := World.block_lt_of_cell? _ _ bg_22
        have lbh_22 : w6.heap.size + 1 < w22.heap.size := World.block_lt_of_cell? _ _ bh_22
        have lbk_22 : g8 < w22.heap.size := World.block_lt_of_cell? _ _ bk_22
        have lbl_22 : h8 < w22.heap.size := World.block_lt_of_cell? _ _ bl_22
        clear A_21 B_21 bw_21 bv_21 bx_21 bz_21 bg_21 bh_21 Z_21 Y2_21 G_21 H_21 lA_21 lB_21 lbw_21 lbv_21 lbx_21 lbz_21 lbg_21 lbh_21
        clear hb hbk ho ho2 c0 c1
        go_wp2_with fail
        have hba : Below w22.heap.size w22 w22 := Below.refl _ _
        refine (eqBig_c a8 a1 p p d8 d1 zs zs _ HP.out HP.out (by omega) (by omega) K_22.out.rd'.2 Z_22.out.rd'.2).mono ?_
        rw [decide_eq_true rfl]
        rintro e w23 ⟨rfl, hb⟩
        have hbk : Below w22.heap.size w22 w23 := hba.trans (hb.mono (by first | exact Nat.le_refl _ | (simp; done) | (simp; omega)))
        have HB23 : Hid (Below w.heap.size w w23) := HB22.out.trans (hbk.mono HB22.out.size)
        have z23 : w22.heap.size ≤ w23.heap.size := hbk.size
        have A_23 : w23.cell? ⟨w.heap.size, 0, none⟩ = some (Value.slice ao n c) := cell_keep (S := 0) hbk A_22
        have B_23 : w23.cell? ⟨w.heap.size + 1, 0, none⟩ = some (Value.slice bo m d) := cell_keep (S := 0) hbk B_22
        have bw_23 : w23.cell? ⟨g1, 0, none⟩ = some (Value.slice a1 p d1) := cell_keep (S := 0) hbk bw_22
        have bv_23 : w23.cell? ⟨h1, 0, none⟩ = some (Value.slice e1 q f1) := cell_keep (S := 0) hbk bv_22
        have bx_23 : w23.cell? ⟨w4.heap.size, 0, none⟩ = some (Value.slice a3 n d3) := cell_keep (S := 0) hbk bx_22
        have bz_23 : w23.cell? ⟨w5.heap.size, 0, none⟩ = some (Value.slice a4 m d4) := cell_keep (S := 0) hbk bz_22
        have bg_23 : w23.cell? ⟨w6.heap.size, 0, none⟩ = some (Value.slice a5 p d5) := cell_keep (S := 0) hbk bg_22
        have bh_23 : w23.cell? ⟨w6.heap.size + 1, 0, none⟩ = some (Value.slice a6 q d6) := cell_keep (S := 0) hbk bh_22
        have bk_23 : w23.cell? ⟨g8, 0, none⟩ = some (Value.slice a8 p d8) := cell_keep (S := 0) hbk bk_22
        have bl_23 : w23.cell? ⟨h8, 0, none⟩ = some (Value.slice e8 q f8) := cell_keep (S := 0) hbk bl_22
        have Z_23 : Hid (Own w23 w2.heap.size (Value.slice a1 p d1) (zs)) := Z_22.out.later hbk
        have Y2_23 : Hid (Own w23 w2.heap.size (Value.slice e1 q f1) (us)) := Y2_22.out.later hbk
        have G_23 : Hid (Own w23 (w5.heap.size + 1) (Value.slice a5 p d5) (marks 1 p)) := G_22.out.later hbk
        have H_23 : Hid (Own w23 N (Value.slice a6 q d6) (marks (1 + p) q)) := H_22.out.later hbk
        have K_23 : Hid (Own w23 w21.heap.size (Value.slice a8 p d8) (zs)) := K_22.out.later hbk
        have K2_23 : Hid (Own w23 w21.heap.size (Value.slice e8 q f8) (us)) := K2_22.out.later hbk
        have lA_23 : w.heap.size < w23.heap.size := World.block_lt_of_cell? _ _ A_23
        have lB_23 : w.heap.size + 1 < w23.heap.size := World.block_lt_of_cell? _ _ B_23
        have lbw_23 : g1 < w23.heap.size := World.block_lt_of_cell? _ _ bw_23
        have lbv_23 : h1 < w23.heap.size := World.block_lt_of_cell? _ _ bv_23
        have lbx_23 : w4.heap.size < w23.heap.size := World.block_lt_of_cell? _ _ bx_23
        have lbz_23 : w5.heap.size < w23.heap.size := World.block_lt_of_cell? _ _ bz_23
        have lbg_23 : w6.heap.size < w23.heap.size := World.block_lt_of_cell? _ _ bg_23
        have lbh_23 : w6.heap.size + 1 < w23.heap.size := World.block_lt_of_cell? _ _ bh_23
        have lbk_23 : g8 < w23.heap.size := World.block_lt_of_cell? _ _ bk_23
        have lbl_23 : h8 < w23.heap.size := World.block_lt_of_cell? _ _ bl_23
        clear hba
        clear hb hbk
        clear A_22 B_22 bw_22 bv_22 bx_22 bz_22 bg_22 bh_22 bk_22 bl_22 Z_22 Y2_22 G_22 H_22 K_22 K2_22 lA_22 lB_22 lbw_22 lbv_22 lbx_22 lbz_22 lbg_22 lbh_22 lbk_22 lbl_22
        go_wp2_with fail
        have hba : Below w23.heap.size w23 w23 := Below.refl _ _
        refine (eqBig_c e8 e1 q q f8 f1 us us _ HQ.out HQ.out (by omega) (by omega) K2_23.out.rd'.2 Y2_23.out.rd'.2).mono ?_
        rw [decide_eq_true rfl]
        rintro e w24 ⟨rfl, hb⟩
        have hbk : Below w23.heap.size w23 w24 := hba.trans (hb.mono (by first | exact Nat.le_refl _ | (simp; done) | (simp; omega)))
        have HB24 : Hid (Below w.heap.size w w24) := HB23.out.trans (hbk.mono HB23.out.size)
        have z24 : w23.heap.size ≤ w24.heap.size := hbk.size
        have A_24 : w24.cell? ⟨w.heap.size, 0, none⟩ = some (Value.slice ao n c) := cell_keep (S := 0) hbk A_23
        have B_24 : w24.cell? ⟨w.heap.size + 1, 0, none⟩ = some (Value.slice bo m d) := cell_keep (S := 0) hbk B_23
        have bw_24 : w24.cell? ⟨g1, 0, none⟩ = some (Value.slice a1 p d1) := cell_keep (S := 0) hbk bw_23
        have bv_24 : w24.cell? ⟨h1, 0, none⟩ = some (Value.slice e1 q f1) := cell_keep (S := 0) hbk bv_23
        have bx_24 : w24.cell? ⟨w4.heap.size, 0, none⟩ = some (Value.slice a3 n d3) := cell_keep (S := 0) hbk bx_23
        have bz_24 : w24.cell? ⟨w5.heap.size, 0, none⟩ = some (Value.slice a4 m d4) := cell_keep (S := 0) hbk bz_23
        have bg_24 : w24.cell? ⟨w6.heap.size, 0, none⟩ = some (Value.slice a5 p d5) := cell_keep (S := 0) hbk bg_23
        have bh_24 : w24.cell? ⟨w6.heap.size + 1, 0, none⟩ = some (Value.slice a6 q d6) := cell_keep (S := 0) hbk bh_23
        have bk_24 : w24.cell? ⟨g8, 0, none⟩ = some (Value.slice a8 p d8) := cell_keep (S := 0) hbk bk_23
        have bl_24 : w24.cell? ⟨h8, 0, none⟩ = some (Value.slice e8 q f8) := cell_keep (S := 0) hbk bl_23
        have Z_24 : Hid (Own w24 w2.heap.size (Value.slice a1 p d1) (zs)) := Z_23.out.later hbk
        have Y2_24 : Hid (Own w24 w2.heap.size (Value.slice e1 q f1) (us)) := Y2_23.out.later hbk
        have G_24 : Hid (Own w24 (w5.heap.size + 1) (Value.slice a5 p d5) (marks 1 p)) := G_23.out.later hbk
        have H_24 : Hid (Own w24 N (Value.slice a6 q d6) (marks (1 + p) q)) := H_23.out.later hbk
        have K_24 : Hid (Own w24 w21.heap.size (Value.slice a8 p d8) (zs)) := K_23.out.later hbk
        have K2_24 : Hid (Own w24 w21.heap.size (Value.slice e8 q f8) (us)) := K2_23.out.later hbk
        have lA_24 : w.heap.size < w24.heap.size := World.block_lt_of_cell? _ _ A_24
        have lB_24 : w.heap.size + 1 < w24.heap.size := World.block_lt_of_cell? _ _ B_24
        have lbw_24 : g1 < w24.heap.size := World.block_lt_of_cell? _ _ bw_24
        have lbv_24 : h1 < w24.heap.size := World.block_lt_of_cell? _ _ bv_24
        have lbx_24 : w4.heap.size < w24.heap.size := World.block_lt_of_cell? _ _ bx_24
        have lbz_24 : w5.heap.size < w24.heap.size := World.block_lt_of_cell? _ _ bz_24
        have lbg_24 : w6.heap.size < w24.heap.size := World.block_lt_of_cell? _ _ bg_24
        have lbh_24 : w6.heap.size + 1 < w24.heap.size := World.block_lt_of_cell? _ _ bh_24
        have lbk_24 : g8 < w24.heap.size := World.block_lt_of_cell? _ _ bk_24
        have lbl_24 : h8 < w24.heap.size := World.block_lt_of_cell? _ _ bl_24
        clear hba
        clear hb hbk
        clear A_23 B_23 bw_23 bv_23 bx_23 bz_23 bg_23 bh_23 bk_23 bl_23 Z_23 Y2_23 G_23 H_23 K_23 K2_23 lA_23 lB_23 lbw_23 lbv_23 lbx_23 lbz_23 lbg_23 lbh_23 lbk_23 lbl_23
        go_wp2_with fail
        have hba : Below w24.heap.size w24 w24 := Below.refl _ _
        refine (heldBig_c a5 p d5 1 (w5.heap.size + 1) _ (by omega) (by omega) (by omega) G_24.out).mono ?_
        rintro e w25 ⟨rfl, hb⟩
        have hbk : Below w24.heap.size w24 w25 := hba.trans (hb.mono (by first | exact Nat.le_refl _ | (simp; done) | (simp; omega)))
        have HB25 : Hid (Below w.heap.size w w25) := HB24.out.trans (hbk.mono HB24.out.size)
        have z25 : w24.heap.size ≤ w25.heap.size := hbk.size
        have A_25 : w25.cell? ⟨w.heap.size, 0, none⟩ = some (Value.slice ao n c) := cell_keep (S := 0) hbk A_24
        have B_25 : w25.cell? ⟨w.heap.size + 1, 0, none⟩ = some (Value.slice bo m d) := cell_keep (S := 0) hbk B_24
        have bw_25 : w25.cell? ⟨g1, 0, none⟩ = some (Value.slice a1 p d1) := cell_keep (S := 0) hbk bw_24
        have bv_25 : w25.cell? ⟨h1, 0, none⟩ = some (Value.slice e1 q f1) := cell_keep (S := 0) hbk bv_24
        have bx_25 : w25.cell? ⟨w4.heap.size, 0, none⟩ = some (Value.slice a3 n d3) := cell_keep (S := 0) hbk bx_24
        have bz_25 : w25.cell? ⟨w5.heap.size, 0, none⟩ = some (Value.slice a4 m d4) := cell_keep (S := 0) hbk bz_24
        have bg_25 : w25.cell? ⟨w6.heap.size, 0, none⟩ = some (Value.slice a5 p d5) := cell_keep (S := 0) hbk bg_24
        have bh_25 : w25.cell? ⟨w6.heap.size + 1, 0, none⟩ = some (Value.slice a6 q d6) := cell_keep (S := 0) hbk bh_24
        have bk_25 : w25.cell? ⟨g8, 0, none⟩ = some (Value.slice a8 p d8) := cell_keep (S := 0) hbk bk_24
        have bl_25 : w25.cell? ⟨h8, 0, none⟩ = some (Value.slice e8 q f8) := cell_keep (S := 0) hbk bl_24
        have Z_25 : Hid (Own w25 w2.heap.size (Value.slice a1 p d1) (zs)) := Z_24.out.later hbk
        have Y2_25 : Hid (Own w25 w2.heap.size (Value.slice e1 q f1) (us)) := Y2_24.out.later hbk
        have G_25 : Hid (Own w25 (w5.heap.size + 1) (Value.slice a5 p d5) (marks 1 p)) := G_24.out.later hbk
        have H_25 : Hid (Own w25 N (Value.slice a6 q d6) (marks (1 + p) q)) := H_24.out.later hbk
        have K_25 : Hid (Own w25 w21.heap.size (Value.slice a8 p d8) (zs)) := K_24.out.later hbk
        have K2_25 : Hid (Own w25 w21.heap.size (Value.slice e8 q f8) (us)) := K2_24.out.later hbk
        have lA_25 : w.heap.size < w25.heap.size := World.block_lt_of_cell? _ _ A_25
        have lB_25 : w.heap.size + 1 < w25.heap.size := World.block_lt_of_cell? _ _ B_25
        have lbw_25 : g1 < w25.heap.size := World.block_lt_of_cell? _ _ bw_25
        have lbv_25 : h1 < w25.heap.size := World.block_lt_of_cell? _ _ bv_25
        have lbx_25 : w4.heap.size < w25.heap.size := World.block_lt_of_cell? _ _ bx_25
        have lbz_25 : w5.heap.size < w25.heap.size := World.block_lt_of_cell? _ _ bz_25
        have lbg_25 : w6.heap.size < w25.heap.size := World.block_lt_of_cell? _ _ bg_25
        have lbh_25 : w6.heap.size + 1 < w25.heap.size := World.block_lt_of_cell? _ _ bh_25
        have lbk_25 : g8 < w25.heap.size := World.block_lt_of_cell? _ _ bk_25
        have lbl_25 : h8 < w25.heap.size := World.block_lt_of_cell? _ _ bl_25
        clear hba
        clear hb hbk
        clear A_24 B_24 bw_24 bv_24 bx_24 bz_24 bg_24 bh_24 bk_24 bl_24 Z_24 Y2_24 G_24 H_24 K_24 K2_24 lA_24 lB_24 lbw_24 lbv_24 lbx_24 lbz_24 lbg_24 lbh_24 lbk_24 lbl_24
        go_wp2_with fail
        have hba : Below w25.heap.size w25 w25 := Below.refl _ _
        refine (heldBig_c a6 q d6 (1 + p) N _ (by omega) (by omega) (by omega) H_25.out).mono ?_
        rintro e w26 ⟨rfl, hb⟩
        have hbk : Below w25.heap.size w25 w26 := hba.trans (hb.mono (by first | exact Nat.le_refl _ | (simp; done) | (simp; omega)))
        have HB26 : Hid (Below w.heap.size w w26) := HB25.out.trans (hbk.mono HB25.out.size)
        have z26 : w25.heap.size ≤ w26.heap.size := hbk.size
        have A_26 : w26.cell? ⟨w.heap.size, 0, none⟩ = some (Value.slice ao n c) := cell_keep (S := 0) hbk A_25
        have B_26 : w26.cell? ⟨w.heap.size + 1, 0, none⟩ = some (Value.slice bo m d) := cell_keep (S := 0) hbk B_25
        have bw_26 : w26.cell? ⟨g1, 0, none⟩ = some (Value.slice a1 p d1) := cell_keep (S := 0) hbk bw_25
        have bv_26 : w26.cell? ⟨h1, 0, none⟩ = some (Value.slice e1 q f1) := cell_keep (S := 0) hbk bv_25
        have bx_26 : w26.cell? ⟨w4.heap.size, 0, none⟩ = some (Value.slice a3 n d3) := cell_keep (S := 0) hbk bx_25
        have bz_26 : w26.cell? ⟨w5.heap.size, 0, none⟩ = some (Value.slice a4 m d4) := cell_keep (S := 0) hbk bz_25
        have bg_26 : w26.cell? ⟨w6.heap.size, 0, none⟩ = some (Value.slice a5 p d5) := cell_keep (S := 0) hbk bg_25
        have bh_26 : w26.cell? ⟨w6.heap.size + 1, 0, none⟩ = some (Value.slice a6 q d6) := cell_keep (S := 0) hbk bh_25
        have bk_26 : w26.cell? ⟨g8, 0, none⟩ = some (Value.slice a8 p d8) := cell_keep (S := 0) hbk bk_25
        have bl_26 : w26.cell? ⟨h8, 0, none⟩ = some (Value.slice e8 q f8) := cell_keep (S := 0) hbk bl_25
        have Z_26 : Hid (Own w26 w2.heap.size (Value.slice a1 p d1) (zs)) := Z_25.out.later hbk
        have Y2_26 : Hid (Own w26 w2.heap.size (Value.slice e1 q f1) (us)) := Y2_25.out.later hbk
        have G_26 : Hid (Own w26 (w5.heap.size + 1) (Value.slice a5 p d5) (marks 1 p)) := G_25.out.later hbk
        have H_26 : Hid (Own w26 N (Value.slice a6 q d6) (marks (1 + p) q)) := H_25.out.later hbk
        have K_26 : Hid (Own w26 w21.heap.size (Value.slice a8 p d8) (zs)) := K_25.out.later hbk
        have K2_26 : Hid (Own w26 w21.heap.size (Value.slice e8 q f8) (us)) := K2_25.out.later hbk
        have lA_26 : w.heap.size < w26.heap.size := World.block_lt_of_cell? _ _ A_26
        have lB_26 : w.heap.size + 1 < w26.heap.size := World.block_lt_of_cell? _ _ B_26
        have lbw_26 : g1 < w26.heap.size := World.block_lt_of_cell? _ _ bw_26
        have lbv_26 : h1 < w26.heap.size := World.block_lt_of_cell? _ _ bv_26
        have lbx_26 : w4.heap.size < w26.heap.size := World.block_lt_of_cell? _ _ bx_26
        have lbz_26 : w5.heap.size < w26.heap.size := World.block_lt_of_cell? _ _ bz_26
        have lbg_26 : w6.heap.size < w26.heap.size := World.block_lt_of_cell? _ _ bg_26
        have lbh_26 : w6.heap.size + 1 < w26.heap.size := World.block_lt_of_cell? _ _ bh_26
        have lbk_26 : g8 < w26.heap.size := World.block_lt_of_cell? _ _ bk_26
        have lbl_26 : h8 < w26.heap.size := World.block_lt_of_cell? _ _ bl_26
        clear hba
        clear hb hbk
        clear A_25 B_25 bw_25 bv_25 bx_25 bz_25 bg_25 bh_25 bk_25 bl_25 Z_25 Y2_25 G_25 H_25 K_25 K2_25 lA_25 lB_25 lbw_25 lbv_25 lbx_25 lbz_25 lbg_25 lbh_25 lbk_25 lbl_25
        go_wp2
        go_ret
        exact ⟨rfl, HB26.out⟩

end Go.Proofs.Ytjahgpmncamilaa
