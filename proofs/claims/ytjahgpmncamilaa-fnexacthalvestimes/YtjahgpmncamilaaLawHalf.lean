/- The law on FnExactHalvesTimes, walked: it answers true at every argument and turns nothing that was there. -/
import Derived.Test.YtjahgpmncamilaaRelHalf
import Derived.Deep.RegionHeld3
import Derived.Deep.DrawnRows
import Derived.Deep.DeepCutAuto
import Derived.Deep.Light
namespace Go.Proofs.Ytjahgpmncamilaa
set_option linter.unusedVariables false
set_option linter.unusedSimpArgs false
open Go.RowKit
attribute [local go_sem ↓] Go.wp_at_zero Go.wp_at_succ

theorem lawHalf_long1 (ao bo : Option Addr) (n m c d : Nat) (w : World) (hm0 : n ≤ 9223372036854775807) (hs : 1048576 < n) :
    Calls Try.prog 13 #[.agg #[.slice ao n c], .agg #[.slice bo m d]] w fun e w' => e = .returned (.bool true) ∧ Below w.heap.size w w' := by
  have HB0 : Hid (Below w.heap.size w ((w.alloc (Obj.cells #[Value.slice ao n c] 37)).alloc (Obj.cells #[Value.slice bo m d] 37))) := below_two w _ _
  go_enter Try.func13, Try.ntmps13
  go_wp2_with fail
  refine (szBig_c ao n c 1048576 _ (by omega) (by omega) (by omega)).mono ?_
  rw [if_pos (by omega)]
  rintro e w1 ⟨rfl, hb⟩
  have HB1 : Hid (Below w.heap.size w w1) := HB0.out.trans (hb.mono (by simp; omega))
  clear hb
  go_wp2
  go_ret
  exact ⟨rfl, HB1.out⟩

theorem lawHalf_long2 (ao bo : Option Addr) (n m c d : Nat) (w : World) (hm1 : m ≤ 9223372036854775807) (h1 : n ≤ 1048576) (hs : (1048576 : Int) - n < m) :
    Calls Try.prog 13 #[.agg #[.slice ao n c], .agg #[.slice bo m d]] w fun e w' => e = .returned (.bool true) ∧ Below w.heap.size w w' := by
  have HB0 : Hid (Below w.heap.size w ((w.alloc (Obj.cells #[Value.slice ao n c] 37)).alloc (Obj.cells #[Value.slice bo m d] 37))) := below_two w _ _
  go_enter Try.func13, Try.ntmps13
  go_wp2_with fail
  refine (szBig_c ao n c 1048576 _ (by omega) (by omega) (by omega)).mono ?_
  rw [if_neg (by omega)]
  rintro e w1 ⟨rfl, hb⟩
  have HB1 : Hid (Below w.heap.size w w1) := HB0.out.trans (hb.mono (by simp; omega))
  have B_1 : w1.cell? ⟨w.heap.size + 1, 0, none⟩ = some (.slice bo m d) := cell_keep (S := 0) hb (by simp)
  clear hb
  go_wp2_with fail
  refine (szBig_c bo m d (1048576 - n) _ (by omega) (by omega) (by omega)).mono ?_
  rw [if_pos (by omega)]
  rintro e w2 ⟨rfl, hb⟩
  have HB2 : Hid (Below w.heap.size w w2) := HB1.out.trans (hb.mono HB1.out.size)
  clear hb
  go_wp2
  go_ret
  exact ⟨rfl, HB2.out⟩

set_option maxHeartbeats 8000000 in
set_option maxRecDepth 1000000 in
theorem lawHalf_c (ao bo : Option Addr) (n m c d : Nat) (xs ys : List Int) (w : World) (hx : xs.length = n) (hy : ys.length = m) (hm0 : n ≤ 9223372036854775807) (hm1 : m ≤ 9223372036854775807) (hr : Rd w ao xs) (hs : Rd w bo ys) :
    Calls Try.prog 13 #[.agg #[.slice ao n c], .agg #[.slice bo m d]] w fun e w' => e = .returned (.bool true) ∧ Below w.heap.size w w' := by
  by_cases h1 : 1048576 < n
  · exact lawHalf_long1 ao bo n m c d w hm0 h1
  by_cases h2 : (1048576 : Int) - n < m
  · exact lawHalf_long2 ao bo n m c d w hm1 (by omega) h2
  · have HX : Hid (xs.length = n) := hx
    have HY : Hid (ys.length = m) := hy
    have HR : Hid (Rd w ao xs) := hr
    have HS : Hid (Rd w bo ys) := hs
    have HB0 : Hid (Below w.heap.size w ((w.alloc (Obj.cells #[Value.slice ao n c] 37)).alloc (Obj.cells #[Value.slice bo m d] 37))) := below_two w _ _
    obtain ⟨zs, fb, hF⟩ : ∃ zs fb, halfF xs ys = (zs, fb) := ⟨_, _, rfl⟩
    have HF : Hid (halfF xs ys = (zs, fb)) := hF
    obtain ⟨p, hp⟩ : ∃ p, zs.length = p := ⟨_, rfl⟩
    have HP : Hid (zs.length = p) := hp
    have hp6 : p ≤ 6 := by rw [← hp]; exact halfF_short hF
    have hfb : (fb != fb) = false := by simp
    clear hx hy hr hs hF hp
    have hn : n ≤ 17592186044416 := by omega
    have hm : m ≤ 17592186044416 := by omega
    go_enter Try.func13, Try.ntmps13
    go_wp2_with fail
    refine (szBig_c ao n c 1048576 _ (by omega) (by omega) (by omega)).mono ?_
    rw [if_neg (by omega)]
    rintro e w1 ⟨rfl, hb⟩
    have HB1 : Hid (Below w.heap.size w w1) := HB0.out.trans (hb.mono (by simp; omega))
    have A_1 : w1.cell? ⟨w.heap.size, 0, none⟩ = some (Value.slice ao n c) := cell_keep (S := 0) hb (by simp)
    have B_1 : w1.cell? ⟨w.heap.size + 1, 0, none⟩ = some (Value.slice bo m d) := cell_keep (S := 0) hb (by simp)
    have z1 : w.heap.size + 2 ≤ w1.heap.size := by have := hb.size; simp at this; omega
    clear hb
    go_wp2_with fail
    have hba : Below w1.heap.size w1 w1 := Below.refl _ _
    refine (szBig_c bo m d (1048576 - n) _ (by omega) (by omega) (by omega)).mono ?_
    rw [if_neg (by omega)]
    rintro e w2 ⟨rfl, hb⟩
    have hbk : Below w1.heap.size w1 w2 := hba.trans (hb.mono (by first | exact Nat.le_refl _ | (simp; done) | (simp; omega)))
    have HB2 : Hid (Below w.heap.size w w2) := HB1.out.trans (hbk.mono HB1.out.size)
    have z2 : w1.heap.size ≤ w2.heap.size := hbk.size
    have A_2 : w2.cell? ⟨w.heap.size, 0, none⟩ = some (Value.slice ao n c) := cell_keep (S := 0) hbk A_1
    have B_2 : w2.cell? ⟨w.heap.size + 1, 0, none⟩ = some (Value.slice bo m d) := cell_keep (S := 0) hbk B_1
    have lA_2 : w.heap.size < w2.heap.size := World.block_lt_of_cell? _ _ A_2
    have lB_2 : w.heap.size + 1 < w2.heap.size := World.block_lt_of_cell? _ _ B_2
    clear hba
    clear hb hbk
    clear A_1 B_1
    go_upto_region 8 with fail
    go_cut [6, 7] (fun ub uv wx => ∃ (g1 : Nat) (a1 : Option Addr) (d1 : Nat), ub = .pointer (some ⟨g1, 0, none⟩) ∧ uv = .bool fb ∧ wx.cell? ⟨g1, 0, none⟩ = some (Value.slice a1 p d1) ∧ Hid (Own wx w2.heap.size (Value.slice a1 p d1) zs) ∧ Hid (Below w2.heap.size w2 wx))
    case first =>
      have tok1 : True := trivial
      have HBs : Hid (Below w2.heap.size w2 w2) := Below.refl _ _
      have lAs : w.heap.size + 1 < w2.heap.size := World.block_lt_of_cell? _ _ B_2
      go_region_held3 (fun w' => w'.cell? ⟨w.heap.size, 0, none⟩ = some (Value.slice ao n c) ∧ w'.cell? ⟨w.heap.size + 1, 0, none⟩ = some (Value.slice bo m d)) (first | go_keep | exact ⟨keep1 A_p3 (by omega), keep1 B_p3 (by omega)⟩) (first
        | (go_at_call 34; have _t := tok1; refine (toBig_d HX.out hn (HR.out.later HB2.out) _ (by repeat (first | exact HBs.out | refine Below.drew ?_ | refine Below.alloc ?_ (by first | omega | (simp; omega)) _))).mono ?_; rintro e wp1 ⟨b1, e1, rfl, ho1, HBp1, hb1⟩; clear tok1 _t; have A_p1 : wp1.cell? ⟨w.heap.size, 0, none⟩ = some (Value.slice ao n c) := cell_keep (S := 0) hb1 (by first | exact A_2 | exact calloc A_2); have B_p1 : wp1.cell? ⟨w.heap.size + 1, 0, none⟩ = some (Value.slice bo m d) := cell_keep (S := 0) hb1 (by first | exact B_2 | exact calloc B_2); have lp1 : w.heap.size + 1 < wp1.heap.size := World.block_lt_of_cell? _ _ B_p1; have R1 : Hid (Rd wp1 b1 xs) := ho1.rd'.2; have zp1 : w2.heap.size ≤ wp1.heap.size := HBp1.out.size; obtain ⟨hc1, hf1⟩ := bcell hb1; have zq1 := hb1.size; (try simp at hc1); (try simp at hf1); (try simp at zq1); (try (have zz1 : w2.heap.size < wp1.heap.size := by omega)); clear hb1 ho1)
        | (go_at_call 34; refine (toBig_d HY.out hm (HS.out.later HB2.out) _ (by repeat (first | exact HBp1.out | refine Below.drew ?_ | refine Below.alloc ?_ (by first | omega | (simp; omega)) _))).mono ?_; rintro e wp2 ⟨b2, e2, rfl, ho2, HBp2, hb2⟩; have A_p2 : wp2.cell? ⟨w.heap.size, 0, none⟩ = some (Value.slice ao n c) := cell_keep (S := 0) hb2 (by first | exact A_p1 | exact calloc A_p1); have B_p2 : wp2.cell? ⟨w.heap.size + 1, 0, none⟩ = some (Value.slice bo m d) := cell_keep (S := 0) hb2 (by first | exact B_p1 | exact calloc B_p1); have lp2 : w.heap.size + 1 < wp2.heap.size := World.block_lt_of_cell? _ _ B_p2; have R1' : Hid (Rd wp2 b1 xs) := Rd.later (by first | exact R1.out | exact R1.out.alloc _) hb2; have R2 : Hid (Rd wp2 b2 ys) := ho2.rd'.2; have zp2 : w2.heap.size ≤ wp2.heap.size := HBp2.out.size; obtain ⟨hc2, hf2⟩ := bcell hb2; have zq2 := hb2.size; (try simp at hc2); (try simp at hf2); (try simp at zq2); (try (have zz2 : w2.heap.size < wp2.heap.size := by omega)); (try (have zz12 : wp1.heap.size < wp2.heap.size := by omega)); clear hb2 ho2)
        | (go_at_call 17; refine (specHalf_d (w := w2) HX.out HY.out hn hm (by first | exact R1'.out | exact R1'.out.alloc _) (by first | exact R2.out | exact R2.out.alloc _) HF.out HP.out (by repeat (first | exact HBp2.out | refine Below.drew ?_ | refine Below.alloc ?_ (by first | omega | (simp; omega)) _))).mono ?_; rintro e wp3 ⟨a1, d1, rfl, ho3, HBp3, hb3⟩; have A_p3 : wp3.cell? ⟨w.heap.size, 0, none⟩ = some (Value.slice ao n c) := cell_keep (S := 0) hb3 (by first | exact A_p2 | exact calloc A_p2); have B_p3 : wp3.cell? ⟨w.heap.size + 1, 0, none⟩ = some (Value.slice bo m d) := cell_keep (S := 0) hb3 (by first | exact B_p2 | exact calloc B_p2); have lp3 : w.heap.size + 1 < wp3.heap.size := World.block_lt_of_cell? _ _ B_p3; have zp3 : w2.heap.size ≤ wp3.heap.size := HBp3.out.size; have OZ : Hid (Own wp3 _ (Value.slice a1 p d1) zs) := ho3; obtain ⟨hc3, hf3⟩ := bcell hb3; have zq3 := hb3.size; (try simp at hc3); (try simp at hf3); (try simp at zq3); (try (have zz3 : w2.heap.size < wp3.heap.size := by omega)); (try (have zz13 : wp1.heap.size < wp3.heap.size := by omega)); (try (have zz23 : wp2.heap.size < wp3.heap.size := by omega)); clear hb3 ho3))
      all_goals go_wp2_with fail
      all_goals go_meet
      all_goals go_light
      all_goals first
        | (refine ⟨wp3.heap.size, a1, d1, rfl, rfl, cnew _ _ _, (OZ.out.later (balloc _ _)).mono ?_, HBp3.out.alloc ?_ _⟩ <;> first | omega | (simp; omega))
        | (refine ⟨wp2.heap.size, a1, d1, rfl, rfl, rsame (u := Value.slice none 0 0) ?_, own_set_mono OZ.out ?_ ?_, HBp3.out.setCell ?_ _⟩ <;> first | omega | (simp; omega) | (simp [*]; done))
        | (refine ⟨wp1.heap.size, a1, d1, rfl, rfl, rsame (u := Value.slice none 0 0) ?_, own_set_mono OZ.out ?_ ?_, HBp3.out.setCell ?_ _⟩ <;> first | omega | (simp; omega) | (simp [*]; done))
        | (refine ⟨w2.heap.size, a1, d1, rfl, rfl, rsame (u := Value.slice none 0 0) ?_, own_set_mono OZ.out ?_ ?_, HBp3.out.setCell ?_ _⟩ <;> first | omega | (simp; omega) | (simp [*]; done))
    case rest =>
      obtain ⟨g1, a1, d1, rfl, rfl, c0, ho, hb⟩ := hcut
      obtain ⟨w3, rfl⟩ : ∃ w3 : World, w3 = wc := ⟨_, rfl⟩
      have hbk : Below w2.heap.size w2 w3 := hb.out
      have HB3 : Hid (Below w.heap.size w w3) := HB2.out.trans (hbk.mono HB2.out.size)
      have z3 : w2.heap.size ≤ w3.heap.size := hbk.size
      have A_3 : w3.cell? ⟨w.heap.size, 0, none⟩ = some (Value.slice ao n c) := cell_keep (S := 0) hbk A_2
      have B_3 : w3.cell? ⟨w.heap.size + 1, 0, none⟩ = some (Value.slice bo m d) := cell_keep (S := 0) hbk B_2
      have bw_3 : w3.cell? ⟨g1, 0, none⟩ = some (Value.slice a1 p d1) := c0
      have lo_bw : g1 < w3.heap.size := World.block_lt_of_cell? _ _ bw_3
      have Z_3 : Hid (Own w3 w2.heap.size (Value.slice a1 p d1) zs) := ho
      have I_Z : Hid (∀ k, (Value.slice a1 p d1).ownBlock = some k → w2.heap.size ≤ k ∧ k < w3.heap.size) := World.ownsRow.lt Z_3.out
      have lA_3 : w.heap.size < w3.heap.size := World.block_lt_of_cell? _ _ A_3
      have lB_3 : w.heap.size + 1 < w3.heap.size := World.block_lt_of_cell? _ _ B_3
      have lbw_3 : g1 < w3.heap.size := World.block_lt_of_cell? _ _ bw_3
      clear A_2 B_2 lA_2 lB_2
      clear hb hbk ho c0
      go_wp2_with fail
      have hba : Below w3.heap.size w3 w3 := Below.refl _ _
      refine (toBig_c ao n c xs _ HX.out hn (HR.out.later HB3.out)).mono ?_
      rintro e w4 ⟨a3, d3, rfl, ho, hb⟩
      have hbk : Below w3.heap.size w3 w4 := hba.trans (hb.mono (by first | exact Nat.le_refl _ | (simp; done) | (simp; omega)))
      have HB4 : Hid (Below w.heap.size w w4) := HB3.out.trans (hbk.mono HB3.out.size)
      have z4 : w3.heap.size ≤ w4.heap.size := hbk.size
      have A_4 : w4.cell? ⟨w.heap.size, 0, none⟩ = some (Value.slice ao n c) := cell_keep (S := 0) hbk A_3
      have B_4 : w4.cell? ⟨w.heap.size + 1, 0, none⟩ = some (Value.slice bo m d) := cell_keep (S := 0) hbk B_3
      have bw_4 : w4.cell? ⟨g1, 0, none⟩ = some (Value.slice a1 p d1) := cell_keep (S := 0) hbk bw_3
      have Z_4 : Hid (Own w4 w2.heap.size (Value.slice a1 p d1) (zs)) := Z_3.out.later hbk
      have X_4 : Hid (Own w4 w3.heap.size (Value.slice a3 n d3) (xs)) := ho.mono (by first | exact Nat.le_refl _ | (simp; done) | (simp; omega))
      have I_X : Hid (∀ k, (Value.slice a3 n d3).ownBlock = some k → w3.heap.size ≤ k ∧ k < w4.heap.size) := World.ownsRow.lt X_4.out
      have lA_4 : w.heap.size < w4.heap.size := World.block_lt_of_cell? _ _ A_4
      have lB_4 : w.heap.size + 1 < w4.heap.size := World.block_lt_of_cell? _ _ B_4
      have lbw_4 : g1 < w4.heap.size := World.block_lt_of_cell? _ _ bw_4
      clear hba
      clear hb hbk
      clear ho
      clear A_3 B_3 bw_3 Z_3 lA_3 lB_3 lbw_3
      go_wp2_with fail
      have hba : Below w4.heap.size w4 (w4.alloc (Obj.cells #[Value.slice a3 n d3] 25)) := (Below.refl _ _).alloc (Nat.le_refl _) _
      refine (toBig_c bo m d ys _ HY.out hm (HS.out.later (HB4.out.trans (hba.mono HB4.out.size)))).mono ?_
      rintro e w5 ⟨a4, d4, rfl, ho, hb⟩
      have hbk : Below w4.heap.size w4 w5 := hba.trans (hb.mono (by first | exact Nat.le_refl _ | (simp; done) | (simp; omega)))
      have HB5 : Hid (Below w.heap.size w w5) := HB4.out.trans (hbk.mono HB4.out.size)
      have z5 : w4.heap.size ≤ w5.heap.size := hbk.size
      have A_5 : w5.cell? ⟨w.heap.size, 0, none⟩ = some (Value.slice ao n c) := cell_keep (S := 0) hbk A_4
      have B_5 : w5.cell? ⟨w.heap.size + 1, 0, none⟩ = some (Value.slice bo m d) := cell_keep (S := 0) hbk B_4
      have bw_5 : w5.cell? ⟨g1, 0, none⟩ = some (Value.slice a1 p d1) := cell_keep (S := 0) hbk bw_4
      have bx_5 : w5.cell? ⟨w4.heap.size, 0, none⟩ = some (Value.slice a3 n d3) := cell_keep (S := 0) hb (by simp)
      have zl5 : w4.heap.size < w5.heap.size := by have := hb.size; simp at this; omega
      have Z_5 : Hid (Own w5 w2.heap.size (Value.slice a1 p d1) (zs)) := Z_4.out.later hbk
      have X_5 : Hid (Own w5 w3.heap.size (Value.slice a3 n d3) (xs)) := X_4.out.later hbk
      have Y_5 : Hid (Own w5 (w4.heap.size + 1) (Value.slice a4 m d4) (ys)) := ho.mono (by first | exact Nat.le_refl _ | (simp; done) | (simp; omega))
      have I_Y : Hid (∀ k, (Value.slice a4 m d4).ownBlock = some k → (w4.heap.size + 1) ≤ k ∧ k < w5.heap.size) := World.ownsRow.lt Y_5.out
      have lA_5 : w.heap.size < w5.heap.size := World.block_lt_of_cell? _ _ A_5
      have lB_5 : w.heap.size + 1 < w5.heap.size := World.block_lt_of_cell? _ _ B_5
      have lbw_5 : g1 < w5.heap.size := World.block_lt_of_cell? _ _ bw_5
      have lbx_5 : w4.heap.size < w5.heap.size := World.block_lt_of_cell? _ _ bx_5
      clear hba
      clear hb hbk
      clear ho
      clear A_4 B_4 bw_4 Z_4 X_4 lA_4 lB_4 lbw_4
      go_wp2_with fail
      have hba : Below w5.heap.size w5 (w5.alloc (Obj.cells #[Value.slice a4 m d4] 25)) := (Below.refl _ _).alloc (Nat.le_refl _) _
      refine (implHalf_c a3 a4 n m d3 d4 xs ys _ HX.out HY.out hn hm (X_5.out.rd'.2.later hba) (Y_5.out.rd'.2.later hba) zs fb p HF.out HP.out).mono ?_
      rintro e w6 ⟨a5, d5, rfl, ho, hb⟩
      have hbk : Below w5.heap.size w5 w6 := hba.trans (hb.mono (by first | exact Nat.le_refl _ | (simp; done) | (simp; omega)))
      have HB6 : Hid (Below w.heap.size w w6) := HB5.out.trans (hbk.mono HB5.out.size)
      have z6 : w5.heap.size ≤ w6.heap.size := hbk.size
      have A_6 : w6.cell? ⟨w.heap.size, 0, none⟩ = some (Value.slice ao n c) := cell_keep (S := 0) hbk A_5
      have B_6 : w6.cell? ⟨w.heap.size + 1, 0, none⟩ = some (Value.slice bo m d) := cell_keep (S := 0) hbk B_5
      have bw_6 : w6.cell? ⟨g1, 0, none⟩ = some (Value.slice a1 p d1) := cell_keep (S := 0) hbk bw_5
      have bx_6 : w6.cell? ⟨w4.heap.size, 0, none⟩ = some (Value.slice a3 n d3) := cell_keep (S := 0) hbk bx_5
      have bz_6 : w6.cell? ⟨w5.heap.size, 0, none⟩ = some (Value.slice a4 m d4) := cell_keep (S := 0) hb (by simp)
      have zl6 : w5.heap.size < w6.heap.size := by have := hb.size; simp at this; omega
      have Z_6 : Hid (Own w6 w2.heap.size (Value.slice a1 p d1) (zs)) := Z_5.out.later hbk
      have X_6 : Hid (Own w6 w3.heap.size (Value.slice a3 n d3) (xs)) := X_5.out.later hbk
      have Y_6 : Hid (Own w6 (w4.heap.size + 1) (Value.slice a4 m d4) (ys)) := Y_5.out.later hbk
      have G_6 : Hid (Own w6 (w5.heap.size + 1) (Value.slice a5 p d5) (zs)) := ho.mono (by first | exact Nat.le_refl _ | (simp; done) | (simp; omega))
      have I_G : Hid (∀ k, (Value.slice a5 p d5).ownBlock = some k → (w5.heap.size + 1) ≤ k ∧ k < w6.heap.size) := World.ownsRow.lt G_6.out
      have lA_6 : w.heap.size < w6.heap.size := World.block_lt_of_cell? _ _ A_6
      have lB_6 : w.heap.size + 1 < w6.heap.size := World.block_lt_of_cell? _ _ B_6
      have lbw_6 : g1 < w6.heap.size := World.block_lt_of_cell? _ _ bw_6
      have lbx_6 : w4.heap.size < w6.heap.size := World.block_lt_of_cell? _ _ bx_6
      have lbz_6 : w5.heap.size < w6.heap.size := World.block_lt_of_cell? _ _ bz_6
      clear hba
      clear hb hbk
      clear ho
      clear A_5 B_5 bw_5 bx_5 Z_5 X_5 Y_5 lA_5 lB_5 lbw_5 lbx_5
      go_wp2_with fail
      have hba : Below w6.heap.size w6 (w6.alloc (Obj.cells #[Value.slice a5 p d5] 25)) := (Below.refl _ _).alloc (Nat.le_refl _) _
      refine (eqBig_c a5 a1 p p d5 d1 zs zs _ HP.out HP.out (by omega) (by omega) (G_6.out.rd'.2.later hba) (Z_6.out.rd'.2.later hba)).mono ?_
      rw [decide_eq_true rfl]
      rintro e w7 ⟨rfl, hb⟩
      have hbk : Below w6.heap.size w6 w7 := hba.trans (hb.mono (by first | exact Nat.le_refl _ | (simp; done) | (simp; omega)))
      have HB7 : Hid (Below w.heap.size w w7) := HB6.out.trans (hbk.mono HB6.out.size)
      have z7 : w6.heap.size ≤ w7.heap.size := hbk.size
      have A_7 : w7.cell? ⟨w.heap.size, 0, none⟩ = some (Value.slice ao n c) := cell_keep (S := 0) hbk A_6
      have B_7 : w7.cell? ⟨w.heap.size + 1, 0, none⟩ = some (Value.slice bo m d) := cell_keep (S := 0) hbk B_6
      have bw_7 : w7.cell? ⟨g1, 0, none⟩ = some (Value.slice a1 p d1) := cell_keep (S := 0) hbk bw_6
      have bx_7 : w7.cell? ⟨w4.heap.size, 0, none⟩ = some (Value.slice a3 n d3) := cell_keep (S := 0) hbk bx_6
      have bz_7 : w7.cell? ⟨w5.heap.size, 0, none⟩ = some (Value.slice a4 m d4) := cell_keep (S := 0) hbk bz_6
      have bg_7 : w7.cell? ⟨w6.heap.size, 0, none⟩ = some (Value.slice a5 p d5) := cell_keep (S := 0) hb (by simp)
      have zl7 : w6.heap.size < w7.heap.size := by have := hb.size; simp at this; omega
      have Z_7 : Hid (Own w7 w2.heap.size (Value.slice a1 p d1) (zs)) := Z_6.out.later hbk
      have X_7 : Hid (Own w7 w3.heap.size (Value.slice a3 n d3) (xs)) := X_6.out.later hbk
      have Y_7 : Hid (Own w7 (w4.heap.size + 1) (Value.slice a4 m d4) (ys)) := Y_6.out.later hbk
      have G_7 : Hid (Own w7 (w5.heap.size + 1) (Value.slice a5 p d5) (zs)) := G_6.out.later hbk
      have lA_7 : w.heap.size < w7.heap.size := World.block_lt_of_cell? _ _ A_7
      have lB_7 : w.heap.size + 1 < w7.heap.size := World.block_lt_of_cell? _ _ B_7
      have lbw_7 : g1 < w7.heap.size := World.block_lt_of_cell? _ _ bw_7
      have lbx_7 : w4.heap.size < w7.heap.size := World.block_lt_of_cell? _ _ bx_7
      have lbz_7 : w5.heap.size < w7.heap.size := World.block_lt_of_cell? _ _ bz_7
      have lbg_7 : w6.heap.size < w7.heap.size := World.block_lt_of_cell? _ _ bg_7
      clear hba
      clear hb hbk
      clear A_6 B_6 bw_6 bx_6 bz_6 Z_6 X_6 Y_6 G_6 lA_6 lB_6 lbw_6 lbx_6 lbz_6
      go_wp2_with fail
      go_region_held3 (fun w' => w'.cell? ⟨w.heap.size, 0, none⟩ = some (Value.slice ao n c) ∧ w'.cell? ⟨w.heap.size + 1, 0, none⟩ = some (Value.slice bo m d) ∧ w'.cell? ⟨g1, 0, none⟩ = some (Value.slice a1 p d1) ∧ w'.cell? ⟨w4.heap.size, 0, none⟩ = some (Value.slice a3 n d3) ∧ w'.cell? ⟨w5.heap.size, 0, none⟩ = some (Value.slice a4 m d4) ∧ w'.cell? ⟨w6.heap.size, 0, none⟩ = some (Value.slice a5 p d5)) (first | go_keep) (first
        | (go_at_call 34; have hba : Below w7.heap.size w7 w7.drew := (Below.refl _ _).drew; refine (toBig_c ao n c xs _ HX.out hn (HR.out.later (HB7.out.trans (hba.mono HB7.out.size)))).mono ?_; rintro e w8 ⟨a6, d6, rfl, ho, hb⟩; have hbk : Below w7.heap.size w7 w8 := hba.trans (hb.mono (by first | exact Nat.le_refl _ | (simp; done) | (simp; omega))); have HB8 : Hid (Below w.heap.size w w8) := HB7.out.trans (hbk.mono HB7.out.size); have z8 : w7.heap.size ≤ w8.heap.size := hbk.size; have A_8 : w8.cell? ⟨w.heap.size, 0, none⟩ = some (Value.slice ao n c) := cell_keep (S := 0) hbk A_7; have B_8 : w8.cell? ⟨w.heap.size + 1, 0, none⟩ = some (Value.slice bo m d) := cell_keep (S := 0) hbk B_7; have bw_8 : w8.cell? ⟨g1, 0, none⟩ = some (Value.slice a1 p d1) := cell_keep (S := 0) hbk bw_7; have bx_8 : w8.cell? ⟨w4.heap.size, 0, none⟩ = some (Value.slice a3 n d3) := cell_keep (S := 0) hbk bx_7; have bz_8 : w8.cell? ⟨w5.heap.size, 0, none⟩ = some (Value.slice a4 m d4) := cell_keep (S := 0) hbk bz_7; have bg_8 : w8.cell? ⟨w6.heap.size, 0, none⟩ = some (Value.slice a5 p d5) := cell_keep (S := 0) hbk bg_7; have Z_8 : Hid (Own w8 w2.heap.size (Value.slice a1 p d1) (zs)) := Z_7.out.later hbk; have X_8 : Hid (Own w8 w3.heap.size (Value.slice a3 n d3) (xs)) := X_7.out.later hbk; have Y_8 : Hid (Own w8 (w4.heap.size + 1) (Value.slice a4 m d4) (ys)) := Y_7.out.later hbk; have G_8 : Hid (Own w8 (w5.heap.size + 1) (Value.slice a5 p d5) (zs)) := G_7.out.later hbk; have T6_8 : Hid (Own w8 w7.heap.size (Value.slice a6 n d6) (xs)) := ho.mono (by first | exact Nat.le_refl _ | (simp; done) | (simp; omega)); have I_T6 : Hid (∀ k, (Value.slice a6 n d6).ownBlock = some k → w7.heap.size ≤ k ∧ k < w8.heap.size) := World.ownsRow.lt T6_8.out; have lA_8 : w.heap.size < w8.heap.size := World.block_lt_of_cell? _ _ A_8; have lB_8 : w.heap.size + 1 < w8.heap.size := World.block_lt_of_cell? _ _ B_8; have lbw_8 : g1 < w8.heap.size := World.block_lt_of_cell? _ _ bw_8; have lbx_8 : w4.heap.size < w8.heap.size := World.block_lt_of_cell? _ _ bx_8; have lbz_8 : w5.heap.size < w8.heap.size := World.block_lt_of_cell? _ _ bz_8; have lbg_8 : w6.heap.size < w8.heap.size := World.block_lt_of_cell? _ _ bg_8; clear hba; clear hb hbk; clear ho; clear A_7 B_7 bw_7 bx_7 bz_7 bg_7 Z_7 X_7 Y_7 G_7 lA_7 lB_7 lbw_7 lbx_7 lbz_7 lbg_7)
        | (go_at_call 36; have hba : Below w8.heap.size w8 w8 := Below.refl _ _; refine (eqBig_c a3 a6 n n d3 d6 xs xs _ HX.out HX.out hn hn X_8.out.rd'.2 T6_8.out.rd'.2).mono ?_; rw [decide_eq_true rfl]; rintro e w9 ⟨rfl, hb⟩; have hbk : Below w8.heap.size w8 w9 := hba.trans (hb.mono (by first | exact Nat.le_refl _ | (simp; done) | (simp; omega))); have HB9 : Hid (Below w.heap.size w w9) := HB8.out.trans (hbk.mono HB8.out.size); have z9 : w8.heap.size ≤ w9.heap.size := hbk.size; have A_9 : w9.cell? ⟨w.heap.size, 0, none⟩ = some (Value.slice ao n c) := cell_keep (S := 0) hbk A_8; have B_9 : w9.cell? ⟨w.heap.size + 1, 0, none⟩ = some (Value.slice bo m d) := cell_keep (S := 0) hbk B_8; have bw_9 : w9.cell? ⟨g1, 0, none⟩ = some (Value.slice a1 p d1) := cell_keep (S := 0) hbk bw_8; have bx_9 : w9.cell? ⟨w4.heap.size, 0, none⟩ = some (Value.slice a3 n d3) := cell_keep (S := 0) hbk bx_8; have bz_9 : w9.cell? ⟨w5.heap.size, 0, none⟩ = some (Value.slice a4 m d4) := cell_keep (S := 0) hbk bz_8; have bg_9 : w9.cell? ⟨w6.heap.size, 0, none⟩ = some (Value.slice a5 p d5) := cell_keep (S := 0) hbk bg_8; have Z_9 : Hid (Own w9 w2.heap.size (Value.slice a1 p d1) (zs)) := Z_8.out.later hbk; have X_9 : Hid (Own w9 w3.heap.size (Value.slice a3 n d3) (xs)) := X_8.out.later hbk; have Y_9 : Hid (Own w9 (w4.heap.size + 1) (Value.slice a4 m d4) (ys)) := Y_8.out.later hbk; have G_9 : Hid (Own w9 (w5.heap.size + 1) (Value.slice a5 p d5) (zs)) := G_8.out.later hbk; have T6_9 : Hid (Own w9 w7.heap.size (Value.slice a6 n d6) (xs)) := T6_8.out.later hbk; have lA_9 : w.heap.size < w9.heap.size := World.block_lt_of_cell? _ _ A_9; have lB_9 : w.heap.size + 1 < w9.heap.size := World.block_lt_of_cell? _ _ B_9; have lbw_9 : g1 < w9.heap.size := World.block_lt_of_cell? _ _ bw_9; have lbx_9 : w4.heap.size < w9.heap.size := World.block_lt_of_cell? _ _ bx_9; have lbz_9 : w5.heap.size < w9.heap.size := World.block_lt_of_cell? _ _ bz_9; have lbg_9 : w6.heap.size < w9.heap.size := World.block_lt_of_cell? _ _ bg_9; clear hba; clear hb hbk; clear A_8 B_8 bw_8 bx_8 bz_8 bg_8 Z_8 X_8 Y_8 G_8 T6_8 lA_8 lB_8 lbw_8 lbx_8 lbz_8 lbg_8))
      clear T6_9 I_T6
      go_wp2_with fail
      go_region_held3 (fun w' => w'.cell? ⟨w.heap.size, 0, none⟩ = some (Value.slice ao n c) ∧ w'.cell? ⟨w.heap.size + 1, 0, none⟩ = some (Value.slice bo m d) ∧ w'.cell? ⟨g1, 0, none⟩ = some (Value.slice a1 p d1) ∧ w'.cell? ⟨w4.heap.size, 0, none⟩ = some (Value.slice a3 n d3) ∧ w'.cell? ⟨w5.heap.size, 0, none⟩ = some (Value.slice a4 m d4) ∧ w'.cell? ⟨w6.heap.size, 0, none⟩ = some (Value.slice a5 p d5)) (first | go_keep) (first
        | (go_at_call 34; have hba : Below w9.heap.size w9 w9.drew := (Below.refl _ _).drew; refine (toBig_c bo m d ys _ HY.out hm (HS.out.later (HB9.out.trans (hba.mono HB9.out.size)))).mono ?_; rintro e w10 ⟨a7, d7, rfl, ho, hb⟩; have hbk : Below w9.heap.size w9 w10 := hba.trans (hb.mono (by first | exact Nat.le_refl _ | (simp; done) | (simp; omega))); have HB10 : Hid (Below w.heap.size w w10) := HB9.out.trans (hbk.mono HB9.out.size); have z10 : w9.heap.size ≤ w10.heap.size := hbk.size; have A_10 : w10.cell? ⟨w.heap.size, 0, none⟩ = some (Value.slice ao n c) := cell_keep (S := 0) hbk A_9; have B_10 : w10.cell? ⟨w.heap.size + 1, 0, none⟩ = some (Value.slice bo m d) := cell_keep (S := 0) hbk B_9; have bw_10 : w10.cell? ⟨g1, 0, none⟩ = some (Value.slice a1 p d1) := cell_keep (S := 0) hbk bw_9; have bx_10 : w10.cell? ⟨w4.heap.size, 0, none⟩ = some (Value.slice a3 n d3) := cell_keep (S := 0) hbk bx_9; have bz_10 : w10.cell? ⟨w5.heap.size, 0, none⟩ = some (Value.slice a4 m d4) := cell_keep (S := 0) hbk bz_9; have bg_10 : w10.cell? ⟨w6.heap.size, 0, none⟩ = some (Value.slice a5 p d5) := cell_keep (S := 0) hbk bg_9; have Z_10 : Hid (Own w10 w2.heap.size (Value.slice a1 p d1) (zs)) := Z_9.out.later hbk; have X_10 : Hid (Own w10 w3.heap.size (Value.slice a3 n d3) (xs)) := X_9.out.later hbk; have Y_10 : Hid (Own w10 (w4.heap.size + 1) (Value.slice a4 m d4) (ys)) := Y_9.out.later hbk; have G_10 : Hid (Own w10 (w5.heap.size + 1) (Value.slice a5 p d5) (zs)) := G_9.out.later hbk; have T7_10 : Hid (Own w10 w9.heap.size (Value.slice a7 m d7) (ys)) := ho.mono (by first | exact Nat.le_refl _ | (simp; done) | (simp; omega)); have I_T7 : Hid (∀ k, (Value.slice a7 m d7).ownBlock = some k → w9.heap.size ≤ k ∧ k < w10.heap.size) := World.ownsRow.lt T7_10.out; have lA_10 : w.heap.size < w10.heap.size := World.block_lt_of_cell? _ _ A_10; have lB_10 : w.heap.size + 1 < w10.heap.size := World.block_lt_of_cell? _ _ B_10; have lbw_10 : g1 < w10.heap.size := World.block_lt_of_cell? _ _ bw_10; have lbx_10 : w4.heap.size < w10.heap.size := World.block_lt_of_cell? _ _ bx_10; have lbz_10 : w5.heap.size < w10.heap.size := World.block_lt_of_cell? _ _ bz_10; have lbg_10 : w6.heap.size < w10.heap.size := World.block_lt_of_cell? _ _ bg_10; clear hba; clear hb hbk; clear ho; clear A_9 B_9 bw_9 bx_9 bz_9 bg_9 Z_9 X_9 Y_9 G_9 lA_9 lB_9 lbw_9 lbx_9 lbz_9 lbg_9)
        | (go_at_call 36; have hba : Below w10.heap.size w10 w10 := Below.refl _ _; refine (eqBig_c a4 a7 m m d4 d7 ys ys _ HY.out HY.out hm hm Y_10.out.rd'.2 T7_10.out.rd'.2).mono ?_; rw [decide_eq_true rfl]; rintro e w11 ⟨rfl, hb⟩; have hbk : Below w10.heap.size w10 w11 := hba.trans (hb.mono (by first | exact Nat.le_refl _ | (simp; done) | (simp; omega))); have HB11 : Hid (Below w.heap.size w w11) := HB10.out.trans (hbk.mono HB10.out.size); have z11 : w10.heap.size ≤ w11.heap.size := hbk.size; have A_11 : w11.cell? ⟨w.heap.size, 0, none⟩ = some (Value.slice ao n c) := cell_keep (S := 0) hbk A_10; have B_11 : w11.cell? ⟨w.heap.size + 1, 0, none⟩ = some (Value.slice bo m d) := cell_keep (S := 0) hbk B_10; have bw_11 : w11.cell? ⟨g1, 0, none⟩ = some (Value.slice a1 p d1) := cell_keep (S := 0) hbk bw_10; have bx_11 : w11.cell? ⟨w4.heap.size, 0, none⟩ = some (Value.slice a3 n d3) := cell_keep (S := 0) hbk bx_10; have bz_11 : w11.cell? ⟨w5.heap.size, 0, none⟩ = some (Value.slice a4 m d4) := cell_keep (S := 0) hbk bz_10; have bg_11 : w11.cell? ⟨w6.heap.size, 0, none⟩ = some (Value.slice a5 p d5) := cell_keep (S := 0) hbk bg_10; have Z_11 : Hid (Own w11 w2.heap.size (Value.slice a1 p d1) (zs)) := Z_10.out.later hbk; have X_11 : Hid (Own w11 w3.heap.size (Value.slice a3 n d3) (xs)) := X_10.out.later hbk; have Y_11 : Hid (Own w11 (w4.heap.size + 1) (Value.slice a4 m d4) (ys)) := Y_10.out.later hbk; have G_11 : Hid (Own w11 (w5.heap.size + 1) (Value.slice a5 p d5) (zs)) := G_10.out.later hbk; have T7_11 : Hid (Own w11 w9.heap.size (Value.slice a7 m d7) (ys)) := T7_10.out.later hbk; have lA_11 : w.heap.size < w11.heap.size := World.block_lt_of_cell? _ _ A_11; have lB_11 : w.heap.size + 1 < w11.heap.size := World.block_lt_of_cell? _ _ B_11; have lbw_11 : g1 < w11.heap.size := World.block_lt_of_cell? _ _ bw_11; have lbx_11 : w4.heap.size < w11.heap.size := World.block_lt_of_cell? _ _ bx_11; have lbz_11 : w5.heap.size < w11.heap.size := World.block_lt_of_cell? _ _ bz_11; have lbg_11 : w6.heap.size < w11.heap.size := World.block_lt_of_cell? _ _ bg_11; clear hba; clear hb hbk; clear A_10 B_10 bw_10 bx_10 bz_10 bg_10 Z_10 X_10 Y_10 G_10 T7_10 lA_10 lB_10 lbw_10 lbx_10 lbz_10 lbg_10))
      clear T7_11 I_T7
      go_wp2_with fail
      have hba : Below w11.heap.size w11 w11 := Below.refl _ _
      refine (markBig_c a3 n d3 1 w3.heap.size xs _ hn (by omega) (by omega) X_11.out).mono ?_
      rintro e w12 ⟨rfl, ho, hg⟩
      have hgr : w11.grownBy w12 (Value.slice a3 n d3).ownBlock := hg
      have HB12 : Hid (Below w.heap.size w w12) := HB11.out.grown hgr HB11.out.size (fun k e => by have := I_X.out k e; omega)
      have z12 : w11.heap.size ≤ w12.heap.size := hgr.size
      have A_12 : w12.cell? ⟨w.heap.size, 0, none⟩ = some (Value.slice ao n c) := hgr.cell A_11 (fun e => by have h := I_X.out _ e.symm; dsimp only at h; omega)
      have B_12 : w12.cell? ⟨w.heap.size + 1, 0, none⟩ = some (Value.slice bo m d) := hgr.cell B_11 (fun e => by have h := I_X.out _ e.symm; dsimp only at h; omega)
      have bw_12 : w12.cell? ⟨g1, 0, none⟩ = some (Value.slice a1 p d1) := hgr.cell bw_11 (fun e => by have h := I_X.out _ e.symm; dsimp only at h; omega)
      have bx_12 : w12.cell? ⟨w4.heap.size, 0, none⟩ = some (Value.slice a3 n d3) := hgr.cell bx_11 (fun e => by have h := I_X.out _ e.symm; dsimp only at h; omega)
      have bz_12 : w12.cell? ⟨w5.heap.size, 0, none⟩ = some (Value.slice a4 m d4) := hgr.cell bz_11 (fun e => by have h := I_X.out _ e.symm; dsimp only at h; omega)
      have bg_12 : w12.cell? ⟨w6.heap.size, 0, none⟩ = some (Value.slice a5 p d5) := hgr.cell bg_11 (fun e => by have h := I_X.out _ e.symm; dsimp only at h; omega)
      have Z_12 : Hid (Own w12 w2.heap.size (Value.slice a1 p d1) (zs)) := Z_11.out.kept hgr (own_sep I_Z.out I_X.out (by omega))
      have Y_12 : Hid (Own w12 (w4.heap.size + 1) (Value.slice a4 m d4) (ys)) := Y_11.out.kept hgr (own_sep I_Y.out I_X.out (by omega))
      have G_12 : Hid (Own w12 (w5.heap.size + 1) (Value.slice a5 p d5) (zs)) := G_11.out.kept hgr (own_sep I_G.out I_X.out (by omega))
      have X_12 : Hid (Own w12 w3.heap.size (Value.slice a3 n d3) (marks 1 n)) := ho
      have lA_12 : w.heap.size < w12.heap.size := World.block_lt_of_cell? _ _ A_12
      have lB_12 : w.heap.size + 1 < w12.heap.size := World.block_lt_of_cell? _ _ B_12
      have lbw_12 : g1 < w12.heap.size := World.block_lt_of_cell? _ _ bw_12
      have lbx_12 : w4.heap.size < w12.heap.size := World.block_lt_of_cell? _ _ bx_12
      have lbz_12 : w5.heap.size < w12.heap.size := World.block_lt_of_cell? _ _ bz_12
      have lbg_12 : w6.heap.size < w12.heap.size := World.block_lt_of_cell? _ _ bg_12
      clear hba
      clear hg hgr ho
      clear A_11 B_11 bw_11 bx_11 bz_11 bg_11 Z_11 X_11 Y_11 G_11 lA_11 lB_11 lbw_11 lbx_11 lbz_11 lbg_11
      go_wp2_with fail
      have hba : Below w12.heap.size w12 w12 := Below.refl _ _
      refine (markBig_c a4 m d4 (1 + n) (w4.heap.size + 1) ys _ hm (by omega) (by omega) Y_12.out).mono ?_
      rintro e w13 ⟨rfl, ho, hg⟩
      have hgr : w12.grownBy w13 (Value.slice a4 m d4).ownBlock := hg
      have HB13 : Hid (Below w.heap.size w w13) := HB12.out.grown hgr HB12.out.size (fun k e => by have := I_Y.out k e; omega)
      have z13 : w12.heap.size ≤ w13.heap.size := hgr.size
      have A_13 : w13.cell? ⟨w.heap.size, 0, none⟩ = some (Value.slice ao n c) := hgr.cell A_12 (fun e => by have h := I_Y.out _ e.symm; dsimp only at h; omega)
      have B_13 : w13.cell? ⟨w.heap.size + 1, 0, none⟩ = some (Value.slice bo m d) := hgr.cell B_12 (fun e => by have h := I_Y.out _ e.symm; dsimp only at h; omega)
      have bw_13 : w13.cell? ⟨g1, 0, none⟩ = some (Value.slice a1 p d1) := hgr.cell bw_12 (fun e => by have h := I_Y.out _ e.symm; dsimp only at h; omega)
      have bx_13 : w13.cell? ⟨w4.heap.size, 0, none⟩ = some (Value.slice a3 n d3) := hgr.cell bx_12 (fun e => by have h := I_Y.out _ e.symm; dsimp only at h; omega)
      have bz_13 : w13.cell? ⟨w5.heap.size, 0, none⟩ = some (Value.slice a4 m d4) := hgr.cell bz_12 (fun e => by have h := I_Y.out _ e.symm; dsimp only at h; omega)
      have bg_13 : w13.cell? ⟨w6.heap.size, 0, none⟩ = some (Value.slice a5 p d5) := hgr.cell bg_12 (fun e => by have h := I_Y.out _ e.symm; dsimp only at h; omega)
      have Z_13 : Hid (Own w13 w2.heap.size (Value.slice a1 p d1) (zs)) := Z_12.out.kept hgr (own_sep I_Z.out I_Y.out (by omega))
      have X_13 : Hid (Own w13 w3.heap.size (Value.slice a3 n d3) (marks 1 n)) := X_12.out.kept hgr (own_sep I_X.out I_Y.out (by omega))
      have G_13 : Hid (Own w13 (w5.heap.size + 1) (Value.slice a5 p d5) (zs)) := G_12.out.kept hgr (own_sep I_G.out I_Y.out (by omega))
      have Y_13 : Hid (Own w13 (w4.heap.size + 1) (Value.slice a4 m d4) (marks (1 + n) m)) := ho
      have lA_13 : w.heap.size < w13.heap.size := World.block_lt_of_cell? _ _ A_13
      have lB_13 : w.heap.size + 1 < w13.heap.size := World.block_lt_of_cell? _ _ B_13
      have lbw_13 : g1 < w13.heap.size := World.block_lt_of_cell? _ _ bw_13
      have lbx_13 : w4.heap.size < w13.heap.size := World.block_lt_of_cell? _ _ bx_13
      have lbz_13 : w5.heap.size < w13.heap.size := World.block_lt_of_cell? _ _ bz_13
      have lbg_13 : w6.heap.size < w13.heap.size := World.block_lt_of_cell? _ _ bg_13
      clear hba
      clear hg hgr ho
      clear A_12 B_12 bw_12 bx_12 bz_12 bg_12 Z_12 X_12 Y_12 G_12 lA_12 lB_12 lbw_12 lbx_12 lbz_12 lbg_12
      clear X_13 Y_13 I_X I_Y
      go_wp2_with fail
      have hba : Below w13.heap.size w13 w13 := Below.refl _ _
      refine (eqBig_c a5 a1 p p d5 d1 zs zs _ HP.out HP.out (by omega) (by omega) G_13.out.rd'.2 Z_13.out.rd'.2).mono ?_
      rw [decide_eq_true rfl]
      rintro e w14 ⟨rfl, hb⟩
      have hbk : Below w13.heap.size w13 w14 := hba.trans (hb.mono (by first | exact Nat.le_refl _ | (simp; done) | (simp; omega)))
      have HB14 : Hid (Below w.heap.size w w14) := HB13.out.trans (hbk.mono HB13.out.size)
      have z14 : w13.heap.size ≤ w14.heap.size := hbk.size
      have A_14 : w14.cell? ⟨w.heap.size, 0, none⟩ = some (Value.slice ao n c) := cell_keep (S := 0) hbk A_13
      have B_14 : w14.cell? ⟨w.heap.size + 1, 0, none⟩ = some (Value.slice bo m d) := cell_keep (S := 0) hbk B_13
      have bw_14 : w14.cell? ⟨g1, 0, none⟩ = some (Value.slice a1 p d1) := cell_keep (S := 0) hbk bw_13
      have bx_14 : w14.cell? ⟨w4.heap.size, 0, none⟩ = some (Value.slice a3 n d3) := cell_keep (S := 0) hbk bx_13
      have bz_14 : w14.cell? ⟨w5.heap.size, 0, none⟩ = some (Value.slice a4 m d4) := cell_keep (S := 0) hbk bz_13
      have bg_14 : w14.cell? ⟨w6.heap.size, 0, none⟩ = some (Value.slice a5 p d5) := cell_keep (S := 0) hbk bg_13
      have Z_14 : Hid (Own w14 w2.heap.size (Value.slice a1 p d1) (zs)) := Z_13.out.later hbk
      have G_14 : Hid (Own w14 (w5.heap.size + 1) (Value.slice a5 p d5) (zs)) := G_13.out.later hbk
      have lA_14 : w.heap.size < w14.heap.size := World.block_lt_of_cell? _ _ A_14
      have lB_14 : w.heap.size + 1 < w14.heap.size := World.block_lt_of_cell? _ _ B_14
      have lbw_14 : g1 < w14.heap.size := World.block_lt_of_cell? _ _ bw_14
      have lbx_14 : w4.heap.size < w14.heap.size := World.block_lt_of_cell? _ _ bx_14
      have lbz_14 : w5.heap.size < w14.heap.size := World.block_lt_of_cell? _ _ bz_14
      have lbg_14 : w6.heap.size < w14.heap.size := World.block_lt_of_cell? _ _ bg_14
      clear hba
      clear hb hbk
      clear A_13 B_13 bw_13 bx_13 bz_13 bg_13 Z_13 G_13 lA_13 lB_13 lbw_13 lbx_13 lbz_13 lbg_13
      go_wp2_with fail
      have hba : Below w14.heap.size w14 w14 := Below.refl _ _
      refine (markBig_c a5 p d5 1 (w5.heap.size + 1) zs _ (by omega) (by omega) (by omega) G_14.out).mono ?_
      rintro e w15 ⟨rfl, ho, hg⟩
      have hgr : w14.grownBy w15 (Value.slice a5 p d5).ownBlock := hg
      have HB15 : Hid (Below w.heap.size w w15) := HB14.out.grown hgr HB14.out.size (fun k e => by have := I_G.out k e; omega)
      have z15 : w14.heap.size ≤ w15.heap.size := hgr.size
      have A_15 : w15.cell? ⟨w.heap.size, 0, none⟩ = some (Value.slice ao n c) := hgr.cell A_14 (fun e => by have h := I_G.out _ e.symm; dsimp only at h; omega)
      have B_15 : w15.cell? ⟨w.heap.size + 1, 0, none⟩ = some (Value.slice bo m d) := hgr.cell B_14 (fun e => by have h := I_G.out _ e.symm; dsimp only at h; omega)
      have bw_15 : w15.cell? ⟨g1, 0, none⟩ = some (Value.slice a1 p d1) := hgr.cell bw_14 (fun e => by have h := I_G.out _ e.symm; dsimp only at h; omega)
      have bx_15 : w15.cell? ⟨w4.heap.size, 0, none⟩ = some (Value.slice a3 n d3) := hgr.cell bx_14 (fun e => by have h := I_G.out _ e.symm; dsimp only at h; omega)
      have bz_15 : w15.cell? ⟨w5.heap.size, 0, none⟩ = some (Value.slice a4 m d4) := hgr.cell bz_14 (fun e => by have h := I_G.out _ e.symm; dsimp only at h; omega)
      have bg_15 : w15.cell? ⟨w6.heap.size, 0, none⟩ = some (Value.slice a5 p d5) := hgr.cell bg_14 (fun e => by have h := I_G.out _ e.symm; dsimp only at h; omega)
      have Z_15 : Hid (Own w15 w2.heap.size (Value.slice a1 p d1) (zs)) := Z_14.out.kept hgr (own_sep I_Z.out I_G.out (by omega))
      have G_15 : Hid (Own w15 (w5.heap.size + 1) (Value.slice a5 p d5) (marks 1 p)) := ho
      have lA_15 : w.heap.size < w15.heap.size := World.block_lt_of_cell? _ _ A_15
      have lB_15 : w.heap.size + 1 < w15.heap.size := World.block_lt_of_cell? _ _ B_15
      have lbw_15 : g1 < w15.heap.size := World.block_lt_of_cell? _ _ bw_15
      have lbx_15 : w4.heap.size < w15.heap.size := World.block_lt_of_cell? _ _ bx_15
      have lbz_15 : w5.heap.size < w15.heap.size := World.block_lt_of_cell? _ _ bz_15
      have lbg_15 : w6.heap.size < w15.heap.size := World.block_lt_of_cell? _ _ bg_15
      clear hba
      clear hg hgr ho
      clear A_14 B_14 bw_14 bx_14 bz_14 bg_14 Z_14 G_14 lA_14 lB_14 lbw_14 lbx_14 lbz_14 lbg_14
      go_wp2_with fail
      have hba : Below w15.heap.size w15 w15 := Below.refl _ _
      refine (heldBig_c a5 p d5 1 (w5.heap.size + 1) _ (by omega) (by omega) (by omega) G_15.out).mono ?_
      rintro e w16 ⟨rfl, hb⟩
      have hbk : Below w15.heap.size w15 w16 := hba.trans (hb.mono (by first | exact Nat.le_refl _ | (simp; done) | (simp; omega)))
      have HB16 : Hid (Below w.heap.size w w16) := HB15.out.trans (hbk.mono HB15.out.size)
      have z16 : w15.heap.size ≤ w16.heap.size := hbk.size
      have A_16 : w16.cell? ⟨w.heap.size, 0, none⟩ = some (Value.slice ao n c) := cell_keep (S := 0) hbk A_15
      have B_16 : w16.cell? ⟨w.heap.size + 1, 0, none⟩ = some (Value.slice bo m d) := cell_keep (S := 0) hbk B_15
      have bw_16 : w16.cell? ⟨g1, 0, none⟩ = some (Value.slice a1 p d1) := cell_keep (S := 0) hbk bw_15
      have bx_16 : w16.cell? ⟨w4.heap.size, 0, none⟩ = some (Value.slice a3 n d3) := cell_keep (S := 0) hbk bx_15
      have bz_16 : w16.cell? ⟨w5.heap.size, 0, none⟩ = some (Value.slice a4 m d4) := cell_keep (S := 0) hbk bz_15
      have bg_16 : w16.cell? ⟨w6.heap.size, 0, none⟩ = some (Value.slice a5 p d5) := cell_keep (S := 0) hbk bg_15
      have Z_16 : Hid (Own w16 w2.heap.size (Value.slice a1 p d1) (zs)) := Z_15.out.later hbk
      have G_16 : Hid (Own w16 (w5.heap.size + 1) (Value.slice a5 p d5) (marks 1 p)) := G_15.out.later hbk
      have lA_16 : w.heap.size < w16.heap.size := World.block_lt_of_cell? _ _ A_16
      have lB_16 : w.heap.size + 1 < w16.heap.size := World.block_lt_of_cell? _ _ B_16
      have lbw_16 : g1 < w16.heap.size := World.block_lt_of_cell? _ _ bw_16
      have lbx_16 : w4.heap.size < w16.heap.size := World.block_lt_of_cell? _ _ bx_16
      have lbz_16 : w5.heap.size < w16.heap.size := World.block_lt_of_cell? _ _ bz_16
      have lbg_16 : w6.heap.size < w16.heap.size := World.block_lt_of_cell? _ _ bg_16
      clear hba
      clear hb hbk
      clear A_15 B_15 bw_15 bx_15 bz_15 bg_15 Z_15 G_15 lA_15 lB_15 lbw_15 lbx_15 lbz_15 lbg_15
      go_upto_region 31 with fail
      go_cut [15, 16] (fun ub uv wx => ∃ (g8 : Nat) (a8 : Option Addr) (d8 : Nat), ub = .pointer (some ⟨g8, 0, none⟩) ∧ uv = .bool fb ∧ wx.cell? ⟨g8, 0, none⟩ = some (Value.slice a8 p d8) ∧ Hid (Own wx w16.heap.size (Value.slice a8 p d8) zs) ∧ Hid (Below w16.heap.size w16 wx))
      case first =>
        have tok1 : True := trivial
        have HBs : Hid (Below w16.heap.size w16 w16) := Below.refl _ _
        have lAs : w.heap.size + 1 < w16.heap.size := World.block_lt_of_cell? _ _ B_16
        go_region_held3 (fun w' => w'.cell? ⟨w.heap.size, 0, none⟩ = some (Value.slice ao n c) ∧ w'.cell? ⟨w.heap.size + 1, 0, none⟩ = some (Value.slice bo m d)) (first | go_keep | exact ⟨keep1 A_p3 (by omega), keep1 B_p3 (by omega)⟩) (first
          | (go_at_call 34; have _t := tok1; refine (toBig_d HX.out hn (HR.out.later HB16.out) _ (by repeat (first | exact HBs.out | refine Below.drew ?_ | refine Below.alloc ?_ (by first | omega | (simp; omega)) _))).mono ?_; rintro e wp1 ⟨b1, e1, rfl, ho1, HBp1, hb1⟩; clear tok1 _t; have A_p1 : wp1.cell? ⟨w.heap.size, 0, none⟩ = some (Value.slice ao n c) := cell_keep (S := 0) hb1 (by first | exact A_16 | exact calloc A_16); have B_p1 : wp1.cell? ⟨w.heap.size + 1, 0, none⟩ = some (Value.slice bo m d) := cell_keep (S := 0) hb1 (by first | exact B_16 | exact calloc B_16); have lp1 : w.heap.size + 1 < wp1.heap.size := World.block_lt_of_cell? _ _ B_p1; have R1 : Hid (Rd wp1 b1 xs) := ho1.rd'.2; have zp1 : w16.heap.size ≤ wp1.heap.size := HBp1.out.size; obtain ⟨hc1, hf1⟩ := bcell hb1; have zq1 := hb1.size; (try simp at hc1); (try simp at hf1); (try simp at zq1); (try (have zz1 : w16.heap.size < wp1.heap.size := by omega)); clear hb1 ho1)
          | (go_at_call 34; refine (toBig_d HY.out hm (HS.out.later HB16.out) _ (by repeat (first | exact HBp1.out | refine Below.drew ?_ | refine Below.alloc ?_ (by first | omega | (simp; omega)) _))).mono ?_; rintro e wp2 ⟨b2, e2, rfl, ho2, HBp2, hb2⟩; have A_p2 : wp2.cell? ⟨w.heap.size, 0, none⟩ = some (Value.slice ao n c) := cell_keep (S := 0) hb2 (by first | exact A_p1 | exact calloc A_p1); have B_p2 : wp2.cell? ⟨w.heap.size + 1, 0, none⟩ = some (Value.slice bo m d) := cell_keep (S := 0) hb2 (by first | exact B_p1 | exact calloc B_p1); have lp2 : w.heap.size + 1 < wp2.heap.size := World.block_lt_of_cell? _ _ B_p2; have R1' : Hid (Rd wp2 b1 xs) := Rd.later (by first | exact R1.out | exact R1.out.alloc _) hb2; have R2 : Hid (Rd wp2 b2 ys) := ho2.rd'.2; have zp2 : w16.heap.size ≤ wp2.heap.size := HBp2.out.size; obtain ⟨hc2, hf2⟩ := bcell hb2; have zq2 := hb2.size; (try simp at hc2); (try simp at hf2); (try simp at zq2); (try (have zz2 : w16.heap.size < wp2.heap.size := by omega)); (try (have zz12 : wp1.heap.size < wp2.heap.size := by omega)); clear hb2 ho2)
          | (go_at_call 16; refine (implHalf_d (w := w16) HX.out HY.out hn hm (by first | exact R1'.out | exact R1'.out.alloc _) (by first | exact R2.out | exact R2.out.alloc _) HF.out HP.out (by repeat (first | exact HBp2.out | refine Below.drew ?_ | refine Below.alloc ?_ (by first | omega | (simp; omega)) _))).mono ?_; rintro e wp3 ⟨a8, d8, rfl, ho3, HBp3, hb3⟩; have A_p3 : wp3.cell? ⟨w.heap.size, 0, none⟩ = some (Value.slice ao n c) := cell_keep (S := 0) hb3 (by first | exact A_p2 | exact calloc A_p2); have B_p3 : wp3.cell? ⟨w.heap.size + 1, 0, none⟩ = some (Value.slice bo m d) := cell_keep (S := 0) hb3 (by first | exact B_p2 | exact calloc B_p2); have lp3 : w.heap.size + 1 < wp3.heap.size := World.block_lt_of_cell? _ _ B_p3; have zp3 : w16.heap.size ≤ wp3.heap.size := HBp3.out.size; have OZ : Hid (Own wp3 _ (Value.slice a8 p d8) zs) := ho3; obtain ⟨hc3, hf3⟩ := bcell hb3; have zq3 := hb3.size; (try simp at hc3); (try simp at hf3); (try simp at zq3); (try (have zz3 : w16.heap.size < wp3.heap.size := by omega)); (try (have zz13 : wp1.heap.size < wp3.heap.size := by omega)); (try (have zz23 : wp2.heap.size < wp3.heap.size := by omega)); clear hb3 ho3))
        all_goals go_wp2_with fail
        all_goals go_meet
        all_goals go_light
        all_goals first
          | (refine ⟨wp3.heap.size, a8, d8, rfl, rfl, cnew _ _ _, (OZ.out.later (balloc _ _)).mono ?_, HBp3.out.alloc ?_ _⟩ <;> first | omega | (simp; omega))
          | (refine ⟨wp2.heap.size, a8, d8, rfl, rfl, rsame (u := Value.slice none 0 0) ?_, own_set_mono OZ.out ?_ ?_, HBp3.out.setCell ?_ _⟩ <;> first | omega | (simp; omega) | (simp [*]; done))
          | (refine ⟨wp1.heap.size, a8, d8, rfl, rfl, rsame (u := Value.slice none 0 0) ?_, own_set_mono OZ.out ?_ ?_, HBp3.out.setCell ?_ _⟩ <;> first | omega | (simp; omega) | (simp [*]; done))
          | (refine ⟨w16.heap.size, a8, d8, rfl, rfl, rsame (u := Value.slice none 0 0) ?_, own_set_mono OZ.out ?_ ?_, HBp3.out.setCell ?_ _⟩ <;> first | omega | (simp; omega) | (simp [*]; done))
      case rest =>
        obtain ⟨g8, a8, d8, rfl, rfl, c0, ho, hb⟩ := hcut
        obtain ⟨w17, rfl⟩ : ∃ w17 : World, w17 = wc := ⟨_, rfl⟩
        have hbk : Below w16.heap.size w16 w17 := hb.out
        have HB17 : Hid (Below w.heap.size w w17) := HB16.out.trans (hbk.mono HB16.out.size)
        have z17 : w16.heap.size ≤ w17.heap.size := hbk.size
        have A_17 : w17.cell? ⟨w.heap.size, 0, none⟩ = some (Value.slice ao n c) := cell_keep (S := 0) hbk A_16
        have B_17 : w17.cell? ⟨w.heap.size + 1, 0, none⟩ = some (Value.slice bo m d) := cell_keep (S := 0) hbk B_16
        have bw_17 : w17.cell? ⟨g1, 0, none⟩ = some (Value.slice a1 p d1) := cell_keep (S := 0) hbk bw_16
        have bx_17 : w17.cell? ⟨w4.heap.size, 0, none⟩ = some (Value.slice a3 n d3) := cell_keep (S := 0) hbk bx_16
        have bz_17 : w17.cell? ⟨w5.heap.size, 0, none⟩ = some (Value.slice a4 m d4) := cell_keep (S := 0) hbk bz_16
        have bg_17 : w17.cell? ⟨w6.heap.size, 0, none⟩ = some (Value.slice a5 p d5) := cell_keep (S := 0) hbk bg_16
        have Z_17 : Hid (Own w17 w2.heap.size (Value.slice a1 p d1) (zs)) := Z_16.out.later hbk
        have G_17 : Hid (Own w17 (w5.heap.size + 1) (Value.slice a5 p d5) (marks 1 p)) := G_16.out.later hbk
        have bh_17 : w17.cell? ⟨g8, 0, none⟩ = some (Value.slice a8 p d8) := c0
        have lo_bh : g8 < w17.heap.size := World.block_lt_of_cell? _ _ bh_17
        have H_17 : Hid (Own w17 w16.heap.size (Value.slice a8 p d8) zs) := ho
        have I_H : Hid (∀ k, (Value.slice a8 p d8).ownBlock = some k → w16.heap.size ≤ k ∧ k < w17.heap.size) := World.ownsRow.lt H_17.out
        have lA_17 : w.heap.size < w17.heap.size := World.block_lt_of_cell? _ _ A_17
        have lB_17 : w.heap.size + 1 < w17.heap.size := World.block_lt_of_cell? _ _ B_17
        have lbw_17 : g1 < w17.heap.size := World.block_lt_of_cell? _ _ bw_17
        have lbx_17 : w4.heap.size < w17.heap.size := World.block_lt_of_cell? _ _ bx_17
        have lbz_17 : w5.heap.size < w17.heap.size := World.block_lt_of_cell? _ _ bz_17
        have lbg_17 : w6.heap.size < w17.heap.size := World.block_lt_of_cell? _ _ bg_17
        have lbh_17 : g8 < w17.heap.size := World.block_lt_of_cell? _ _ bh_17
        clear A_16 B_16 bw_16 bx_16 bz_16 bg_16 Z_16 G_16 lA_16 lB_16 lbw_16 lbx_16 lbz_16 lbg_16
        clear hb hbk ho c0
        go_wp2_with fail
        have hba : Below w17.heap.size w17 w17 := Below.refl _ _
        refine (eqBig_c a8 a1 p p d8 d1 zs zs _ HP.out HP.out (by omega) (by omega) H_17.out.rd'.2 Z_17.out.rd'.2).mono ?_
        rw [decide_eq_true rfl]
        rintro e w18 ⟨rfl, hb⟩
        have hbk : Below w17.heap.size w17 w18 := hba.trans (hb.mono (by first | exact Nat.le_refl _ | (simp; done) | (simp; omega)))
        have HB18 : Hid (Below w.heap.size w w18) := HB17.out.trans (hbk.mono HB17.out.size)
        have z18 : w17.heap.size ≤ w18.heap.size := hbk.size
        have A_18 : w18.cell? ⟨w.heap.size, 0, none⟩ = some (Value.slice ao n c) := cell_keep (S := 0) hbk A_17
        have B_18 : w18.cell? ⟨w.heap.size + 1, 0, none⟩ = some (Value.slice bo m d) := cell_keep (S := 0) hbk B_17
        have bw_18 : w18.cell? ⟨g1, 0, none⟩ = some (Value.slice a1 p d1) := cell_keep (S := 0) hbk bw_17
        have bx_18 : w18.cell? ⟨w4.heap.size, 0, none⟩ = some (Value.slice a3 n d3) := cell_keep (S := 0) hbk bx_17
        have bz_18 : w18.cell? ⟨w5.heap.size, 0, none⟩ = some (Value.slice a4 m d4) := cell_keep (S := 0) hbk bz_17
        have bg_18 : w18.cell? ⟨w6.heap.size, 0, none⟩ = some (Value.slice a5 p d5) := cell_keep (S := 0) hbk bg_17
        have bh_18 : w18.cell? ⟨g8, 0, none⟩ = some (Value.slice a8 p d8) := cell_keep (S := 0) hbk bh_17
        have Z_18 : Hid (Own w18 w2.heap.size (Value.slice a1 p d1) (zs)) := Z_17.out.later hbk
        have G_18 : Hid (Own w18 (w5.heap.size + 1) (Value.slice a5 p d5) (marks 1 p)) := G_17.out.later hbk
        have H_18 : Hid (Own w18 w16.heap.size (Value.slice a8 p d8) (zs)) := H_17.out.later hbk
        have lA_18 : w.heap.size < w18.heap.size := World.block_lt_of_cell? _ _ A_18
        have lB_18 : w.heap.size + 1 < w18.heap.size := World.block_lt_of_cell? _ _ B_18
        have lbw_18 : g1 < w18.heap.size := World.block_lt_of_cell? _ _ bw_18
        have lbx_18 : w4.heap.size < w18.heap.size := World.block_lt_of_cell? _ _ bx_18
        have lbz_18 : w5.heap.size < w18.heap.size := World.block_lt_of_cell? _ _ bz_18
        have lbg_18 : w6.heap.size < w18.heap.size := World.block_lt_of_cell? _ _ bg_18
        have lbh_18 : g8 < w18.heap.size := World.block_lt_of_cell? _ _ bh_18
        clear hba
        clear hb hbk
        clear A_17 B_17 bw_17 bx_17 bz_17 bg_17 bh_17 Z_17 G_17 H_17 lA_17 lB_17 lbw_17 lbx_17 lbz_17 lbg_17 lbh_17
        go_wp2_with fail
        have hba : Below w18.heap.size w18 w18 := Below.refl _ _
        refine (heldBig_c a5 p d5 1 (w5.heap.size + 1) _ (by omega) (by omega) (by omega) G_18.out).mono ?_
        rintro e w19 ⟨rfl, hb⟩
        have hbk : Below w18.heap.size w18 w19 := hba.trans (hb.mono (by first | exact Nat.le_refl _ | (simp; done) | (simp; omega)))
        have HB19 : Hid (Below w.heap.size w w19) := HB18.out.trans (hbk.mono HB18.out.size)
        have z19 : w18.heap.size ≤ w19.heap.size := hbk.size
        have A_19 : w19.cell? ⟨w.heap.size, 0, none⟩ = some (Value.slice ao n c) := cell_keep (S := 0) hbk A_18
        have B_19 : w19.cell? ⟨w.heap.size + 1, 0, none⟩ = some (Value.slice bo m d) := cell_keep (S := 0) hbk B_18
        have bw_19 : w19.cell? ⟨g1, 0, none⟩ = some (Value.slice a1 p d1) := cell_keep (S := 0) hbk bw_18
        have bx_19 : w19.cell? ⟨w4.heap.size, 0, none⟩ = some (Value.slice a3 n d3) := cell_keep (S := 0) hbk bx_18
        have bz_19 : w19.cell? ⟨w5.heap.size, 0, none⟩ = some (Value.slice a4 m d4) := cell_keep (S := 0) hbk bz_18
        have bg_19 : w19.cell? ⟨w6.heap.size, 0, none⟩ = some (Value.slice a5 p d5) := cell_keep (S := 0) hbk bg_18
        have bh_19 : w19.cell? ⟨g8, 0, none⟩ = some (Value.slice a8 p d8) := cell_keep (S := 0) hbk bh_18
        have Z_19 : Hid (Own w19 w2.heap.size (Value.slice a1 p d1) (zs)) := Z_18.out.later hbk
        have G_19 : Hid (Own w19 (w5.heap.size + 1) (Value.slice a5 p d5) (marks 1 p)) := G_18.out.later hbk
        have H_19 : Hid (Own w19 w16.heap.size (Value.slice a8 p d8) (zs)) := H_18.out.later hbk
        have lA_19 : w.heap.size < w19.heap.size := World.block_lt_of_cell? _ _ A_19
        have lB_19 : w.heap.size + 1 < w19.heap.size := World.block_lt_of_cell? _ _ B_19
        have lbw_19 : g1 < w19.heap.size := World.block_lt_of_cell? _ _ bw_19
        have lbx_19 : w4.heap.size < w19.heap.size := World.block_lt_of_cell? _ _ bx_19
        have lbz_19 : w5.heap.size < w19.heap.size := World.block_lt_of_cell? _ _ bz_19
        have lbg_19 : w6.heap.size < w19.heap.size := World.block_lt_of_cell? _ _ bg_19
        have lbh_19 : g8 < w19.heap.size := World.block_lt_of_cell? _ _ bh_19
        clear hba
        clear hb hbk
        clear A_18 B_18 bw_18 bx_18 bz_18 bg_18 bh_18 Z_18 G_18 H_18 lA_18 lB_18 lbw_18 lbx_18 lbz_18 lbg_18 lbh_18
        go_wp2
        go_ret
        exact ⟨rfl, HB19.out⟩

end Go.Proofs.Ytjahgpmncamilaa
