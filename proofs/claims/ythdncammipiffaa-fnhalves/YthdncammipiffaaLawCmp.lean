/- The law on CompareBig, walked: it answers true at every argument and turns nothing that was there. -/
import Derived.Test.YthdncammipiffaaSpecCmp
import Derived.Deep.RegionHeld3
import Derived.Deep.DrawnRows
namespace Go.Proofs.Ythdncammipiffaa
set_option linter.unusedVariables false
set_option linter.unusedSimpArgs false
open Go.RowKit
attribute [local go_sem ↓] Go.wp_at_zero Go.wp_at_succ

/-- Two rows of the call's own that were made at different times lie in different blocks. -/
theorem own_sep {v u : Value} {l1 h1 l2 h2 : Nat} (I : ∀ k, v.ownBlock = some k → l1 ≤ k ∧ k < h1) (J : ∀ k, u.ownBlock = some k → l2 ≤ k ∧ k < h2) (h : h1 ≤ l2 ∨ h2 ≤ l1) : v.ownBlock = none ∨ v.ownBlock ≠ u.ownBlock := by
  cases hv : v.ownBlock with
  | none => exact Or.inl rfl
  | some k =>
    right
    intro e
    have := I k hv
    have := J k e.symm
    omega

theorem lawTwo_long1 (ao bo : Option Addr) (n m c d : Nat) (w : World) (hm0 : n ≤ 9223372036854775807) (hs : 1048576 < n) :
    Calls Try.prog 8 #[.agg #[.slice ao n c], .agg #[.slice bo m d]] w fun e w' => e = .returned (.bool true) ∧ Below w.heap.size w w' := by
  have HB0 : Hid (Below w.heap.size w ((w.alloc (Obj.cells #[Value.slice ao n c] 37)).alloc (Obj.cells #[Value.slice bo m d] 37))) := below_two w _ _
  go_enter Try.func8, Try.ntmps8
  go_wp2_with fail
  refine (szBig_c ao n c 1048576 _ (by omega) (by omega) (by omega)).mono ?_
  rw [if_pos (by omega)]
  rintro e w1 ⟨rfl, hb⟩
  have HB1 : Hid (Below w.heap.size w w1) := HB0.out.trans (hb.mono (by simp; omega))
  clear hb
  go_wp2
  go_ret
  exact ⟨rfl, HB1.out⟩

theorem lawTwo_long2 (ao bo : Option Addr) (n m c d : Nat) (w : World) (hm1 : m ≤ 9223372036854775807) (h1 : n ≤ 1048576) (hs : (1048576 : Int) - n < m) :
    Calls Try.prog 8 #[.agg #[.slice ao n c], .agg #[.slice bo m d]] w fun e w' => e = .returned (.bool true) ∧ Below w.heap.size w w' := by
  have HB0 : Hid (Below w.heap.size w ((w.alloc (Obj.cells #[Value.slice ao n c] 37)).alloc (Obj.cells #[Value.slice bo m d] 37))) := below_two w _ _
  go_enter Try.func8, Try.ntmps8
  go_wp2_with fail
  refine (szBig_c ao n c 1048576 _ (by omega) (by omega) (by omega)).mono ?_
  rw [if_neg (by omega)]
  rintro e w1 ⟨rfl, hb⟩
  have HB1 : Hid (Below w.heap.size w w1) := HB0.out.trans (hb.mono (by simp; omega))
  have B_1 : w1.cell? ⟨w.heap.size + 1, 0, none⟩ = some (.slice bo m d) := cell_keep (S := 0) hb (by simp)
  clear hb
  go_wp2_with fail
  refine (szBig_c bo m d (1048576 - n) _ (by omega) (by omega) (by omega)).mono ?_
  rw [if_pos (by omega)]
  rintro e w2 ⟨rfl, hb⟩
  have HB2 : Hid (Below w.heap.size w w2) := HB1.out.trans (hb.mono HB1.out.size)
  clear hb
  go_wp2
  go_ret
  exact ⟨rfl, HB2.out⟩

set_option maxHeartbeats 4000000 in
theorem lawCompare_c (ao bo : Option Addr) (n m c d : Nat) (xs ys : List Int) (w : World) (hx : xs.length = n) (hy : ys.length = m) (hm0 : n ≤ 9223372036854775807) (hm1 : m ≤ 9223372036854775807) (hr : Rd w ao xs) (hs : Rd w bo ys) :
    Calls Try.prog 8 #[.agg #[.slice ao n c], .agg #[.slice bo m d]] w fun e w' => e = .returned (.bool true) ∧ Below w.heap.size w w' := by
  by_cases h1 : 1048576 < n
  · exact lawTwo_long1 ao bo n m c d w hm0 h1
  by_cases h2 : (1048576 : Int) - n < m
  · exact lawTwo_long2 ao bo n m c d w hm1 (by omega) h2
  · have HX : Hid (xs.length = n) := hx
    have HY : Hid (ys.length = m) := hy
    have HR : Hid (Rd w ao xs) := hr
    have HS : Hid (Rd w bo ys) := hs
    have HB0 : Hid (Below w.heap.size w ((w.alloc (Obj.cells #[Value.slice ao n c] 37)).alloc (Obj.cells #[Value.slice bo m d] 37))) := below_two w _ _
    obtain ⟨fi, fb, hF⟩ : ∃ fi fb, cmpF xs ys = (fi, fb) := ⟨_, _, rfl⟩
    have HF : Hid (cmpF xs ys = (fi, fb)) := hF
    have hfi : (fi != fi) = false := by simp
    have hfb : (fb != fb) = false := by simp
    clear hx hy hr hs hF
    have hn : n ≤ 17592186044416 := by omega
    have hm : m ≤ 17592186044416 := by omega
    go_enter Try.func8, Try.ntmps8
    go_wp2_with fail
    refine (szBig_c ao n c 1048576 _ (by omega) (by omega) (by omega)).mono ?_
    rw [if_neg (by omega)]
    rintro e w1 ⟨rfl, hb⟩
    have HB1 : Hid (Below w.heap.size w w1) := HB0.out.trans (hb.mono (by simp; omega))
    have A_1 : w1.cell? ⟨w.heap.size, 0, none⟩ = some (Value.slice ao n c) := cell_keep (S := 0) hb (by simp)
    have B_1 : w1.cell? ⟨w.heap.size + 1, 0, none⟩ = some (Value.slice bo m d) := cell_keep (S := 0) hb (by simp)
    have z1 : w.heap.size + 2 ≤ w1.heap.size := by have := hb.size; simp at this; omega
    clear hb
    go_wp2_with fail
    have hba : Below w1.heap.size w1 w1 := Below.refl _ _
    refine (szBig_c bo m d (1048576 - n) _ (by omega) (by omega) (by omega)).mono ?_
    rw [if_neg (by omega)]
    rintro e w2 ⟨rfl, hb⟩
    have hbk : Below w1.heap.size w1 w2 := hba.trans (hb.mono (by first | exact Nat.le_refl _ | (simp; done) | (simp; omega)))
    have HB2 : Hid (Below w.heap.size w w2) := HB1.out.trans (hbk.mono HB1.out.size)
    have z2 : w1.heap.size ≤ w2.heap.size := hbk.size
    have A_2 : w2.cell? ⟨w.heap.size, 0, none⟩ = some (Value.slice ao n c) := cell_keep (S := 0) hbk A_1
    have B_2 : w2.cell? ⟨w.heap.size + 1, 0, none⟩ = some (Value.slice bo m d) := cell_keep (S := 0) hbk B_1
    have lA_2 : w.heap.size < w2.heap.size := World.block_lt_of_cell? _ _ A_2
    have lB_2 : w.heap.size + 1 < w2.heap.size := World.block_lt_of_cell? _ _ B_2
    clear hba
    clear hb hbk
    clear A_1 B_1
    go_wp2_with fail
    have tok2_1 : True := trivial
    go_region_held3 (fun w' => w'.cell? ⟨w.heap.size, 0, none⟩ = some (Value.slice ao n c) ∧ w'.cell? ⟨w.heap.size + 1, 0, none⟩ = some (Value.slice bo m d)) (first | go_keep) (first
      | (go_at_call 34; have _t := tok2_1; have hba : Below w2.heap.size w2 w2.drew := (Below.refl _ _).drew; refine (toBig_c ao n c xs _ HX.out hn (HR.out.later (HB2.out.trans (hba.mono HB2.out.size)))).mono ?_; rintro e w3 ⟨a1, d1, rfl, ho, hb⟩; clear tok2_1 _t; have hbk : Below w2.heap.size w2 w3 := hba.trans (hb.mono (by first | exact Nat.le_refl _ | (simp; done) | (simp; omega))); have HB3 : Hid (Below w.heap.size w w3) := HB2.out.trans (hbk.mono HB2.out.size); have z3 : w2.heap.size ≤ w3.heap.size := hbk.size; have A_3 : w3.cell? ⟨w.heap.size, 0, none⟩ = some (Value.slice ao n c) := cell_keep (S := 0) hbk A_2; have B_3 : w3.cell? ⟨w.heap.size + 1, 0, none⟩ = some (Value.slice bo m d) := cell_keep (S := 0) hbk B_2; have P_3 : Hid (Own w3 w2.heap.size (Value.slice a1 n d1) (xs)) := ho.mono (by first | exact Nat.le_refl _ | (simp; done) | (simp; omega)); have I_P : Hid (∀ k, (Value.slice a1 n d1).ownBlock = some k → w2.heap.size ≤ k ∧ k < w3.heap.size) := World.ownsRow.lt P_3.out; have lA_3 : w.heap.size < w3.heap.size := World.block_lt_of_cell? _ _ A_3; have lB_3 : w.heap.size + 1 < w3.heap.size := World.block_lt_of_cell? _ _ B_3; clear hba; clear hb hbk; clear ho; clear A_2 B_2 lA_2 lB_2)
      | (go_at_call 34; have hba : Below w3.heap.size w3 w3 := Below.refl _ _; refine (toBig_c bo m d ys _ HY.out hm (HS.out.later HB3.out)).mono ?_; rintro e w4 ⟨a2, d2, rfl, ho, hb⟩; have hbk : Below w3.heap.size w3 w4 := hba.trans (hb.mono (by first | exact Nat.le_refl _ | (simp; done) | (simp; omega))); have HB4 : Hid (Below w.heap.size w w4) := HB3.out.trans (hbk.mono HB3.out.size); have z4 : w3.heap.size ≤ w4.heap.size := hbk.size; have A_4 : w4.cell? ⟨w.heap.size, 0, none⟩ = some (Value.slice ao n c) := cell_keep (S := 0) hbk A_3; have B_4 : w4.cell? ⟨w.heap.size + 1, 0, none⟩ = some (Value.slice bo m d) := cell_keep (S := 0) hbk B_3; have P_4 : Hid (Own w4 w2.heap.size (Value.slice a1 n d1) (xs)) := P_3.out.later hbk; have Q_4 : Hid (Own w4 w3.heap.size (Value.slice a2 m d2) (ys)) := ho.mono (by first | exact Nat.le_refl _ | (simp; done) | (simp; omega)); have I_Q : Hid (∀ k, (Value.slice a2 m d2).ownBlock = some k → w3.heap.size ≤ k ∧ k < w4.heap.size) := World.ownsRow.lt Q_4.out; have lA_4 : w.heap.size < w4.heap.size := World.block_lt_of_cell? _ _ A_4; have lB_4 : w.heap.size + 1 < w4.heap.size := World.block_lt_of_cell? _ _ B_4; clear hba; clear hb hbk; clear ho; clear A_3 B_3 P_3 lA_3 lB_3)
      | (go_at_call 31; have hba : Below w4.heap.size w4 w4 := Below.refl _ _; refine (specCompare_c a1 a2 n m d1 d2 xs ys _ HX.out HY.out hn hm P_4.out.rd'.2 Q_4.out.rd'.2).mono ?_; rw [HF.out]; rintro e w5 ⟨rfl, hb⟩; have hbk : Below w4.heap.size w4 w5 := hba.trans (hb.mono (by first | exact Nat.le_refl _ | (simp; done) | (simp; omega))); have HB5 : Hid (Below w.heap.size w w5) := HB4.out.trans (hbk.mono HB4.out.size); have z5 : w4.heap.size ≤ w5.heap.size := hbk.size; have A_5 : w5.cell? ⟨w.heap.size, 0, none⟩ = some (Value.slice ao n c) := cell_keep (S := 0) hbk A_4; have B_5 : w5.cell? ⟨w.heap.size + 1, 0, none⟩ = some (Value.slice bo m d) := cell_keep (S := 0) hbk B_4; have P_5 : Hid (Own w5 w2.heap.size (Value.slice a1 n d1) (xs)) := P_4.out.later hbk; have Q_5 : Hid (Own w5 w3.heap.size (Value.slice a2 m d2) (ys)) := Q_4.out.later hbk; have lA_5 : w.heap.size < w5.heap.size := World.block_lt_of_cell? _ _ A_5; have lB_5 : w.heap.size + 1 < w5.heap.size := World.block_lt_of_cell? _ _ B_5; clear hba; clear hb hbk; clear A_4 B_4 P_4 Q_4 lA_4 lB_4))
    all_goals clear P_5 Q_5
    go_wp2_with fail
    have hba : Below w5.heap.size w5 w5 := Below.refl _ _
    refine (toBig_c ao n c xs _ HX.out hn (HR.out.later HB5.out)).mono ?_
    rintro e w6 ⟨a3, d3, rfl, ho, hb⟩
    have hbk : Below w5.heap.size w5 w6 := hba.trans (hb.mono (by first | exact Nat.le_refl _ | (simp; done) | (simp; omega)))
    have HB6 : Hid (Below w.heap.size w w6) := HB5.out.trans (hbk.mono HB5.out.size)
    have z6 : w5.heap.size ≤ w6.heap.size := hbk.size
    have A_6 : w6.cell? ⟨w.heap.size, 0, none⟩ = some (Value.slice ao n c) := cell_keep (S := 0) hbk A_5
    have B_6 : w6.cell? ⟨w.heap.size + 1, 0, none⟩ = some (Value.slice bo m d) := cell_keep (S := 0) hbk B_5
    have X_6 : Hid (Own w6 w5.heap.size (Value.slice a3 n d3) (xs)) := ho.mono (by first | exact Nat.le_refl _ | (simp; done) | (simp; omega))
    have I_X : Hid (∀ k, (Value.slice a3 n d3).ownBlock = some k → w5.heap.size ≤ k ∧ k < w6.heap.size) := World.ownsRow.lt X_6.out
    have lA_6 : w.heap.size < w6.heap.size := World.block_lt_of_cell? _ _ A_6
    have lB_6 : w.heap.size + 1 < w6.heap.size := World.block_lt_of_cell? _ _ B_6
    clear hba
    clear hb hbk
    clear ho
    clear A_5 B_5 lA_5 lB_5
    go_wp2_with fail
    have hba : Below w6.heap.size w6 (w6.alloc (Obj.cells #[Value.slice a3 n d3] 25)) := (Below.refl _ _).alloc (Nat.le_refl _) _
    refine (toBig_c bo m d ys _ HY.out hm (HS.out.later (HB6.out.trans (hba.mono HB6.out.size)))).mono ?_
    rintro e w7 ⟨a4, d4, rfl, ho, hb⟩
    have hbk : Below w6.heap.size w6 w7 := hba.trans (hb.mono (by first | exact Nat.le_refl _ | (simp; done) | (simp; omega)))
    have HB7 : Hid (Below w.heap.size w w7) := HB6.out.trans (hbk.mono HB6.out.size)
    have z7 : w6.heap.size ≤ w7.heap.size := hbk.size
    have A_7 : w7.cell? ⟨w.heap.size, 0, none⟩ = some (Value.slice ao n c) := cell_keep (S := 0) hbk A_6
    have B_7 : w7.cell? ⟨w.heap.size + 1, 0, none⟩ = some (Value.slice bo m d) := cell_keep (S := 0) hbk B_6
    have bx_7 : w7.cell? ⟨w6.heap.size, 0, none⟩ = some (Value.slice a3 n d3) := cell_keep (S := 0) hb (by simp)
    have zl7 : w6.heap.size < w7.heap.size := by have := hb.size; simp at this; omega
    have X_7 : Hid (Own w7 w5.heap.size (Value.slice a3 n d3) (xs)) := X_6.out.later hbk
    have Y_7 : Hid (Own w7 w6.heap.size (Value.slice a4 m d4) (ys)) := ho.mono (by first | exact Nat.le_refl _ | (simp; done) | (simp; omega))
    have I_Y : Hid (∀ k, (Value.slice a4 m d4).ownBlock = some k → w6.heap.size ≤ k ∧ k < w7.heap.size) := World.ownsRow.lt Y_7.out
    have lA_7 : w.heap.size < w7.heap.size := World.block_lt_of_cell? _ _ A_7
    have lB_7 : w.heap.size + 1 < w7.heap.size := World.block_lt_of_cell? _ _ B_7
    have lbx_7 : w6.heap.size < w7.heap.size := World.block_lt_of_cell? _ _ bx_7
    clear hba
    clear hb hbk
    clear ho
    clear A_6 B_6 X_6 lA_6 lB_6
    go_wp2_with fail
    have hba : Below w7.heap.size w7 (w7.alloc (Obj.cells #[Value.slice a4 m d4] 25)) := (Below.refl _ _).alloc (Nat.le_refl _) _
    refine (implCompare_c a3 a4 n m d3 d4 xs ys _ HX.out HY.out hn hm (X_7.out.rd'.2.later hba) (Y_7.out.rd'.2.later hba)).mono ?_
    rw [HF.out]
    rintro e w8 ⟨rfl, hb⟩
    have hbk : Below w7.heap.size w7 w8 := hba.trans (hb.mono (by first | exact Nat.le_refl _ | (simp; done) | (simp; omega)))
    have HB8 : Hid (Below w.heap.size w w8) := HB7.out.trans (hbk.mono HB7.out.size)
    have z8 : w7.heap.size ≤ w8.heap.size := hbk.size
    have A_8 : w8.cell? ⟨w.heap.size, 0, none⟩ = some (Value.slice ao n c) := cell_keep (S := 0) hbk A_7
    have B_8 : w8.cell? ⟨w.heap.size + 1, 0, none⟩ = some (Value.slice bo m d) := cell_keep (S := 0) hbk B_7
    have bx_8 : w8.cell? ⟨w6.heap.size, 0, none⟩ = some (Value.slice a3 n d3) := cell_keep (S := 0) hbk bx_7
    have byy_8 : w8.cell? ⟨w7.heap.size, 0, none⟩ = some (Value.slice a4 m d4) := cell_keep (S := 0) hb (by simp)
    have zl8 : w7.heap.size < w8.heap.size := by have := hb.size; simp at this; omega
    have X_8 : Hid (Own w8 w5.heap.size (Value.slice a3 n d3) (xs)) := X_7.out.later hbk
    have Y_8 : Hid (Own w8 w6.heap.size (Value.slice a4 m d4) (ys)) := Y_7.out.later hbk
    have lA_8 : w.heap.size < w8.heap.size := World.block_lt_of_cell? _ _ A_8
    have lB_8 : w.heap.size + 1 < w8.heap.size := World.block_lt_of_cell? _ _ B_8
    have lbx_8 : w6.heap.size < w8.heap.size := World.block_lt_of_cell? _ _ bx_8
    have lbyy_8 : w7.heap.size < w8.heap.size := World.block_lt_of_cell? _ _ byy_8
    clear hba
    clear hb hbk
    clear A_7 B_7 bx_7 X_7 Y_7 lA_7 lB_7 lbx_7
    go_wp2_with fail
    go_region_held3 (fun w' => w'.cell? ⟨w.heap.size, 0, none⟩ = some (Value.slice ao n c) ∧ w'.cell? ⟨w.heap.size + 1, 0, none⟩ = some (Value.slice bo m d) ∧ w'.cell? ⟨w6.heap.size, 0, none⟩ = some (Value.slice a3 n d3) ∧ w'.cell? ⟨w7.heap.size, 0, none⟩ = some (Value.slice a4 m d4)) (first | go_keep) (first
      | (go_at_call 34; have hba : Below w8.heap.size w8 w8.drew := (Below.refl _ _).drew; refine (toBig_c ao n c xs _ HX.out hn (HR.out.later (HB8.out.trans (hba.mono HB8.out.size)))).mono ?_; rintro e w9 ⟨a5, d5, rfl, ho, hb⟩; have hbk : Below w8.heap.size w8 w9 := hba.trans (hb.mono (by first | exact Nat.le_refl _ | (simp; done) | (simp; omega))); have HB9 : Hid (Below w.heap.size w w9) := HB8.out.trans (hbk.mono HB8.out.size); have z9 : w8.heap.size ≤ w9.heap.size := hbk.size; have A_9 : w9.cell? ⟨w.heap.size, 0, none⟩ = some (Value.slice ao n c) := cell_keep (S := 0) hbk A_8; have B_9 : w9.cell? ⟨w.heap.size + 1, 0, none⟩ = some (Value.slice bo m d) := cell_keep (S := 0) hbk B_8; have bx_9 : w9.cell? ⟨w6.heap.size, 0, none⟩ = some (Value.slice a3 n d3) := cell_keep (S := 0) hbk bx_8; have byy_9 : w9.cell? ⟨w7.heap.size, 0, none⟩ = some (Value.slice a4 m d4) := cell_keep (S := 0) hbk byy_8; have X_9 : Hid (Own w9 w5.heap.size (Value.slice a3 n d3) (xs)) := X_8.out.later hbk; have Y_9 : Hid (Own w9 w6.heap.size (Value.slice a4 m d4) (ys)) := Y_8.out.later hbk; have T5_9 : Hid (Own w9 w8.heap.size (Value.slice a5 n d5) (xs)) := ho.mono (by first | exact Nat.le_refl _ | (simp; done) | (simp; omega)); have I_T5 : Hid (∀ k, (Value.slice a5 n d5).ownBlock = some k → w8.heap.size ≤ k ∧ k < w9.heap.size) := World.ownsRow.lt T5_9.out; have lA_9 : w.heap.size < w9.heap.size := World.block_lt_of_cell? _ _ A_9; have lB_9 : w.heap.size + 1 < w9.heap.size := World.block_lt_of_cell? _ _ B_9; have lbx_9 : w6.heap.size < w9.heap.size := World.block_lt_of_cell? _ _ bx_9; have lbyy_9 : w7.heap.size < w9.heap.size := World.block_lt_of_cell? _ _ byy_9; clear hba; clear hb hbk; clear ho; clear A_8 B_8 bx_8 byy_8 X_8 Y_8 lA_8 lB_8 lbx_8 lbyy_8)
      | (go_at_call 36; have hba : Below w9.heap.size w9 w9 := Below.refl _ _; refine (eqBig_c a3 a5 n n d3 d5 xs xs _ HX.out HX.out hn hn X_9.out.rd'.2 T5_9.out.rd'.2).mono ?_; rw [decide_eq_true rfl]; rintro e w10 ⟨rfl, hb⟩; have hbk : Below w9.heap.size w9 w10 := hba.trans (hb.mono (by first | exact Nat.le_refl _ | (simp; done) | (simp; omega))); have HB10 : Hid (Below w.heap.size w w10) := HB9.out.trans (hbk.mono HB9.out.size); have z10 : w9.heap.size ≤ w10.heap.size := hbk.size; have A_10 : w10.cell? ⟨w.heap.size, 0, none⟩ = some (Value.slice ao n c) := cell_keep (S := 0) hbk A_9; have B_10 : w10.cell? ⟨w.heap.size + 1, 0, none⟩ = some (Value.slice bo m d) := cell_keep (S := 0) hbk B_9; have bx_10 : w10.cell? ⟨w6.heap.size, 0, none⟩ = some (Value.slice a3 n d3) := cell_keep (S := 0) hbk bx_9; have byy_10 : w10.cell? ⟨w7.heap.size, 0, none⟩ = some (Value.slice a4 m d4) := cell_keep (S := 0) hbk byy_9; have X_10 : Hid (Own w10 w5.heap.size (Value.slice a3 n d3) (xs)) := X_9.out.later hbk; have Y_10 : Hid (Own w10 w6.heap.size (Value.slice a4 m d4) (ys)) := Y_9.out.later hbk; have T5_10 : Hid (Own w10 w8.heap.size (Value.slice a5 n d5) (xs)) := T5_9.out.later hbk; have lA_10 : w.heap.size < w10.heap.size := World.block_lt_of_cell? _ _ A_10; have lB_10 : w.heap.size + 1 < w10.heap.size := World.block_lt_of_cell? _ _ B_10; have lbx_10 : w6.heap.size < w10.heap.size := World.block_lt_of_cell? _ _ bx_10; have lbyy_10 : w7.heap.size < w10.heap.size := World.block_lt_of_cell? _ _ byy_10; clear hba; clear hb hbk; clear A_9 B_9 bx_9 byy_9 X_9 Y_9 T5_9 lA_9 lB_9 lbx_9 lbyy_9))
    all_goals clear T5_10
    go_wp2_with fail
    go_region_held3 (fun w' => w'.cell? ⟨w.heap.size, 0, none⟩ = some (Value.slice ao n c) ∧ w'.cell? ⟨w.heap.size + 1, 0, none⟩ = some (Value.slice bo m d) ∧ w'.cell? ⟨w6.heap.size, 0, none⟩ = some (Value.slice a3 n d3) ∧ w'.cell? ⟨w7.heap.size, 0, none⟩ = some (Value.slice a4 m d4)) (first | go_keep) (first
      | (go_at_call 34; have hba : Below w10.heap.size w10 w10.drew := (Below.refl _ _).drew; refine (toBig_c bo m d ys _ HY.out hm (HS.out.later (HB10.out.trans (hba.mono HB10.out.size)))).mono ?_; rintro e w11 ⟨a6, d6, rfl, ho, hb⟩; have hbk : Below w10.heap.size w10 w11 := hba.trans (hb.mono (by first | exact Nat.le_refl _ | (simp; done) | (simp; omega))); have HB11 : Hid (Below w.heap.size w w11) := HB10.out.trans (hbk.mono HB10.out.size); have z11 : w10.heap.size ≤ w11.heap.size := hbk.size; have A_11 : w11.cell? ⟨w.heap.size, 0, none⟩ = some (Value.slice ao n c) := cell_keep (S := 0) hbk A_10; have B_11 : w11.cell? ⟨w.heap.size + 1, 0, none⟩ = some (Value.slice bo m d) := cell_keep (S := 0) hbk B_10; have bx_11 : w11.cell? ⟨w6.heap.size, 0, none⟩ = some (Value.slice a3 n d3) := cell_keep (S := 0) hbk bx_10; have byy_11 : w11.cell? ⟨w7.heap.size, 0, none⟩ = some (Value.slice a4 m d4) := cell_keep (S := 0) hbk byy_10; have X_11 : Hid (Own w11 w5.heap.size (Value.slice a3 n d3) (xs)) := X_10.out.later hbk; have Y_11 : Hid (Own w11 w6.heap.size (Value.slice a4 m d4) (ys)) := Y_10.out.later hbk; have T6_11 : Hid (Own w11 w10.heap.size (Value.slice a6 m d6) (ys)) := ho.mono (by first | exact Nat.le_refl _ | (simp; done) | (simp; omega)); have I_T6 : Hid (∀ k, (Value.slice a6 m d6).ownBlock = some k → w10.heap.size ≤ k ∧ k < w11.heap.size) := World.ownsRow.lt T6_11.out; have lA_11 : w.heap.size < w11.heap.size := World.block_lt_of_cell? _ _ A_11; have lB_11 : w.heap.size + 1 < w11.heap.size := World.block_lt_of_cell? _ _ B_11; have lbx_11 : w6.heap.size < w11.heap.size := World.block_lt_of_cell? _ _ bx_11; have lbyy_11 : w7.heap.size < w11.heap.size := World.block_lt_of_cell? _ _ byy_11; clear hba; clear hb hbk; clear ho; clear A_10 B_10 bx_10 byy_10 X_10 Y_10 lA_10 lB_10 lbx_10 lbyy_10)
      | (go_at_call 36; have hba : Below w11.heap.size w11 w11 := Below.refl _ _; refine (eqBig_c a4 a6 m m d4 d6 ys ys _ HY.out HY.out hm hm Y_11.out.rd'.2 T6_11.out.rd'.2).mono ?_; rw [decide_eq_true rfl]; rintro e w12 ⟨rfl, hb⟩; have hbk : Below w11.heap.size w11 w12 := hba.trans (hb.mono (by first | exact Nat.le_refl _ | (simp; done) | (simp; omega))); have HB12 : Hid (Below w.heap.size w w12) := HB11.out.trans (hbk.mono HB11.out.size); have z12 : w11.heap.size ≤ w12.heap.size := hbk.size; have A_12 : w12.cell? ⟨w.heap.size, 0, none⟩ = some (Value.slice ao n c) := cell_keep (S := 0) hbk A_11; have B_12 : w12.cell? ⟨w.heap.size + 1, 0, none⟩ = some (Value.slice bo m d) := cell_keep (S := 0) hbk B_11; have bx_12 : w12.cell? ⟨w6.heap.size, 0, none⟩ = some (Value.slice a3 n d3) := cell_keep (S := 0) hbk bx_11; have byy_12 : w12.cell? ⟨w7.heap.size, 0, none⟩ = some (Value.slice a4 m d4) := cell_keep (S := 0) hbk byy_11; have X_12 : Hid (Own w12 w5.heap.size (Value.slice a3 n d3) (xs)) := X_11.out.later hbk; have Y_12 : Hid (Own w12 w6.heap.size (Value.slice a4 m d4) (ys)) := Y_11.out.later hbk; have T6_12 : Hid (Own w12 w10.heap.size (Value.slice a6 m d6) (ys)) := T6_11.out.later hbk; have lA_12 : w.heap.size < w12.heap.size := World.block_lt_of_cell? _ _ A_12; have lB_12 : w.heap.size + 1 < w12.heap.size := World.block_lt_of_cell? _ _ B_12; have lbx_12 : w6.heap.size < w12.heap.size := World.block_lt_of_cell? _ _ bx_12; have lbyy_12 : w7.heap.size < w12.heap.size := World.block_lt_of_cell? _ _ byy_12; clear hba; clear hb hbk; clear A_11 B_11 bx_11 byy_11 X_11 Y_11 T6_11 lA_11 lB_11 lbx_11 lbyy_11))
    all_goals clear T6_12
    all_goals go_wp2
    all_goals go_ret
    all_goals exact ⟨rfl, HB12.out⟩

end Go.Proofs.Ythdncammipiffaa
