/- The law on ShiftBig, walked: it answers true at every argument and turns nothing that was there. -/
import Derived.Test.YtjahgpmncamilaaImplShift
import Derived.Test.YtjahgpmncamilaaRelAdd
import Derived.Deep.RegionHeld3
import Derived.Deep.DrawnRows
import Derived.Deep.DeepCutAuto
import Derived.Deep.Light
namespace Go.Proofs.Ytjahgpmncamilaa
set_option linter.unusedVariables false
set_option linter.unusedSimpArgs false
open Go.RowKit
attribute [local go_sem ↓] Go.wp_at_zero Go.wp_at_succ

theorem shiftF_short {xs zs : List Int} {b : Int} {fb : Bool} (h : shiftF xs b = (zs, fb)) : zs.length ≤ 6 := by
  unfold shiftF at h
  split at h
  · rename_i hg
    have hx : goodB xs = true := by simp at hg; exact hg.1
    have v0 := val_nonneg (goodB_digs hx).2.1
    refine tellF_short ?_ h
    unfold shV
    split
    · exact Int.mul_nonneg v0 (Int.le_of_lt (Int.pow_pos (by omega)))
    · exact Int.ediv_nonneg v0 (Int.le_of_lt (Int.pow_pos (by omega)))
  · simp only [Prod.mk.injEq] at h; rw [← h.1]; simp

theorem lawShift_long1 (ao : Option Addr) (n c : Nat) (b : Int) (w : World) (hm0 : n ≤ 9223372036854775807) (hs : 1048576 < n) :
    Calls Try.prog 11 #[.agg #[.slice ao n c], .int .i64 b] w fun e w' => e = .returned (.bool true) ∧ Below w.heap.size w w' := by
  have HB0 : Hid (Below w.heap.size w (w.alloc (Obj.cells #[Value.slice ao n c] 37))) := balloc _ _
  go_enter Try.func11, Try.ntmps11
  go_wp2_with fail
  refine (szBig_c ao n c 1048576 _ (by omega) (by omega) (by omega)).mono ?_
  rw [if_pos (by omega)]
  rintro e w1 ⟨rfl, hb⟩
  have HB1 : Hid (Below w.heap.size w w1) := HB0.out.trans (hb.mono (by simp))
  clear hb
  go_wp2
  go_ret
  exact ⟨rfl, HB1.out⟩

set_option maxHeartbeats 8000000 in
set_option maxRecDepth 1000000 in
theorem lawShift_c (ao : Option Addr) (n c : Nat) (b : Int) (xs : List Int) (w : World) (hx : xs.length = n) (hm0 : n ≤ 9223372036854775807) (hr : Rd w ao xs) (hw : -9223372036854775808 ≤ b ∧ b ≤ 9223372036854775807) :
    Calls Try.prog 11 #[.agg #[.slice ao n c], .int .i64 b] w fun e w' => e = .returned (.bool true) ∧ Below w.heap.size w w' := by
  by_cases h1 : 1048576 < n
  · exact lawShift_long1 ao n c b w hm0 h1
  have HX : Hid (xs.length = n) := hx
  have HR : Hid (Rd w ao xs) := hr
  have HB0 : Hid (Below w.heap.size w (w.alloc (Obj.cells #[Value.slice ao n c] 37))) := balloc _ _
  obtain ⟨zs, fb, hF⟩ : ∃ zs fb, shiftF xs b = (zs, fb) := ⟨_, _, rfl⟩
  have HF : Hid (shiftF xs b = (zs, fb)) := hF
  obtain ⟨p, hp⟩ : ∃ p, zs.length = p := ⟨_, rfl⟩
  have HP : Hid (zs.length = p) := hp
  have hp6 : p ≤ 6 := by rw [← hp]; exact shiftF_short hF
  have hfb : (fb != fb) = false := by simp
  have hn : n ≤ 17592186044416 := by omega
  clear hx hr hF hp
  go_enter Try.func11, Try.ntmps11
  go_wp2_with fail
  refine (szBig_c ao n c 1048576 _ (by omega) (by omega) (by omega)).mono ?_
  rw [if_neg (by omega)]
  rintro e w1 ⟨rfl, hb⟩
  have HB1 : Hid (Below w.heap.size w w1) := HB0.out.trans (hb.mono (by simp))
  have A_1 : w1.cell? ⟨w.heap.size, 0, none⟩ = some (Value.slice ao n c) := cell_keep (S := 0) hb (by simp)
  have z1 : w.heap.size + 1 ≤ w1.heap.size := by have := hb.size; simp at this; omega
  clear hb
  go_wp2_with fail
  have hba : Below w1.heap.size w1 w1 := Below.refl _ _
  refine (toBig_c ao n c xs _ HX.out hn (HR.out.later HB1.out)).mono ?_
  rintro e w2 ⟨a1, d1, rfl, ho, hb⟩
  have hbk : Below w1.heap.size w1 w2 := hba.trans (hb.mono (by first | exact Nat.le_refl _ | (simp; done) | (simp; omega)))
  have HB2 : Hid (Below w.heap.size w w2) := HB1.out.trans (hbk.mono HB1.out.size)
  have z2 : w1.heap.size ≤ w2.heap.size := hbk.size
  have A_2 : w2.cell? ⟨w.heap.size, 0, none⟩ = some (Value.slice ao n c) := cell_keep (S := 0) hbk A_1
  have T_2 : Hid (Own w2 w1.heap.size (Value.slice a1 n d1) (xs)) := ho.mono (by first | exact Nat.le_refl _ | (simp; done) | (simp; omega))
  have I_T : Hid (∀ k, (Value.slice a1 n d1).ownBlock = some k → w1.heap.size ≤ k ∧ k < w2.heap.size) := World.ownsRow.lt T_2.out
  have lA_2 : w.heap.size < w2.heap.size := World.block_lt_of_cell? _ _ A_2
  clear hba
  clear hb hbk
  clear ho
  clear A_1
  go_wp2_with fail
  have hba : Below w2.heap.size w2 w2 := Below.refl _ _
  refine (specShift_c a1 n d1 xs b _ HX.out hn T_2.out.rdS hw zs fb p HF.out HP.out).mono ?_
  rintro e w3 ⟨a2, d2, rfl, ho, hb⟩
  have hbk : Below w2.heap.size w2 w3 := hba.trans (hb.mono (by first | exact Nat.le_refl _ | (simp; done) | (simp; omega)))
  have HB3 : Hid (Below w.heap.size w w3) := HB2.out.trans (hbk.mono HB2.out.size)
  have z3 : w2.heap.size ≤ w3.heap.size := hbk.size
  have A_3 : w3.cell? ⟨w.heap.size, 0, none⟩ = some (Value.slice ao n c) := cell_keep (S := 0) hbk A_2
  have T_3 : Hid (Own w3 w1.heap.size (Value.slice a1 n d1) (xs)) := T_2.out.later hbk
  have Z_3 : Hid (Own w3 w2.heap.size (Value.slice a2 p d2) (zs)) := ho.mono (by first | exact Nat.le_refl _ | (simp; done) | (simp; omega))
  have I_Z : Hid (∀ k, (Value.slice a2 p d2).ownBlock = some k → w2.heap.size ≤ k ∧ k < w3.heap.size) := World.ownsRow.lt Z_3.out
  have lA_3 : w.heap.size < w3.heap.size := World.block_lt_of_cell? _ _ A_3
  clear hba
  clear hb hbk
  clear ho
  clear A_2 T_2 lA_2
  clear T_3 I_T
  go_wp2_with fail
  have hba : Below w3.heap.size w3 (w3.alloc (Obj.cells #[Value.slice a2 p d2] 25)) := (Below.refl _ _).alloc (Nat.le_refl _) _
  refine (toBig_c ao n c xs _ HX.out hn (HR.out.later (HB3.out.trans (hba.mono HB3.out.size)))).mono ?_
  rintro e w4 ⟨a3, d3, rfl, ho, hb⟩
  have hbk : Below w3.heap.size w3 w4 := hba.trans (hb.mono (by first | exact Nat.le_refl _ | (simp; done) | (simp; omega)))
  have HB4 : Hid (Below w.heap.size w w4) := HB3.out.trans (hbk.mono HB3.out.size)
  have z4 : w3.heap.size ≤ w4.heap.size := hbk.size
  have A_4 : w4.cell? ⟨w.heap.size, 0, none⟩ = some (Value.slice ao n c) := cell_keep (S := 0) hbk A_3
  have bw_4 : w4.cell? ⟨w3.heap.size, 0, none⟩ = some (Value.slice a2 p d2) := cell_keep (S := 0) hb (by simp)
  have zl4 : w3.heap.size < w4.heap.size := by have := hb.size; simp at this; omega
  have Z_4 : Hid (Own w4 w2.heap.size (Value.slice a2 p d2) (zs)) := Z_3.out.later hbk
  have X_4 : Hid (Own w4 (w3.heap.size + 1) (Value.slice a3 n d3) (xs)) := ho.mono (by first | exact Nat.le_refl _ | (simp; done) | (simp; omega))
  have I_X : Hid (∀ k, (Value.slice a3 n d3).ownBlock = some k → (w3.heap.size + 1) ≤ k ∧ k < w4.heap.size) := World.ownsRow.lt X_4.out
  have lA_4 : w.heap.size < w4.heap.size := World.block_lt_of_cell? _ _ A_4
  have lbw_4 : w3.heap.size < w4.heap.size := World.block_lt_of_cell? _ _ bw_4
  clear hba
  clear hb hbk
  clear ho
  clear A_3 Z_3 lA_3
  go_wp2_with fail
  have hba : Below w4.heap.size w4 (w4.alloc (Obj.cells #[Value.slice a3 n d3] 25)) := (Below.refl _ _).alloc (Nat.le_refl _) _
  refine (implShift_c a3 n d3 xs b _ HX.out hn (X_4.out.rd'.2.later hba) hw zs fb p HF.out HP.out).mono ?_
  rintro e w5 ⟨a5, d5, rfl, ho, hb⟩
  have hbk : Below w4.heap.size w4 w5 := hba.trans (hb.mono (by first | exact Nat.le_refl _ | (simp; done) | (simp; omega)))
  have HB5 : Hid (Below w.heap.size w w5) := HB4.out.trans (hbk.mono HB4.out.size)
  have z5 : w4.heap.size ≤ w5.heap.size := hbk.size
  have A_5 : w5.cell? ⟨w.heap.size, 0, none⟩ = some (Value.slice ao n c) := cell_keep (S := 0) hbk A_4
  have bw_5 : w5.cell? ⟨w3.heap.size, 0, none⟩ = some (Value.slice a2 p d2) := cell_keep (S := 0) hbk bw_4
  have bx_5 : w5.cell? ⟨w4.heap.size, 0, none⟩ = some (Value.slice a3 n d3) := cell_keep (S := 0) hb (by simp)
  have zl5 : w4.heap.size < w5.heap.size := by have := hb.size; simp at this; omega
  have Z_5 : Hid (Own w5 w2.heap.size (Value.slice a2 p d2) (zs)) := Z_4.out.later hbk
  have X_5 : Hid (Own w5 (w3.heap.size + 1) (Value.slice a3 n d3) (xs)) := X_4.out.later hbk
  have G_5 : Hid (Own w5 (w4.heap.size + 1) (Value.slice a5 p d5) (zs)) := ho.mono (by first | exact Nat.le_refl _ | (simp; done) | (simp; omega))
  have I_G : Hid (∀ k, (Value.slice a5 p d5).ownBlock = some k → (w4.heap.size + 1) ≤ k ∧ k < w5.heap.size) := World.ownsRow.lt G_5.out
  have lA_5 : w.heap.size < w5.heap.size := World.block_lt_of_cell? _ _ A_5
  have lbw_5 : w3.heap.size < w5.heap.size := World.block_lt_of_cell? _ _ bw_5
  have lbx_5 : w4.heap.size < w5.heap.size := World.block_lt_of_cell? _ _ bx_5
  clear hba
  clear hb hbk
  clear ho
  clear A_4 bw_4 Z_4 X_4 lA_4 lbw_4
  go_wp2_with fail
  have hba : Below w5.heap.size w5 (w5.alloc (Obj.cells #[Value.slice a5 p d5] 25)) := (Below.refl _ _).alloc (Nat.le_refl _) _
  refine (eqBig_c a5 a2 p p d5 d2 zs zs _ HP.out HP.out (by omega) (by omega) (G_5.out.rd'.2.later hba) (Z_5.out.rd'.2.later hba)).mono ?_
  rw [decide_eq_true rfl]
  rintro e w6 ⟨rfl, hb⟩
  have hbk : Below w5.heap.size w5 w6 := hba.trans (hb.mono (by first | exact Nat.le_refl _ | (simp; done) | (simp; omega)))
  have HB6 : Hid (Below w.heap.size w w6) := HB5.out.trans (hbk.mono HB5.out.size)
  have z6 : w5.heap.size ≤ w6.heap.size := hbk.size
  have A_6 : w6.cell? ⟨w.heap.size, 0, none⟩ = some (Value.slice ao n c) := cell_keep (S := 0) hbk A_5
  have bw_6 : w6.cell? ⟨w3.heap.size, 0, none⟩ = some (Value.slice a2 p d2) := cell_keep (S := 0) hbk bw_5
  have bx_6 : w6.cell? ⟨w4.heap.size, 0, none⟩ = some (Value.slice a3 n d3) := cell_keep (S := 0) hbk bx_5
  have bg_6 : w6.cell? ⟨w5.heap.size, 0, none⟩ = some (Value.slice a5 p d5) := cell_keep (S := 0) hb (by simp)
  have zl6 : w5.heap.size < w6.heap.size := by have := hb.size; simp at this; omega
  have Z_6 : Hid (Own w6 w2.heap.size (Value.slice a2 p d2) (zs)) := Z_5.out.later hbk
  have X_6 : Hid (Own w6 (w3.heap.size + 1) (Value.slice a3 n d3) (xs)) := X_5.out.later hbk
  have G_6 : Hid (Own w6 (w4.heap.size + 1) (Value.slice a5 p d5) (zs)) := G_5.out.later hbk
  have lA_6 : w.heap.size < w6.heap.size := World.block_lt_of_cell? _ _ A_6
  have lbw_6 : w3.heap.size < w6.heap.size := World.block_lt_of_cell? _ _ bw_6
  have lbx_6 : w4.heap.size < w6.heap.size := World.block_lt_of_cell? _ _ bx_6
  have lbg_6 : w5.heap.size < w6.heap.size := World.block_lt_of_cell? _ _ bg_6
  clear hba
  clear hb hbk
  clear A_5 bw_5 bx_5 Z_5 X_5 G_5 lA_5 lbw_5 lbx_5
  go_wp2_with fail
  go_region_held3 (fun w' => w'.cell? ⟨w.heap.size, 0, none⟩ = some (Value.slice ao n c) ∧ w'.cell? ⟨w3.heap.size, 0, none⟩ = some (Value.slice a2 p d2) ∧ w'.cell? ⟨w4.heap.size, 0, none⟩ = some (Value.slice a3 n d3) ∧ w'.cell? ⟨w5.heap.size, 0, none⟩ = some (Value.slice a5 p d5)) (first | go_keep) (first
    | (go_at_call 34; have hba : Below w6.heap.size w6 w6.drew := (Below.refl _ _).drew; refine (toBig_c ao n c xs _ HX.out hn (HR.out.later (HB6.out.trans (hba.mono HB6.out.size)))).mono ?_; rintro e w7 ⟨a6, d6, rfl, ho, hb⟩; have hbk : Below w6.heap.size w6 w7 := hba.trans (hb.mono (by first | exact Nat.le_refl _ | (simp; done) | (simp; omega))); have HB7 : Hid (Below w.heap.size w w7) := HB6.out.trans (hbk.mono HB6.out.size); have z7 : w6.heap.size ≤ w7.heap.size := hbk.size; have A_7 : w7.cell? ⟨w.heap.size, 0, none⟩ = some (Value.slice ao n c) := cell_keep (S := 0) hbk A_6; have bw_7 : w7.cell? ⟨w3.heap.size, 0, none⟩ = some (Value.slice a2 p d2) := cell_keep (S := 0) hbk bw_6; have bx_7 : w7.cell? ⟨w4.heap.size, 0, none⟩ = some (Value.slice a3 n d3) := cell_keep (S := 0) hbk bx_6; have bg_7 : w7.cell? ⟨w5.heap.size, 0, none⟩ = some (Value.slice a5 p d5) := cell_keep (S := 0) hbk bg_6; have Z_7 : Hid (Own w7 w2.heap.size (Value.slice a2 p d2) (zs)) := Z_6.out.later hbk; have X_7 : Hid (Own w7 (w3.heap.size + 1) (Value.slice a3 n d3) (xs)) := X_6.out.later hbk; have G_7 : Hid (Own w7 (w4.heap.size + 1) (Value.slice a5 p d5) (zs)) := G_6.out.later hbk; have T6_7 : Hid (Own w7 w6.heap.size (Value.slice a6 n d6) (xs)) := ho.mono (by first | exact Nat.le_refl _ | (simp; done) | (simp; omega)); have I_T6 : Hid (∀ k, (Value.slice a6 n d6).ownBlock = some k → w6.heap.size ≤ k ∧ k < w7.heap.size) := World.ownsRow.lt T6_7.out; have lA_7 : w.heap.size < w7.heap.size := World.block_lt_of_cell? _ _ A_7; have lbw_7 : w3.heap.size < w7.heap.size := World.block_lt_of_cell? _ _ bw_7; have lbx_7 : w4.heap.size < w7.heap.size := World.block_lt_of_cell? _ _ bx_7; have lbg_7 : w5.heap.size < w7.heap.size := World.block_lt_of_cell? _ _ bg_7; clear hba; clear hb hbk; clear ho; clear A_6 bw_6 bx_6 bg_6 Z_6 X_6 G_6 lA_6 lbw_6 lbx_6 lbg_6)
    | (go_at_call 36; have hba : Below w7.heap.size w7 w7 := Below.refl _ _; refine (eqBig_c a3 a6 n n d3 d6 xs xs _ HX.out HX.out hn hn X_7.out.rd'.2 T6_7.out.rd'.2).mono ?_; rw [decide_eq_true rfl]; rintro e w8 ⟨rfl, hb⟩; have hbk : Below w7.heap.size w7 w8 := hba.trans (hb.mono (by first | exact Nat.le_refl _ | (simp; done) | (simp; omega))); have HB8 : Hid (Below w.heap.size w w8) := HB7.out.trans (hbk.mono HB7.out.size); have z8 : w7.heap.size ≤ w8.heap.size := hbk.size; have A_8 : w8.cell? ⟨w.heap.size, 0, none⟩ = some (Value.slice ao n c) := cell_keep (S := 0) hbk A_7; have bw_8 : w8.cell? ⟨w3.heap.size, 0, none⟩ = some (Value.slice a2 p d2) := cell_keep (S := 0) hbk bw_7; have bx_8 : w8.cell? ⟨w4.heap.size, 0, none⟩ = some (Value.slice a3 n d3) := cell_keep (S := 0) hbk bx_7; have bg_8 : w8.cell? ⟨w5.heap.size, 0, none⟩ = some (Value.slice a5 p d5) := cell_keep (S := 0) hbk bg_7; have Z_8 : Hid (Own w8 w2.heap.size (Value.slice a2 p d2) (zs)) := Z_7.out.later hbk; have X_8 : Hid (Own w8 (w3.heap.size + 1) (Value.slice a3 n d3) (xs)) := X_7.out.later hbk; have G_8 : Hid (Own w8 (w4.heap.size + 1) (Value.slice a5 p d5) (zs)) := G_7.out.later hbk; have T6_8 : Hid (Own w8 w6.heap.size (Value.slice a6 n d6) (xs)) := T6_7.out.later hbk; have lA_8 : w.heap.size < w8.heap.size := World.block_lt_of_cell? _ _ A_8; have lbw_8 : w3.heap.size < w8.heap.size := World.block_lt_of_cell? _ _ bw_8; have lbx_8 : w4.heap.size < w8.heap.size := World.block_lt_of_cell? _ _ bx_8; have lbg_8 : w5.heap.size < w8.heap.size := World.block_lt_of_cell? _ _ bg_8; clear hba; clear hb hbk; clear A_7 bw_7 bx_7 bg_7 Z_7 X_7 G_7 T6_7 lA_7 lbw_7 lbx_7 lbg_7))
  clear T6_8 I_T6
  go_wp2_with fail
  have hba : Below w8.heap.size w8 w8 := Below.refl _ _
  refine (markBig_c a3 n d3 1 (w3.heap.size + 1) xs _ hn (by omega) (by omega) X_8.out).mono ?_
  rintro e w9 ⟨rfl, ho, hg⟩
  have hgr : w8.grownBy w9 (Value.slice a3 n d3).ownBlock := hg
  have HB9 : Hid (Below w.heap.size w w9) := HB8.out.grown hgr HB8.out.size (fun k e => by have := I_X.out k e; omega)
  have z9 : w8.heap.size ≤ w9.heap.size := hgr.size
  have A_9 : w9.cell? ⟨w.heap.size, 0, none⟩ = some (Value.slice ao n c) := hgr.cell A_8 (fun e => by have h := I_X.out _ e.symm; dsimp only at h; omega)
  have bw_9 : w9.cell? ⟨w3.heap.size, 0, none⟩ = some (Value.slice a2 p d2) := hgr.cell bw_8 (fun e => by have h := I_X.out _ e.symm; dsimp only at h; omega)
  have bx_9 : w9.cell? ⟨w4.heap.size, 0, none⟩ = some (Value.slice a3 n d3) := hgr.cell bx_8 (fun e => by have h := I_X.out _ e.symm; dsimp only at h; omega)
  have bg_9 : w9.cell? ⟨w5.heap.size, 0, none⟩ = some (Value.slice a5 p d5) := hgr.cell bg_8 (fun e => by have h := I_X.out _ e.symm; dsimp only at h; omega)
  have Z_9 : Hid (Own w9 w2.heap.size (Value.slice a2 p d2) (zs)) := Z_8.out.kept hgr (own_sep I_Z.out I_X.out (by omega))
  have G_9 : Hid (Own w9 (w4.heap.size + 1) (Value.slice a5 p d5) (zs)) := G_8.out.kept hgr (own_sep I_G.out I_X.out (by omega))
  have X_9 : Hid (Own w9 (w3.heap.size + 1) (Value.slice a3 n d3) (marks 1 n)) := ho
  have lA_9 : w.heap.size < w9.heap.size := World.block_lt_of_cell? _ _ A_9
  have lbw_9 : w3.heap.size < w9.heap.size := World.block_lt_of_cell? _ _ bw_9
  have lbx_9 : w4.heap.size < w9.heap.size := World.block_lt_of_cell? _ _ bx_9
  have lbg_9 : w5.heap.size < w9.heap.size := World.block_lt_of_cell? _ _ bg_9
  clear hba
  clear hg hgr ho
  clear A_8 bw_8 bx_8 bg_8 Z_8 X_8 G_8 lA_8 lbw_8 lbx_8 lbg_8
  clear X_9 I_X
  go_wp2_with fail
  have hba : Below w9.heap.size w9 w9 := Below.refl _ _
  refine (eqBig_c a5 a2 p p d5 d2 zs zs _ HP.out HP.out (by omega) (by omega) G_9.out.rd'.2 Z_9.out.rd'.2).mono ?_
  rw [decide_eq_true rfl]
  rintro e w10 ⟨rfl, hb⟩
  have hbk : Below w9.heap.size w9 w10 := hba.trans (hb.mono (by first | exact Nat.le_refl _ | (simp; done) | (simp; omega)))
  have HB10 : Hid (Below w.heap.size w w10) := HB9.out.trans (hbk.mono HB9.out.size)
  have z10 : w9.heap.size ≤ w10.heap.size := hbk.size
  have A_10 : w10.cell? ⟨w.heap.size, 0, none⟩ = some (Value.slice ao n c) := cell_keep (S := 0) hbk A_9
  have bw_10 : w10.cell? ⟨w3.heap.size, 0, none⟩ = some (Value.slice a2 p d2) := cell_keep (S := 0) hbk bw_9
  have bx_10 : w10.cell? ⟨w4.heap.size, 0, none⟩ = some (Value.slice a3 n d3) := cell_keep (S := 0) hbk bx_9
  have bg_10 : w10.cell? ⟨w5.heap.size, 0, none⟩ = some (Value.slice a5 p d5) := cell_keep (S := 0) hbk bg_9
  have Z_10 : Hid (Own w10 w2.heap.size (Value.slice a2 p d2) (zs)) := Z_9.out.later hbk
  have G_10 : Hid (Own w10 (w4.heap.size + 1) (Value.slice a5 p d5) (zs)) := G_9.out.later hbk
  have lA_10 : w.heap.size < w10.heap.size := World.block_lt_of_cell? _ _ A_10
  have lbw_10 : w3.heap.size < w10.heap.size := World.block_lt_of_cell? _ _ bw_10
  have lbx_10 : w4.heap.size < w10.heap.size := World.block_lt_of_cell? _ _ bx_10
  have lbg_10 : w5.heap.size < w10.heap.size := World.block_lt_of_cell? _ _ bg_10
  clear hba
  clear hb hbk
  clear A_9 bw_9 bx_9 bg_9 Z_9 G_9 lA_9 lbw_9 lbx_9 lbg_9
  go_wp2_with fail
  have hba : Below w10.heap.size w10 w10 := Below.refl _ _
  refine (markBig_c a5 p d5 1 (w4.heap.size + 1) zs _ (by omega) (by omega) (by omega) G_10.out).mono ?_
  rintro e w11 ⟨rfl, ho, hg⟩
  have hgr : w10.grownBy w11 (Value.slice a5 p d5).ownBlock := hg
  have HB11 : Hid (Below w.heap.size w w11) := HB10.out.grown hgr HB10.out.size (fun k e => by have := I_G.out k e; omega)
  have z11 : w10.heap.size ≤ w11.heap.size := hgr.size
  have A_11 : w11.cell? ⟨w.heap.size, 0, none⟩ = some (Value.slice ao n c) := hgr.cell A_10 (fun e => by have h := I_G.out _ e.symm; dsimp only at h; omega)
  have bw_11 : w11.cell? ⟨w3.heap.size, 0, none⟩ = some (Value.slice a2 p d2) := hgr.cell bw_10 (fun e => by have h := I_G.out _ e.symm; dsimp only at h; omega)
  have bx_11 : w11.cell? ⟨w4.heap.size, 0, none⟩ = some (Value.slice a3 n d3) := hgr.cell bx_10 (fun e => by have h := I_G.out _ e.symm; dsimp only at h; omega)
  have bg_11 : w11.cell? ⟨w5.heap.size, 0, none⟩ = some (Value.slice a5 p d5) := hgr.cell bg_10 (fun e => by have h := I_G.out _ e.symm; dsimp only at h; omega)
  have Z_11 : Hid (Own w11 w2.heap.size (Value.slice a2 p d2) (zs)) := Z_10.out.kept hgr (own_sep I_Z.out I_G.out (by omega))
  have G_11 : Hid (Own w11 (w4.heap.size + 1) (Value.slice a5 p d5) (marks 1 p)) := ho
  have lA_11 : w.heap.size < w11.heap.size := World.block_lt_of_cell? _ _ A_11
  have lbw_11 : w3.heap.size < w11.heap.size := World.block_lt_of_cell? _ _ bw_11
  have lbx_11 : w4.heap.size < w11.heap.size := World.block_lt_of_cell? _ _ bx_11
  have lbg_11 : w5.heap.size < w11.heap.size := World.block_lt_of_cell? _ _ bg_11
  clear hba
  clear hg hgr ho
  clear A_10 bw_10 bx_10 bg_10 Z_10 G_10 lA_10 lbw_10 lbx_10 lbg_10
  go_wp2_with fail
  have hba : Below w11.heap.size w11 w11 := Below.refl _ _
  refine (heldBig_c a5 p d5 1 (w4.heap.size + 1) _ (by omega) (by omega) (by omega) G_11.out).mono ?_
  rintro e w12 ⟨rfl, hb⟩
  have hbk : Below w11.heap.size w11 w12 := hba.trans (hb.mono (by first | exact Nat.le_refl _ | (simp; done) | (simp; omega)))
  have HB12 : Hid (Below w.heap.size w w12) := HB11.out.trans (hbk.mono HB11.out.size)
  have z12 : w11.heap.size ≤ w12.heap.size := hbk.size
  have A_12 : w12.cell? ⟨w.heap.size, 0, none⟩ = some (Value.slice ao n c) := cell_keep (S := 0) hbk A_11
  have bw_12 : w12.cell? ⟨w3.heap.size, 0, none⟩ = some (Value.slice a2 p d2) := cell_keep (S := 0) hbk bw_11
  have bx_12 : w12.cell? ⟨w4.heap.size, 0, none⟩ = some (Value.slice a3 n d3) := cell_keep (S := 0) hbk bx_11
  have bg_12 : w12.cell? ⟨w5.heap.size, 0, none⟩ = some (Value.slice a5 p d5) := cell_keep (S := 0) hbk bg_11
  have Z_12 : Hid (Own w12 w2.heap.size (Value.slice a2 p d2) (zs)) := Z_11.out.later hbk
  have G_12 : Hid (Own w12 (w4.heap.size + 1) (Value.slice a5 p d5) (marks 1 p)) := G_11.out.later hbk
  have lA_12 : w.heap.size < w12.heap.size := World.block_lt_of_cell? _ _ A_12
  have lbw_12 : w3.heap.size < w12.heap.size := World.block_lt_of_cell? _ _ bw_12
  have lbx_12 : w4.heap.size < w12.heap.size := World.block_lt_of_cell? _ _ bx_12
  have lbg_12 : w5.heap.size < w12.heap.size := World.block_lt_of_cell? _ _ bg_12
  clear hba
  clear hb hbk
  clear A_11 bw_11 bx_11 bg_11 Z_11 G_11 lA_11 lbw_11 lbx_11 lbg_11
  go_wp2_with fail
  have hba : Below w12.heap.size w12 w12 := Below.refl _ _
  refine (toBig_c ao n c xs _ HX.out hn (HR.out.later HB12.out)).mono ?_
  rintro e w13 ⟨a7, d7, rfl, ho, hb⟩
  have hbk : Below w12.heap.size w12 w13 := hba.trans (hb.mono (by first | exact Nat.le_refl _ | (simp; done) | (simp; omega)))
  have HB13 : Hid (Below w.heap.size w w13) := HB12.out.trans (hbk.mono HB12.out.size)
  have z13 : w12.heap.size ≤ w13.heap.size := hbk.size
  have A_13 : w13.cell? ⟨w.heap.size, 0, none⟩ = some (Value.slice ao n c) := cell_keep (S := 0) hbk A_12
  have bw_13 : w13.cell? ⟨w3.heap.size, 0, none⟩ = some (Value.slice a2 p d2) := cell_keep (S := 0) hbk bw_12
  have bx_13 : w13.cell? ⟨w4.heap.size, 0, none⟩ = some (Value.slice a3 n d3) := cell_keep (S := 0) hbk bx_12
  have bg_13 : w13.cell? ⟨w5.heap.size, 0, none⟩ = some (Value.slice a5 p d5) := cell_keep (S := 0) hbk bg_12
  have Z_13 : Hid (Own w13 w2.heap.size (Value.slice a2 p d2) (zs)) := Z_12.out.later hbk
  have G_13 : Hid (Own w13 (w4.heap.size + 1) (Value.slice a5 p d5) (marks 1 p)) := G_12.out.later hbk
  have T7_13 : Hid (Own w13 w12.heap.size (Value.slice a7 n d7) (xs)) := ho.mono (by first | exact Nat.le_refl _ | (simp; done) | (simp; omega))
  have I_T7 : Hid (∀ k, (Value.slice a7 n d7).ownBlock = some k → w12.heap.size ≤ k ∧ k < w13.heap.size) := World.ownsRow.lt T7_13.out
  have lA_13 : w.heap.size < w13.heap.size := World.block_lt_of_cell? _ _ A_13
  have lbw_13 : w3.heap.size < w13.heap.size := World.block_lt_of_cell? _ _ bw_13
  have lbx_13 : w4.heap.size < w13.heap.size := World.block_lt_of_cell? _ _ bx_13
  have lbg_13 : w5.heap.size < w13.heap.size := World.block_lt_of_cell? _ _ bg_13
  clear hba
  clear hb hbk
  clear ho
  clear A_12 bw_12 bx_12 bg_12 Z_12 G_12 lA_12 lbw_12 lbx_12 lbg_12
  go_wp2_with fail
  have hba : Below w13.heap.size w13 w13 := Below.refl _ _
  refine (implShift_c a7 n d7 xs b _ HX.out hn T7_13.out.rd'.2 hw zs fb p HF.out HP.out).mono ?_
  rintro e w14 ⟨a8, d8, rfl, ho, hb⟩
  have hbk : Below w13.heap.size w13 w14 := hba.trans (hb.mono (by first | exact Nat.le_refl _ | (simp; done) | (simp; omega)))
  have HB14 : Hid (Below w.heap.size w w14) := HB13.out.trans (hbk.mono HB13.out.size)
  have z14 : w13.heap.size ≤ w14.heap.size := hbk.size
  have A_14 : w14.cell? ⟨w.heap.size, 0, none⟩ = some (Value.slice ao n c) := cell_keep (S := 0) hbk A_13
  have bw_14 : w14.cell? ⟨w3.heap.size, 0, none⟩ = some (Value.slice a2 p d2) := cell_keep (S := 0) hbk bw_13
  have bx_14 : w14.cell? ⟨w4.heap.size, 0, none⟩ = some (Value.slice a3 n d3) := cell_keep (S := 0) hbk bx_13
  have bg_14 : w14.cell? ⟨w5.heap.size, 0, none⟩ = some (Value.slice a5 p d5) := cell_keep (S := 0) hbk bg_13
  have Z_14 : Hid (Own w14 w2.heap.size (Value.slice a2 p d2) (zs)) := Z_13.out.later hbk
  have G_14 : Hid (Own w14 (w4.heap.size + 1) (Value.slice a5 p d5) (marks 1 p)) := G_13.out.later hbk
  have T7_14 : Hid (Own w14 w12.heap.size (Value.slice a7 n d7) (xs)) := T7_13.out.later hbk
  have H_14 : Hid (Own w14 w13.heap.size (Value.slice a8 p d8) (zs)) := ho.mono (by first | exact Nat.le_refl _ | (simp; done) | (simp; omega))
  have I_H : Hid (∀ k, (Value.slice a8 p d8).ownBlock = some k → w13.heap.size ≤ k ∧ k < w14.heap.size) := World.ownsRow.lt H_14.out
  have lA_14 : w.heap.size < w14.heap.size := World.block_lt_of_cell? _ _ A_14
  have lbw_14 : w3.heap.size < w14.heap.size := World.block_lt_of_cell? _ _ bw_14
  have lbx_14 : w4.heap.size < w14.heap.size := World.block_lt_of_cell? _ _ bx_14
  have lbg_14 : w5.heap.size < w14.heap.size := World.block_lt_of_cell? _ _ bg_14
  clear hba
  clear hb hbk
  clear ho
  clear A_13 bw_13 bx_13 bg_13 Z_13 G_13 T7_13 lA_13 lbw_13 lbx_13 lbg_13
  clear T7_14 I_T7
  go_wp2_with fail
  have hba : Below w14.heap.size w14 (w14.alloc (Obj.cells #[Value.slice a8 p d8] 25)) := (Below.refl _ _).alloc (Nat.le_refl _) _
  refine (eqBig_c a8 a2 p p d8 d2 zs zs _ HP.out HP.out (by omega) (by omega) (H_14.out.rd'.2.later hba) (Z_14.out.rd'.2.later hba)).mono ?_
  rw [decide_eq_true rfl]
  rintro e w15 ⟨rfl, hb⟩
  have hbk : Below w14.heap.size w14 w15 := hba.trans (hb.mono (by first | exact Nat.le_refl _ | (simp; done) | (simp; omega)))
  have HB15 : Hid (Below w.heap.size w w15) := HB14.out.trans (hbk.mono HB14.out.size)
  have z15 : w14.heap.size ≤ w15.heap.size := hbk.size
  have A_15 : w15.cell? ⟨w.heap.size, 0, none⟩ = some (Value.slice ao n c) := cell_keep (S := 0) hbk A_14
  have bw_15 : w15.cell? ⟨w3.heap.size, 0, none⟩ = some (Value.slice a2 p d2) := cell_keep (S := 0) hbk bw_14
  have bx_15 : w15.cell? ⟨w4.heap.size, 0, none⟩ = some (Value.slice a3 n d3) := cell_keep (S := 0) hbk bx_14
  have bg_15 : w15.cell? ⟨w5.heap.size, 0, none⟩ = some (Value.slice a5 p d5) := cell_keep (S := 0) hbk bg_14
  have bh_15 : w15.cell? ⟨w14.heap.size, 0, none⟩ = some (Value.slice a8 p d8) := cell_keep (S := 0) hb (by simp)
  have zl15 : w14.heap.size < w15.heap.size := by have := hb.size; simp at this; omega
  have Z_15 : Hid (Own w15 w2.heap.size (Value.slice a2 p d2) (zs)) := Z_14.out.later hbk
  have G_15 : Hid (Own w15 (w4.heap.size + 1) (Value.slice a5 p d5) (marks 1 p)) := G_14.out.later hbk
  have H_15 : Hid (Own w15 w13.heap.size (Value.slice a8 p d8) (zs)) := H_14.out.later hbk
  have lA_15 : w.heap.size < w15.heap.size := World.block_lt_of_cell? _ _ A_15
  have lbw_15 : w3.heap.size < w15.heap.size := World.block_lt_of_cell? _ _ bw_15
  have lbx_15 : w4.heap.size < w15.heap.size := World.block_lt_of_cell? _ _ bx_15
  have lbg_15 : w5.heap.size < w15.heap.size := World.block_lt_of_cell? _ _ bg_15
  have lbh_15 : w14.heap.size < w15.heap.size := World.block_lt_of_cell? _ _ bh_15
  clear hba
  clear hb hbk
  clear A_14 bw_14 bx_14 bg_14 Z_14 G_14 H_14 lA_14 lbw_14 lbx_14 lbg_14
  go_wp2_with fail
  have hba : Below w15.heap.size w15 w15 := Below.refl _ _
  refine (heldBig_c a5 p d5 1 (w4.heap.size + 1) _ (by omega) (by omega) (by omega) G_15.out).mono ?_
  rintro e w16 ⟨rfl, hb⟩
  have hbk : Below w15.heap.size w15 w16 := hba.trans (hb.mono (by first | exact Nat.le_refl _ | (simp; done) | (simp; omega)))
  have HB16 : Hid (Below w.heap.size w w16) := HB15.out.trans (hbk.mono HB15.out.size)
  have z16 : w15.heap.size ≤ w16.heap.size := hbk.size
  have A_16 : w16.cell? ⟨w.heap.size, 0, none⟩ = some (Value.slice ao n c) := cell_keep (S := 0) hbk A_15
  have bw_16 : w16.cell? ⟨w3.heap.size, 0, none⟩ = some (Value.slice a2 p d2) := cell_keep (S := 0) hbk bw_15
  have bx_16 : w16.cell? ⟨w4.heap.size, 0, none⟩ = some (Value.slice a3 n d3) := cell_keep (S := 0) hbk bx_15
  have bg_16 : w16.cell? ⟨w5.heap.size, 0, none⟩ = some (Value.slice a5 p d5) := cell_keep (S := 0) hbk bg_15
  have bh_16 : w16.cell? ⟨w14.heap.size, 0, none⟩ = some (Value.slice a8 p d8) := cell_keep (S := 0) hbk bh_15
  have Z_16 : Hid (Own w16 w2.heap.size (Value.slice a2 p d2) (zs)) := Z_15.out.later hbk
  have G_16 : Hid (Own w16 (w4.heap.size + 1) (Value.slice a5 p d5) (marks 1 p)) := G_15.out.later hbk
  have H_16 : Hid (Own w16 w13.heap.size (Value.slice a8 p d8) (zs)) := H_15.out.later hbk
  have lA_16 : w.heap.size < w16.heap.size := World.block_lt_of_cell? _ _ A_16
  have lbw_16 : w3.heap.size < w16.heap.size := World.block_lt_of_cell? _ _ bw_16
  have lbx_16 : w4.heap.size < w16.heap.size := World.block_lt_of_cell? _ _ bx_16
  have lbg_16 : w5.heap.size < w16.heap.size := World.block_lt_of_cell? _ _ bg_16
  have lbh_16 : w14.heap.size < w16.heap.size := World.block_lt_of_cell? _ _ bh_16
  clear hba
  clear hb hbk
  clear A_15 bw_15 bx_15 bg_15 bh_15 Z_15 G_15 H_15 lA_15 lbw_15 lbx_15 lbg_15 lbh_15
  go_wp2
  go_ret
  exact ⟨rfl, HB16.out⟩

end Go.Proofs.Ytjahgpmncamilaa
