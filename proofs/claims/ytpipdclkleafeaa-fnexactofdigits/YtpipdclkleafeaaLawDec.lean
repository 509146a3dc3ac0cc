/- The law on OfDigits, walked. -/
import Derived.Test.YtpipdclkleafeaaSpecDec
namespace Go.Proofs.Ytpipdclkleafeaa
set_option linter.unusedVariables false
set_option linter.unusedSimpArgs false
open Go.RowKit

set_option maxHeartbeats 1000000 in
theorem specDec_len (s : ByteArray) (w : World) (h : s.size < 1 ∨ 30 < s.size ∨ (1 < s.size ∧ (byts s).getD 0 0 = 48)) :
    Calls Try.prog 45 #[.string s] w fun e w' => ∃ a' c', e = .returned (.tuple #[.agg #[.slice a' 0 c'], .bool false]) ∧ Own w' w.heap.size (.slice a' 0 c') [] ∧ Below w.heap.size w w' := by
  by_cases h1 : s.size < 1 ∨ 30 < s.size
  · have hde : decide ((1 : Int) ≤ (s.size : Int) ∧ (s.size : Int) ≤ 30) = false := decide_eq_false (by omega)
    have HIN : Hid (∀ wx, Calls Try.prog 78 #[.int .i64 (s.size : Int), .int .i64 1, .int .i64 30] wx fun e w' => e = .returned (.bool false) ∧ w' = wx) := fun wx => by
      have := l1In_c (s.size : Int) 1 30 wx
      rw [hde] at this
      exact this
    clear hde h h1
    go_enter Try.func45, Try.ntmps45
    go_wp2_with fail
    refine (HIN.out _).mono ?_
    rintro e w1 ⟨rfl, hw⟩
    subst w1
    go_wp2
    refine bodyPost_ret (v := .tuple #[.agg #[.slice none 0 0], .bool false]) (by simp [results, Try.results45, go_sem]) rfl ⟨none, 0, rfl, World.ownsRow_nil _ _ _ _, ?_⟩
    repeat (first | exact Below.refl _ _ | refine Below.setCell ?_ (by simp) _ | refine Below.alloc ?_ (by simp) _)
  · have h3 : 1 < s.size ∧ (byts s).getD 0 0 = 48 := by omega
    have hde : decide ((1 : Int) ≤ (s.size : Int) ∧ (s.size : Int) ≤ 30) = true := decide_eq_true ⟨by omega, by omega⟩
    have HIN : Hid (∀ wx, Calls Try.prog 78 #[.int .i64 (s.size : Int), .int .i64 1, .int .i64 30] wx fun e w' => e = .returned (.bool true) ∧ w' = wx) := fun wx => by
      have := l1In_c (s.size : Int) 1 30 wx
      rw [hde] at this
      exact this
    obtain ⟨h4, h5⟩ := h3
    have h6 : ((s[0].toNat : Int) == 48) = true := by rw [← byts_getD s 0 (by omega), h5]; rfl
    have h0 : 0 < s.size := by omega
    clear hde h h5
    go_enter Try.func45, Try.ntmps45
    go_wp2_with fail
    refine (HIN.out _).mono ?_
    rintro e w1 ⟨rfl, hw⟩
    subst w1
    go_wp2
    refine bodyPost_ret (v := .tuple #[.agg #[.slice none 0 0], .bool false]) (by simp [results, Try.results45, go_sem]) rfl ⟨none, 0, rfl, World.ownsRow_nil _ _ _ _, ?_⟩
    repeat (first | exact Below.refl _ _ | refine Below.setCell ?_ (by simp) _ | refine Below.alloc ?_ (by simp) _)

theorem specDec_c (s : ByteArray) (w : World) (hs : s.size ≤ 9223372036854775807) (zs : List Int) (fb : Bool) (p : Nat) (hF : digF (byts s) = (zs, fb)) (hp : zs.length = p) :
    Calls Try.prog 45 #[.string s] w fun e w' => ∃ a' c', e = .returned (.tuple #[.agg #[.slice a' p c'], .bool fb]) ∧ Own w' w.heap.size (.slice a' p c') zs ∧ Below w.heap.size w w' := by
  by_cases h : s.size < 1 ∨ 30 < s.size ∨ (1 < s.size ∧ (byts s).getD 0 0 = 48)
  · obtain ⟨rfl, rfl, rfl⟩ := dec_none (digF_len (by rw [byts_length]; exact h)) hF hp
    exact specDec_len s w h
  · exact specDec_ok s w h zs fb p hF hp

theorem lawDec_long (s : ByteArray) (w : World) (hs : s.size ≤ 9223372036854775807) (h : 1048576 < s.size) :
    Calls Try.prog 12 #[.string s] w fun e w' => e = .returned (.bool true) ∧ Below w.heap.size w w' := by
  go_enter Try.func12, Try.ntmps12
  go_wp2
  go_ret
  exact ⟨rfl, Below.refl _ _⟩

set_option maxHeartbeats 4000000 in
set_option maxRecDepth 1000000 in
theorem lawDec_c (s : ByteArray) (w : World) (hs0 : s.size ≤ maxLen) :
    Calls Try.prog 12 #[.string s] w fun e w' => e = .returned (.bool true) ∧ Below w.heap.size w w' := by
  have hs : s.size ≤ 9223372036854775807 := by unfold maxLen at hs0; omega
  clear hs0
  by_cases hl : 1048576 < s.size
  · exact lawDec_long s w hs hl
  obtain ⟨zs, fb, hF⟩ : ∃ zs fb, digF (byts s) = (zs, fb) := ⟨_, _, rfl⟩
  have HF : Hid (digF (byts s) = (zs, fb)) := hF
  obtain ⟨p, hp⟩ : ∃ p, zs.length = p := ⟨_, rfl⟩
  have HP : Hid (zs.length = p) := hp
  have hp6 : p ≤ 6 := by rw [← hp]; exact digF_short hF
  have hfb : (fb != fb) = false := by simp
  clear hF hp
  go_enter Try.func12, Try.ntmps12
  have HB0 : Hid (Below w.heap.size w w) := Below.refl _ _
  go_wp2_with fail
  have hba : Below w.heap.size w w := Below.refl _ _
  refine (specDec_c s _ hs zs fb p HF.out HP.out).mono ?_
  rintro e w1 ⟨a1, d1, rfl, ho, hb⟩
  have hbk : Below w.heap.size w w1 := hba.trans (hb.mono (by first | exact Nat.le_refl _ | (simp; done) | (simp; omega)))
  have HB1 : Hid (Below w.heap.size w w1) := HB0.out.trans (hbk.mono HB0.out.size)
  have z1 : w.heap.size ≤ w1.heap.size := hbk.size
  have Z_1 : Hid (Own w1 w.heap.size (Value.slice a1 p d1) (zs)) := ho.mono (by first | exact Nat.le_refl _ | (simp; done) | (simp; omega))
  have I_Z : Hid (∀ k, (Value.slice a1 p d1).ownBlock = some k → w.heap.size ≤ k ∧ k < w1.heap.size) := World.ownsRow.lt Z_1.out
  clear hba
  clear hb hbk
  clear ho
  go_wp2_with fail
  have hba : Below w1.heap.size w1 (w1.alloc (Obj.cells #[Value.slice a1 p d1] 25)) := (Below.refl _ _).alloc (Nat.le_refl _) _
  refine (implDec_c s _ hs zs fb p HF.out HP.out).mono ?_
  rintro e w2 ⟨a5, d5, rfl, ho, hb⟩
  have hbk : Below w1.heap.size w1 w2 := hba.trans (hb.mono (by first | exact Nat.le_refl _ | (simp; done) | (simp; omega)))
  have HB2 : Hid (Below w.heap.size w w2) := HB1.out.trans (hbk.mono HB1.out.size)
  have z2 : w1.heap.size ≤ w2.heap.size := hbk.size
  have bw_2 : w2.cell? ⟨w1.heap.size, 0, none⟩ = some (Value.slice a1 p d1) := cell_keep (S := 0) hb (by simp)
  have zl2 : w1.heap.size < w2.heap.size := by have := hb.size; simp at this; omega
  have Z_2 : Hid (Own w2 w.heap.size (Value.slice a1 p d1) (zs)) := Z_1.out.later hbk
  have G_2 : Hid (Own w2 (w1.heap.size + 1) (Value.slice a5 p d5) (zs)) := ho.mono (by first | exact Nat.le_refl _ | (simp; done) | (simp; omega))
  have I_G : Hid (∀ k, (Value.slice a5 p d5).ownBlock = some k → (w1.heap.size + 1) ≤ k ∧ k < w2.heap.size) := World.ownsRow.lt G_2.out
  have lbw_2 : w1.heap.size < w2.heap.size := World.block_lt_of_cell? _ _ bw_2
  clear hba
  clear hb hbk
  clear ho
  clear Z_1
  go_wp2_with fail
  have hba : Below w2.heap.size w2 (w2.alloc (Obj.cells #[Value.slice a5 p d5] 25)) := (Below.refl _ _).alloc (Nat.le_refl _) _
  refine (eqBig_c a5 a1 p p d5 d1 zs zs _ HP.out HP.out (by omega) (by omega) (G_2.out.rd'.2.later hba) (Z_2.out.rd'.2.later hba)).mono ?_
  rw [decide_eq_true rfl]
  rintro e w3 ⟨rfl, hb⟩
  have hbk : Below w2.heap.size w2 w3 := hba.trans (hb.mono (by first | exact Nat.le_refl _ | (simp; done) | (simp; omega)))
  have HB3 : Hid (Below w.heap.size w w3) := HB2.out.trans (hbk.mono HB2.out.size)
  have z3 : w2.heap.size ≤ w3.heap.size := hbk.size
  have bw_3 : w3.cell? ⟨w1.heap.size, 0, none⟩ = some (Value.slice a1 p d1) := cell_keep (S := 0) hbk bw_2
  have bg_3 : w3.cell? ⟨w2.heap.size, 0, none⟩ = some (Value.slice a5 p d5) := cell_keep (S := 0) hb (by simp)
  have zl3 : w2.heap.size < w3.heap.size := by have := hb.size; simp at this; omega
  have Z_3 : Hid (Own w3 w.heap.size (Value.slice a1 p d1) (zs)) := Z_2.out.later hbk
  have G_3 : Hid (Own w3 (w1.heap.size + 1) (Value.slice a5 p d5) (zs)) := G_2.out.later hbk
  have lbw_3 : w1.heap.size < w3.heap.size := World.block_lt_of_cell? _ _ bw_3
  have lbg_3 : w2.heap.size < w3.heap.size := World.block_lt_of_cell? _ _ bg_3
  clear hba
  clear hb hbk
  clear bw_2 Z_2 G_2 lbw_2
  go_wp2_with fail
  have hba : Below w3.heap.size w3 w3 := Below.refl _ _
  refine (markBig_c a5 p d5 1 (w1.heap.size + 1) zs _ (by omega) (by omega) (by omega) G_3.out).mono ?_
  rintro e w4 ⟨rfl, ho, hg⟩
  have hgr : w3.grownBy w4 (Value.slice a5 p d5).ownBlock := hg
  have HB4 : Hid (Below w.heap.size w w4) := HB3.out.grown hgr HB3.out.size (fun k e => by have := I_G.out k e; omega)
  have z4 : w3.heap.size ≤ w4.heap.size := hgr.size
  have bw_4 : w4.cell? ⟨w1.heap.size, 0, none⟩ = some (Value.slice a1 p d1) := hgr.cell bw_3 (fun e => by have h := I_G.out _ e.symm; dsimp only at h; omega)
  have bg_4 : w4.cell? ⟨w2.heap.size, 0, none⟩ = some (Value.slice a5 p d5) := hgr.cell bg_3 (fun e => by have h := I_G.out _ e.symm; dsimp only at h; omega)
  have Z_4 : Hid (Own w4 w.heap.size (Value.slice a1 p d1) (zs)) := Z_3.out.kept hgr (own_sep I_Z.out I_G.out (by omega))
  have G_4 : Hid (Own w4 (w1.heap.size + 1) (Value.slice a5 p d5) (marks 1 p)) := ho
  have lbw_4 : w1.heap.size < w4.heap.size := World.block_lt_of_cell? _ _ bw_4
  have lbg_4 : w2.heap.size < w4.heap.size := World.block_lt_of_cell? _ _ bg_4
  clear hba
  clear hg hgr ho
  clear bw_3 bg_3 Z_3 G_3 lbw_3 lbg_3
  go_wp2_with fail
  have hba : Below w4.heap.size w4 w4 := Below.refl _ _
  refine (heldBig_c a5 p d5 1 (w1.heap.size + 1) _ (by omega) (by omega) (by omega) G_4.out).mono ?_
  rintro e w5 ⟨rfl, hb⟩
  have hbk : Below w4.heap.size w4 w5 := hba.trans (hb.mono (by first | exact Nat.le_refl _ | (simp; done) | (simp; omega)))
  have HB5 : Hid (Below w.heap.size w w5) := HB4.out.trans (hbk.mono HB4.out.size)
  have z5 : w4.heap.size ≤ w5.heap.size := hbk.size
  have bw_5 : w5.cell? ⟨w1.heap.size, 0, none⟩ = some (Value.slice a1 p d1) := cell_keep (S := 0) hbk bw_4
  have bg_5 : w5.cell? ⟨w2.heap.size, 0, none⟩ = some (Value.slice a5 p d5) := cell_keep (S := 0) hbk bg_4
  have Z_5 : Hid (Own w5 w.heap.size (Value.slice a1 p d1) (zs)) := Z_4.out.later hbk
  have G_5 : Hid (Own w5 (w1.heap.size + 1) (Value.slice a5 p d5) (marks 1 p)) := G_4.out.later hbk
  have lbw_5 : w1.heap.size < w5.heap.size := World.block_lt_of_cell? _ _ bw_5
  have lbg_5 : w2.heap.size < w5.heap.size := World.block_lt_of_cell? _ _ bg_5
  clear hba
  clear hb hbk
  clear bw_4 bg_4 Z_4 G_4 lbw_4 lbg_4
  go_wp2_with fail
  have hba : Below w5.heap.size w5 w5 := Below.refl _ _
  refine (implDec_c s _ hs zs fb p HF.out HP.out).mono ?_
  rintro e w6 ⟨a8, d8, rfl, ho, hb⟩
  have hbk : Below w5.heap.size w5 w6 := hba.trans (hb.mono (by first | exact Nat.le_refl _ | (simp; done) | (simp; omega)))
  have HB6 : Hid (Below w.heap.size w w6) := HB5.out.trans (hbk.mono HB5.out.size)
  have z6 : w5.heap.size ≤ w6.heap.size := hbk.size
  have bw_6 : w6.cell? ⟨w1.heap.size, 0, none⟩ = some (Value.slice a1 p d1) := cell_keep (S := 0) hbk bw_5
  have bg_6 : w6.cell? ⟨w2.heap.size, 0, none⟩ = some (Value.slice a5 p d5) := cell_keep (S := 0) hbk bg_5
  have Z_6 : Hid (Own w6 w.heap.size (Value.slice a1 p d1) (zs)) := Z_5.out.later hbk
  have G_6 : Hid (Own w6 (w1.heap.size + 1) (Value.slice a5 p d5) (marks 1 p)) := G_5.out.later hbk
  have H_6 : Hid (Own w6 w5.heap.size (Value.slice a8 p d8) (zs)) := ho.mono (by first | exact Nat.le_refl _ | (simp; done) | (simp; omega))
  have I_H : Hid (∀ k, (Value.slice a8 p d8).ownBlock = some k → w5.heap.size ≤ k ∧ k < w6.heap.size) := World.ownsRow.lt H_6.out
  have lbw_6 : w1.heap.size < w6.heap.size := World.block_lt_of_cell? _ _ bw_6
  have lbg_6 : w2.heap.size < w6.heap.size := World.block_lt_of_cell? _ _ bg_6
  clear hba
  clear hb hbk
  clear ho
  clear bw_5 bg_5 Z_5 G_5 lbw_5 lbg_5
  go_wp2_with fail
  have hba : Below w6.heap.size w6 (w6.alloc (Obj.cells #[Value.slice a8 p d8] 25)) := (Below.refl _ _).alloc (Nat.le_refl _) _
  refine (eqBig_c a8 a1 p p d8 d1 zs zs _ HP.out HP.out (by omega) (by omega) (H_6.out.rd'.2.later hba) (Z_6.out.rd'.2.later hba)).mono ?_
  rw [decide_eq_true rfl]
  rintro e w7 ⟨rfl, hb⟩
  have hbk : Below w6.heap.size w6 w7 := hba.trans (hb.mono (by first | exact Nat.le_refl _ | (simp; done) | (simp; omega)))
  have HB7 : Hid (Below w.heap.size w w7) := HB6.out.trans (hbk.mono HB6.out.size)
  have z7 : w6.heap.size ≤ w7.heap.size := hbk.size
  have bw_7 : w7.cell? ⟨w1.heap.size, 0, none⟩ = some (Value.slice a1 p d1) := cell_keep (S := 0) hbk bw_6
  have bg_7 : w7.cell? ⟨w2.heap.size, 0, none⟩ = some (Value.slice a5 p d5) := cell_keep (S := 0) hbk bg_6
  have bh_7 : w7.cell? ⟨w6.heap.size, 0, none⟩ = some (Value.slice a8 p d8) := cell_keep (S := 0) hb (by simp)
  have zl7 : w6.heap.size < w7.heap.size := by have := hb.size; simp at this; omega
  have Z_7 : Hid (Own w7 w.heap.size (Value.slice a1 p d1) (zs)) := Z_6.out.later hbk
  have G_7 : Hid (Own w7 (w1.heap.size + 1) (Value.slice a5 p d5) (marks 1 p)) := G_6.out.later hbk
  have H_7 : Hid (Own w7 w5.heap.size (Value.slice a8 p d8) (zs)) := H_6.out.later hbk
  have lbw_7 : w1.heap.size < w7.heap.size := World.block_lt_of_cell? _ _ bw_7
  have lbg_7 : w2.heap.size < w7.heap.size := World.block_lt_of_cell? _ _ bg_7
  have lbh_7 : w6.heap.size < w7.heap.size := World.block_lt_of_cell? _ _ bh_7
  clear hba
  clear hb hbk
  clear bw_6 bg_6 Z_6 G_6 H_6 lbw_6 lbg_6
  go_wp2_with fail
  have hba : Below w7.heap.size w7 w7 := Below.refl _ _
  refine (heldBig_c a5 p d5 1 (w1.heap.size + 1) _ (by omega) (by omega) (by omega) G_7.out).mono ?_
  rintro e w8 ⟨rfl, hb⟩
  have hbk : Below w7.heap.size w7 w8 := hba.trans (hb.mono (by first | exact Nat.le_refl _ | (simp; done) | (simp; omega)))
  have HB8 : Hid (Below w.heap.size w w8) := HB7.out.trans (hbk.mono HB7.out.size)
  have z8 : w7.heap.size ≤ w8.heap.size := hbk.size
  have bw_8 : w8.cell? ⟨w1.heap.size, 0, none⟩ = some (Value.slice a1 p d1) := cell_keep (S := 0) hbk bw_7
  have bg_8 : w8.cell? ⟨w2.heap.size, 0, none⟩ = some (Value.slice a5 p d5) := cell_keep (S := 0) hbk bg_7
  have bh_8 : w8.cell? ⟨w6.heap.size, 0, none⟩ = some (Value.slice a8 p d8) := cell_keep (S := 0) hbk bh_7
  have Z_8 : Hid (Own w8 w.heap.size (Value.slice a1 p d1) (zs)) := Z_7.out.later hbk
  have G_8 : Hid (Own w8 (w1.heap.size + 1) (Value.slice a5 p d5) (marks 1 p)) := G_7.out.later hbk
  have H_8 : Hid (Own w8 w5.heap.size (Value.slice a8 p d8) (zs)) := H_7.out.later hbk
  have lbw_8 : w1.heap.size < w8.heap.size := World.block_lt_of_cell? _ _ bw_8
  have lbg_8 : w2.heap.size < w8.heap.size := World.block_lt_of_cell? _ _ bg_8
  have lbh_8 : w6.heap.size < w8.heap.size := World.block_lt_of_cell? _ _ bh_8
  clear hba
  clear hb hbk
  clear bw_7 bg_7 bh_7 Z_7 G_7 H_7 lbw_7 lbg_7 lbh_7
  go_wp2
  go_ret
  exact ⟨rfl, HB8.out⟩

end Go.Proofs.Ytpipdclkleafeaa
