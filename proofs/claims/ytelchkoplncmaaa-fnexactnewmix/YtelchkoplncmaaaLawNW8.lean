/- The law on NewMix, walked: it answers true at every argument and turns nothing that was there. -/
import Derived.Test.YtelchkoplncmaaaX8
namespace Go.Proofs.Ytelchkoplncmaaa
set_option linter.unusedVariables false
set_option maxRecDepth 1000000
set_option linter.unusedSimpArgs false
open Go.RowKit

set_option maxHeartbeats 16000000 in
theorem lawNew_c (i0 i1 : Int) (w : World) (hw0 : -9223372036854775808 ≤ i0 ∧ i0 ≤ 9223372036854775807) (hw1 : -9223372036854775808 ≤ i1 ∧ i1 ≤ 9223372036854775807) :
    Calls Try.prog 5 #[.int .i64 i0, .int .i64 i1] w fun e w' => e = .returned (.bool true) ∧ Below w.heap.size w w' := by
  have qs := fun wx => specNew_c i0 i1 wx
  have qi := fun wx => implNew_c i0 i1 wx
  generalize (newM i0 i1).least = la at qs qi
  generalize (newM i0 i1).wait = lw at qs qi
  generalize newB i0 i1 = fb at qs qi
  have hfb : (fb != fb) = false := by simp
  go_enter Try.func5, Try.ntmps5
  have HB_0 : Hid (Below w.heap.size w w) := Below.refl _ _
  go_wp2_with fail
  refine (qs _).mono ?_
  rintro e w1 ⟨rfl, hb⟩
  have hB : Below w.heap.size w w1 := hb
  have HB_1 : Hid (Below w.heap.size w w1) := HB_0.out.trans (hB.mono HB_0.out.size)
  have z1 : w.heap.size ≤ w1.heap.size := hB.size
  clear hb hB HB_0 
  have hHB := HB_1.out.alloc HB_1.out.size (.cells #[Value.slice none 0 0, .int .i64 la, .int .i64 lw, .int .i64 0, Value.slice none 0 0] 41)
  have hA := c5_new w1 (Value.slice none 0 0) la lw 0 (Value.slice none 0 0) 41 w1.heap.size rfl
  have hz : (w1.alloc (.cells #[Value.slice none 0 0, .int .i64 la, .int .i64 lw, .int .i64 0, Value.slice none 0 0] 41)).heap.size = w1.heap.size + 1 := by simp
  obtain ⟨_, _, _, hS3, hS4⟩ := box_same w1 (Value.slice none 0 0) la lw 0 (Value.slice none 0 0) 41
  obtain ⟨w2, hV2⟩ : ∃ V, w1.alloc (.cells #[Value.slice none 0 0, .int .i64 la, .int .i64 lw, .int .i64 0, Value.slice none 0 0] 41) = V := ⟨_, rfl⟩
  rw [hV2] at hHB hA hz hS3 hS4
  have HB_2 : Hid (Below w.heap.size w w2) := hHB
  have A_2 : Hid (C5 w2 w1.heap.size (Value.slice none 0 0) la lw 0 (Value.slice none 0 0)) := hA
  have z2 : w1.heap.size + 1 ≤ w2.heap.size := by omega
  obtain ⟨⟨_, _, _, n3, n4⟩, nf⟩ := hA
  have nf3 := nf 3
  have nf4 := nf 4
  clear nf
  clear HB_1 hHB hz
  go_wp2_with fail
  clear hS3 hS4 n3 n4 nf3 nf4 hV2
  refine (qi _).mono ?_
  rintro e w3 ⟨rfl, hb⟩
  have hB : Below w2.heap.size w2 w3 := hb
  have HB_3 : Hid (Below w.heap.size w w3) := HB_2.out.trans (hB.mono HB_2.out.size)
  have A_3 : Hid (C5 w3 w1.heap.size (Value.slice none 0 0) la lw 0 (Value.slice none 0 0)) := A_2.out.later hB
  have z3 : w2.heap.size ≤ w3.heap.size := hB.size
  have GP_3 : Hid (OwnS w3 w2.heap.size (Value.slice none 0 0) ([])) := World.ownsRow_nil _ _ _ _
  have I_GP : Hid (∀ k, (Value.slice none 0 0).ownBlock = some k → w2.heap.size ≤ k ∧ k < w3.heap.size) := World.ownsRow.lt GP_3.out
  have GS_3 : Hid (Own w3 w2.heap.size (Value.slice none 0 0) ([])) := World.ownsRow_nil _ _ _ _
  have I_GS : Hid (∀ k, (Value.slice none 0 0).ownBlock = some k → w2.heap.size ≤ k ∧ k < w3.heap.size) := World.ownsRow.lt GS_3.out
  clear hb hB HB_2 A_2 
  have hHB := HB_3.out.alloc HB_3.out.size (.cells #[Value.slice none 0 0, .int .i64 la, .int .i64 lw, .int .i64 0, Value.slice none 0 0] 41)
  have hA := A_3.out.later (balloc w3 (.cells #[Value.slice none 0 0, .int .i64 la, .int .i64 lw, .int .i64 0, Value.slice none 0 0] 41))
  have hGP := GP_3.out.later (balloc w3 (.cells #[Value.slice none 0 0, .int .i64 la, .int .i64 lw, .int .i64 0, Value.slice none 0 0] 41))
  have hGS := GS_3.out.later (balloc w3 (.cells #[Value.slice none 0 0, .int .i64 la, .int .i64 lw, .int .i64 0, Value.slice none 0 0] 41))
  have hG := c5_new w3 (Value.slice none 0 0) la lw 0 (Value.slice none 0 0) 41 w3.heap.size rfl
  have hz : (w3.alloc (.cells #[Value.slice none 0 0, .int .i64 la, .int .i64 lw, .int .i64 0, Value.slice none 0 0] 41)).heap.size = w3.heap.size + 1 := by simp
  obtain ⟨_, _, _, hS3, hS4⟩ := box_same w3 (Value.slice none 0 0) la lw 0 (Value.slice none 0 0) 41
  obtain ⟨w4, hV4⟩ : ∃ V, w3.alloc (.cells #[Value.slice none 0 0, .int .i64 la, .int .i64 lw, .int .i64 0, Value.slice none 0 0] 41) = V := ⟨_, rfl⟩
  rw [hV4] at hHB hA hGP hGS hG hz hS3 hS4
  have HB_4 : Hid (Below w.heap.size w w4) := hHB
  have A_4 : Hid (C5 w4 w1.heap.size (Value.slice none 0 0) la lw 0 (Value.slice none 0 0)) := hA
  have GP_4 : Hid (OwnS w4 w2.heap.size (Value.slice none 0 0) ([])) := hGP
  have GS_4 : Hid (Own w4 w2.heap.size (Value.slice none 0 0) ([])) := hGS
  have G_4 : Hid (C5 w4 w3.heap.size (Value.slice none 0 0) la lw 0 (Value.slice none 0 0)) := hG
  have z4 : w3.heap.size + 1 ≤ w4.heap.size := by omega
  obtain ⟨⟨_, _, _, n3, n4⟩, nf⟩ := hG
  have nf3 := nf 3
  have nf4 := nf 4
  clear nf
  clear HB_3 A_3 GP_3 GS_3 hHB hA hGP hGS hz
  obtain ⟨⟨A0, A1, A2, A3, A4⟩, Af⟩ := A_4.out
  clear Af
  obtain ⟨⟨G0, G1, G2, G3, G4⟩, Gf⟩ := G_4.out
  clear Gf
  go_wp2_with fail
  clear hS3 hS4 n3 n4 nf3 nf4 hV4
  refine (eqMix_c none none none none 0 0 0 0 0 0 la lw 0 [] [] _ rfl rfl (by omega) (by omega) (Or.inl rfl) (Or.inl rfl) (Or.inl rfl) (Or.inl rfl)).mono ?_
  clear A0 A1 A2 A3 A4
  clear G0 G1 G2 G3 G4
  rintro e w5 ⟨rfl, hb⟩
  have hB : Below w4.heap.size w4 w5 := hb
  have HB_5 : Hid (Below w.heap.size w w5) := HB_4.out.trans (hB.mono HB_4.out.size)
  have A_5 : Hid (C5 w5 w1.heap.size (Value.slice none 0 0) la lw 0 (Value.slice none 0 0)) := A_4.out.later hB
  have GP_5 : Hid (OwnS w5 w2.heap.size (Value.slice none 0 0) ([])) := GP_4.out.later hB
  have GS_5 : Hid (Own w5 w2.heap.size (Value.slice none 0 0) ([])) := GS_4.out.later hB
  have G_5 : Hid (C5 w5 w3.heap.size (Value.slice none 0 0) la lw 0 (Value.slice none 0 0)) := G_4.out.later hB
  have z5 : w4.heap.size ≤ w5.heap.size := hB.size
  clear hb hB HB_4 A_4 GP_4 GS_4 G_4 
  obtain ⟨⟨G0, G1, G2, G3, G4⟩, Gf⟩ := G_5.out
  clear Gf
  go_wp2_with fail
  refine (markMix_c none none 0 0 0 0 w2.heap.size la lw 0 [] [] _ (by omega) (by omega) (by omega) GP_5.out GS_5.out).mono ?_
  clear G0 G1 G2 G3 G4
  rintro e w6 ⟨rfl, ho, hp, W1, W2, hb, hg1, hg2⟩
  have y6 : w5.heap.size ≤ W1.heap.size := hb.size
  have x6 : W1.heap.size ≤ W2.heap.size := hg1.size
  have z6 : w5.heap.size ≤ w6.heap.size := Nat.le_trans hb.size (Nat.le_trans hg1.size hg2.size)
  have HB_6 : Hid (Below w.heap.size w w6) := Below.grown (Below.grown (HB_5.out.trans (hb.mono HB_5.out.size)) hg1 (by have := HB_5.out.size; omega) (fun k e => by have := I_GP.out k e; have := HB_5.out.size; omega)) hg2 (by have := HB_5.out.size; omega) (fun k e => by have := I_GS.out k e; have := HB_5.out.size; omega)
  have A_6 : Hid (C5 w6 w1.heap.size (Value.slice none 0 0) la lw 0 (Value.slice none 0 0)) := ((A_5.out.later hb).grown hg1 (fun e => by have := I_GP.out _ e.symm; omega)).grown hg2 (fun e => by have := I_GS.out _ e.symm; omega)
  have G_6 : Hid (C5 w6 w3.heap.size (Value.slice none 0 0) la lw 0 (Value.slice none 0 0)) := ((G_5.out.later hb).grown hg1 (fun e => by have := I_GP.out _ e.symm; omega)).grown hg2 (fun e => by have := I_GS.out _ e.symm; omega)
  have GP_6 : Hid (OwnS w6 w2.heap.size (Value.slice none 0 0) (marksS 1 0)) := ho
  have GS_6 : Hid (Own w6 w2.heap.size (Value.slice none 0 0) (marks (1 + (0 : Nat)) 0)) := hp
  clear hg1 hb hg2 HB_5 A_5 GP_5 GS_5 G_5 ho hp
  obtain ⟨⟨G0, G1, G2, G3, G4⟩, Gf⟩ := G_6.out
  clear Gf
  go_wp2_with fail
  refine (heldMix_c none none 0 0 0 0 w2.heap.size la lw 0 _ (by omega) (by omega) GP_6.out GS_6.out).mono ?_
  clear G0 G1 G2 G3 G4
  rintro e w7 ⟨rfl, hb⟩
  have hB : Below w6.heap.size w6 w7 := hb
  have HB_7 : Hid (Below w.heap.size w w7) := HB_6.out.trans (hB.mono HB_6.out.size)
  have A_7 : Hid (C5 w7 w1.heap.size (Value.slice none 0 0) la lw 0 (Value.slice none 0 0)) := A_6.out.later hB
  have GP_7 : Hid (OwnS w7 w2.heap.size (Value.slice none 0 0) (marksS 1 0)) := GP_6.out.later hB
  have GS_7 : Hid (Own w7 w2.heap.size (Value.slice none 0 0) (marks (1 + (0 : Nat)) 0)) := GS_6.out.later hB
  have G_7 : Hid (C5 w7 w3.heap.size (Value.slice none 0 0) la lw 0 (Value.slice none 0 0)) := G_6.out.later hB
  have z7 : w6.heap.size ≤ w7.heap.size := hB.size
  clear hb hB HB_6 A_6 GP_6 GS_6 G_6 
  go_wp2_with fail
  refine (qi _).mono ?_
  rintro e w8 ⟨rfl, hb⟩
  have hB : Below w7.heap.size w7 w8 := hb
  have HB_8 : Hid (Below w.heap.size w w8) := HB_7.out.trans (hB.mono HB_7.out.size)
  have A_8 : Hid (C5 w8 w1.heap.size (Value.slice none 0 0) la lw 0 (Value.slice none 0 0)) := A_7.out.later hB
  have GP_8 : Hid (OwnS w8 w2.heap.size (Value.slice none 0 0) (marksS 1 0)) := GP_7.out.later hB
  have GS_8 : Hid (Own w8 w2.heap.size (Value.slice none 0 0) (marks (1 + (0 : Nat)) 0)) := GS_7.out.later hB
  have G_8 : Hid (C5 w8 w3.heap.size (Value.slice none 0 0) la lw 0 (Value.slice none 0 0)) := G_7.out.later hB
  have z8 : w7.heap.size ≤ w8.heap.size := hB.size
  clear hb hB HB_7 A_7 GP_7 GS_7 G_7 
  have hHB := HB_8.out.alloc HB_8.out.size (.cells #[Value.slice none 0 0, .int .i64 la, .int .i64 lw, .int .i64 0, Value.slice none 0 0] 41)
  have hA := A_8.out.later (balloc w8 (.cells #[Value.slice none 0 0, .int .i64 la, .int .i64 lw, .int .i64 0, Value.slice none 0 0] 41))
  have hGP := GP_8.out.later (balloc w8 (.cells #[Value.slice none 0 0, .int .i64 la, .int .i64 lw, .int .i64 0, Value.slice none 0 0] 41))
  have hGS := GS_8.out.later (balloc w8 (.cells #[Value.slice none 0 0, .int .i64 la, .int .i64 lw, .int .i64 0, Value.slice none 0 0] 41))
  have hG := G_8.out.later (balloc w8 (.cells #[Value.slice none 0 0, .int .i64 la, .int .i64 lw, .int .i64 0, Value.slice none 0 0] 41))
  have hH := c5_new w8 (Value.slice none 0 0) la lw 0 (Value.slice none 0 0) 41 w8.heap.size rfl
  have hz : (w8.alloc (.cells #[Value.slice none 0 0, .int .i64 la, .int .i64 lw, .int .i64 0, Value.slice none 0 0] 41)).heap.size = w8.heap.size + 1 := by simp
  obtain ⟨_, _, _, hS3, hS4⟩ := box_same w8 (Value.slice none 0 0) la lw 0 (Value.slice none 0 0) 41
  obtain ⟨w9, hV9⟩ : ∃ V, w8.alloc (.cells #[Value.slice none 0 0, .int .i64 la, .int .i64 lw, .int .i64 0, Value.slice none 0 0] 41) = V := ⟨_, rfl⟩
  rw [hV9] at hHB hA hGP hGS hG hH hz hS3 hS4
  have HB_9 : Hid (Below w.heap.size w w9) := hHB
  have A_9 : Hid (C5 w9 w1.heap.size (Value.slice none 0 0) la lw 0 (Value.slice none 0 0)) := hA
  have GP_9 : Hid (OwnS w9 w2.heap.size (Value.slice none 0 0) (marksS 1 0)) := hGP
  have GS_9 : Hid (Own w9 w2.heap.size (Value.slice none 0 0) (marks (1 + (0 : Nat)) 0)) := hGS
  have G_9 : Hid (C5 w9 w3.heap.size (Value.slice none 0 0) la lw 0 (Value.slice none 0 0)) := hG
  have H_9 : Hid (C5 w9 w8.heap.size (Value.slice none 0 0) la lw 0 (Value.slice none 0 0)) := hH
  have z9 : w8.heap.size + 1 ≤ w9.heap.size := by omega
  obtain ⟨⟨_, _, _, n3, n4⟩, nf⟩ := hH
  have nf3 := nf 3
  have nf4 := nf 4
  clear nf
  clear HB_8 A_8 GP_8 GS_8 G_8 hHB hA hGP hGS hG hz
  obtain ⟨⟨A0, A1, A2, A3, A4⟩, Af⟩ := A_9.out
  clear Af
  obtain ⟨⟨H0, H1, H2, H3, H4⟩, Hf⟩ := H_9.out
  clear Hf
  go_wp2_with fail
  clear hS3 hS4 n3 n4 nf3 nf4 hV9
  refine (eqMix_c none none none none 0 0 0 0 0 0 la lw 0 [] [] _ rfl rfl (by omega) (by omega) (Or.inl rfl) (Or.inl rfl) (Or.inl rfl) (Or.inl rfl)).mono ?_
  clear A0 A1 A2 A3 A4
  clear H0 H1 H2 H3 H4
  rintro e w10 ⟨rfl, hb⟩
  have hB : Below w9.heap.size w9 w10 := hb
  have HB_10 : Hid (Below w.heap.size w w10) := HB_9.out.trans (hB.mono HB_9.out.size)
  have A_10 : Hid (C5 w10 w1.heap.size (Value.slice none 0 0) la lw 0 (Value.slice none 0 0)) := A_9.out.later hB
  have GP_10 : Hid (OwnS w10 w2.heap.size (Value.slice none 0 0) (marksS 1 0)) := GP_9.out.later hB
  have GS_10 : Hid (Own w10 w2.heap.size (Value.slice none 0 0) (marks (1 + (0 : Nat)) 0)) := GS_9.out.later hB
  have G_10 : Hid (C5 w10 w3.heap.size (Value.slice none 0 0) la lw 0 (Value.slice none 0 0)) := G_9.out.later hB
  have H_10 : Hid (C5 w10 w8.heap.size (Value.slice none 0 0) la lw 0 (Value.slice none 0 0)) := H_9.out.later hB
  have z10 : w9.heap.size ≤ w10.heap.size := hB.size
  clear hb hB HB_9 A_9 GP_9 GS_9 G_9 H_9 
  obtain ⟨⟨G0, G1, G2, G3, G4⟩, Gf⟩ := G_10.out
  clear Gf
  go_wp2_with fail
  refine (heldMix_c none none 0 0 0 0 w2.heap.size la lw 0 _ (by omega) (by omega) GP_10.out GS_10.out).mono ?_
  clear G0 G1 G2 G3 G4
  rintro e w11 ⟨rfl, hb⟩
  have hB : Below w10.heap.size w10 w11 := hb
  have HB_11 : Hid (Below w.heap.size w w11) := HB_10.out.trans (hB.mono HB_10.out.size)
  have A_11 : Hid (C5 w11 w1.heap.size (Value.slice none 0 0) la lw 0 (Value.slice none 0 0)) := A_10.out.later hB
  have GP_11 : Hid (OwnS w11 w2.heap.size (Value.slice none 0 0) (marksS 1 0)) := GP_10.out.later hB
  have GS_11 : Hid (Own w11 w2.heap.size (Value.slice none 0 0) (marks (1 + (0 : Nat)) 0)) := GS_10.out.later hB
  have G_11 : Hid (C5 w11 w3.heap.size (Value.slice none 0 0) la lw 0 (Value.slice none 0 0)) := G_10.out.later hB
  have H_11 : Hid (C5 w11 w8.heap.size (Value.slice none 0 0) la lw 0 (Value.slice none 0 0)) := H_10.out.later hB
  have z11 : w10.heap.size ≤ w11.heap.size := hB.size
  clear hb hB HB_10 A_10 GP_10 GS_10 G_10 H_10 
  go_wp2
  go_ret
  exact ⟨rfl, HB_11.out⟩

end Go.Proofs.Ytelchkoplncmaaa
