/- The law on NewClient, walked: it answers true at every argument and turns nothing that was there. -/
import Derived.Test.YteopaocomfepfaaLH10
import Derived.Test.YteopaocomfepfaaA10
namespace Go.Proofs.Yteopaocomfepfaa
set_option linter.unusedVariables false
set_option maxRecDepth 1000000
set_option linter.unusedSimpArgs false
open Go.RowKit

set_option maxHeartbeats 16000000 in
theorem lawNewC_c (i0 : Int) (w : World) (hw0 : -9223372036854775808 ≤ i0 ∧ i0 ≤ 9223372036854775807) :
    Calls Try.prog 5 #[.int .i64 i0] w fun e w' => e = .returned (.bool true) ∧ Below w.heap.size w w' := by
  have qs := fun wx => specNew_c i0 wx
  have qi := fun wx => implNew_c i0 wx
  generalize (if waysB i0 = true then i0 else 0) = ly at qs qi
  generalize waysB i0 = fb at qs qi
  have hfb : (fb != fb) = false := by simp
  go_enter Try.func5, Try.ntmps5
  have HB_0 : Hid (Below w.heap.size w w) := Below.refl _ _
  go_wp2_with fail
  refine (qs _).mono ?_
  rintro e w1 ⟨rfl, hb⟩
  have hB : Below w.heap.size w w1 := hb
  have HB_1 : Hid (Below w.heap.size w w1) := HB_0.out.trans (hB.mono HB_0.out.size)
  have z1 : w.heap.size ≤ w1.heap.size := hB.size
  clear hb hB HB_0 
  have hHB := HB_1.out.alloc HB_1.out.size (.cells #[Value.slice none 0 0, .int .i64 0, .int .i64 ly] 45)
  have hA := x3_new w1 (Value.slice none 0 0) (.int .i64 0) (.int .i64 ly) 45 w1.heap.size rfl
  have hz : (w1.alloc (.cells #[Value.slice none 0 0, .int .i64 0, .int .i64 ly] 45)).heap.size = w1.heap.size + 1 := by simp
  obtain ⟨w2, hV2⟩ : ∃ V, w1.alloc (.cells #[Value.slice none 0 0, .int .i64 0, .int .i64 ly] 45) = V := ⟨_, rfl⟩
  rw [hV2] at hHB hA hz
  have HB_2 : Hid (Below w.heap.size w w2) := hHB
  have A_2 : Hid (X3 w2 w1.heap.size (Value.slice none 0 0) (.int .i64 0) (.int .i64 ly)) := hA
  have z2 : w1.heap.size + 1 ≤ w2.heap.size := by omega
  clear HB_1 hHB hA hz
  go_wp2_with fail
  clear hV2
  refine (qi _).mono ?_
  rintro e w3 ⟨rfl, hb⟩
  have hB : Below w2.heap.size w2 w3 := hb
  have HB_3 : Hid (Below w.heap.size w w3) := HB_2.out.trans (hB.mono HB_2.out.size)
  have A_3 : Hid (X3 w3 w1.heap.size (Value.slice none 0 0) (.int .i64 0) (.int .i64 ly)) := A_2.out.later hB
  have z3 : w2.heap.size ≤ w3.heap.size := hB.size
  have GP_3 : Hid (OwnS w3 w2.heap.size (Value.slice none 0 0) ([])) := World.ownsRow_nil _ _ _ _
  have I_GP : Hid (∀ k, (Value.slice none 0 0).ownBlock = some k → w2.heap.size ≤ k ∧ k < w3.heap.size) := World.ownsRow.lt GP_3.out
  clear hb hB HB_2 A_2 
  have hHB := HB_3.out.alloc HB_3.out.size (.cells #[Value.slice none 0 0, .int .i64 0, .int .i64 ly] 45)
  have hA := A_3.out.later (balloc w3 (.cells #[Value.slice none 0 0, .int .i64 0, .int .i64 ly] 45))
  have hGP := GP_3.out.later (balloc w3 (.cells #[Value.slice none 0 0, .int .i64 0, .int .i64 ly] 45))
  have hG := x3_new w3 (Value.slice none 0 0) (.int .i64 0) (.int .i64 ly) 45 w3.heap.size rfl
  have hz : (w3.alloc (.cells #[Value.slice none 0 0, .int .i64 0, .int .i64 ly] 45)).heap.size = w3.heap.size + 1 := by simp
  obtain ⟨w4, hV4⟩ : ∃ V, w3.alloc (.cells #[Value.slice none 0 0, .int .i64 0, .int .i64 ly] 45) = V := ⟨_, rfl⟩
  rw [hV4] at hHB hA hGP hG hz
  have HB_4 : Hid (Below w.heap.size w w4) := hHB
  have A_4 : Hid (X3 w4 w1.heap.size (Value.slice none 0 0) (.int .i64 0) (.int .i64 ly)) := hA
  have GP_4 : Hid (OwnS w4 w2.heap.size (Value.slice none 0 0) ([])) := hGP
  have G_4 : Hid (X3 w4 w3.heap.size (Value.slice none 0 0) (.int .i64 0) (.int .i64 ly)) := hG
  have z4 : w3.heap.size + 1 ≤ w4.heap.size := by omega
  clear HB_3 A_3 GP_3 hHB hA hGP hG hz
  obtain ⟨⟨Aq0, Aq1, Aq2⟩, Af⟩ := id (A_4.out)
  clear Af
  obtain ⟨⟨Gq0, Gq1, Gq2⟩, Gf⟩ := id (G_4.out)
  clear Gf
  go_wp2_with fail
  clear hV4
  refine ((eqClient_c none none 0 0 0 0 0 ly 0 ly [] [] _ rfl rfl (by omega) (by omega) (Or.inl rfl) (Or.inl rfl))).mono ?_
  rw [decide_eq_true ⟨rfl, rfl, rfl⟩]
  clear Aq0 Aq1 Aq2
  clear Gq0 Gq1 Gq2
  rintro e w5 ⟨rfl, hb⟩
  have hB : Below w4.heap.size w4 w5 := hb
  have HB_5 : Hid (Below w.heap.size w w5) := HB_4.out.trans (hB.mono HB_4.out.size)
  have A_5 : Hid (X3 w5 w1.heap.size (Value.slice none 0 0) (.int .i64 0) (.int .i64 ly)) := A_4.out.later hB
  have GP_5 : Hid (OwnS w5 w2.heap.size (Value.slice none 0 0) ([])) := GP_4.out.later hB
  have G_5 : Hid (X3 w5 w3.heap.size (Value.slice none 0 0) (.int .i64 0) (.int .i64 ly)) := G_4.out.later hB
  have z5 : w4.heap.size ≤ w5.heap.size := hB.size
  clear hb hB HB_4 A_4 GP_4 G_4 
  obtain ⟨⟨Gq0, Gq1, Gq2⟩, Gf⟩ := id (G_5.out)
  clear Gf
  go_wp2_with fail
  refine (markClient_c none 0 0 0 ly 1 w2.heap.size [] _ (by omega) (by omega) (by omega) GP_5.out).mono ?_
  clear Gq0 Gq1 Gq2
  rintro e w6 ⟨rfl, ho, hg⟩
  have z6 : w5.heap.size ≤ w6.heap.size := hg.size
  have HB_6 : Hid (Below w.heap.size w w6) := Below.grown HB_5.out hg (by have := HB_5.out.size; omega) (fun k e => by have := I_GP.out k e; have := HB_5.out.size; omega)
  have A_6 : Hid (X3 w6 w1.heap.size (Value.slice none 0 0) (.int .i64 0) (.int .i64 ly)) := A_5.out.grown hg (fun e => by have := I_GP.out _ e.symm; omega)
  have G_6 : Hid (X3 w6 w3.heap.size (Value.slice none 0 0) (.int .i64 0) (.int .i64 ly)) := G_5.out.grown hg (fun e => by have := I_GP.out _ e.symm; omega)
  have GP_6 : Hid (OwnS w6 w2.heap.size (Value.slice none 0 0) (marksS 1 0)) := ho
  clear hg ho HB_5 A_5 GP_5 G_5
  obtain ⟨⟨Gq0, Gq1, Gq2⟩, Gf⟩ := id (G_6.out)
  clear Gf
  go_wp2_with fail
  refine (heldClient_c none 0 0 0 ly 1 w2.heap.size _ (by omega) (by omega) (by omega) GP_6.out).mono ?_
  clear Gq0 Gq1 Gq2
  rintro e w7 ⟨rfl, hb⟩
  have hB : Below w6.heap.size w6 w7 := hb
  have HB_7 : Hid (Below w.heap.size w w7) := HB_6.out.trans (hB.mono HB_6.out.size)
  have A_7 : Hid (X3 w7 w1.heap.size (Value.slice none 0 0) (.int .i64 0) (.int .i64 ly)) := A_6.out.later hB
  have GP_7 : Hid (OwnS w7 w2.heap.size (Value.slice none 0 0) (marksS 1 0)) := GP_6.out.later hB
  have G_7 : Hid (X3 w7 w3.heap.size (Value.slice none 0 0) (.int .i64 0) (.int .i64 ly)) := G_6.out.later hB
  have z7 : w6.heap.size ≤ w7.heap.size := hB.size
  clear hb hB HB_6 A_6 GP_6 G_6 
  go_wp2_with fail
  refine (qi _).mono ?_
  rintro e w8 ⟨rfl, hb⟩
  have hB : Below w7.heap.size w7 w8 := hb
  have HB_8 : Hid (Below w.heap.size w w8) := HB_7.out.trans (hB.mono HB_7.out.size)
  have A_8 : Hid (X3 w8 w1.heap.size (Value.slice none 0 0) (.int .i64 0) (.int .i64 ly)) := A_7.out.later hB
  have GP_8 : Hid (OwnS w8 w2.heap.size (Value.slice none 0 0) (marksS 1 0)) := GP_7.out.later hB
  have G_8 : Hid (X3 w8 w3.heap.size (Value.slice none 0 0) (.int .i64 0) (.int .i64 ly)) := G_7.out.later hB
  have z8 : w7.heap.size ≤ w8.heap.size := hB.size
  clear hb hB HB_7 A_7 GP_7 G_7 
  have hHB := HB_8.out.alloc HB_8.out.size (.cells #[Value.slice none 0 0, .int .i64 0, .int .i64 ly] 45)
  have hA := A_8.out.later (balloc w8 (.cells #[Value.slice none 0 0, .int .i64 0, .int .i64 ly] 45))
  have hGP := GP_8.out.later (balloc w8 (.cells #[Value.slice none 0 0, .int .i64 0, .int .i64 ly] 45))
  have hG := G_8.out.later (balloc w8 (.cells #[Value.slice none 0 0, .int .i64 0, .int .i64 ly] 45))
  have hH := x3_new w8 (Value.slice none 0 0) (.int .i64 0) (.int .i64 ly) 45 w8.heap.size rfl
  have hz : (w8.alloc (.cells #[Value.slice none 0 0, .int .i64 0, .int .i64 ly] 45)).heap.size = w8.heap.size + 1 := by simp
  obtain ⟨w9, hV9⟩ : ∃ V, w8.alloc (.cells #[Value.slice none 0 0, .int .i64 0, .int .i64 ly] 45) = V := ⟨_, rfl⟩
  rw [hV9] at hHB hA hGP hG hH hz
  have HB_9 : Hid (Below w.heap.size w w9) := hHB
  have A_9 : Hid (X3 w9 w1.heap.size (Value.slice none 0 0) (.int .i64 0) (.int .i64 ly)) := hA
  have GP_9 : Hid (OwnS w9 w2.heap.size (Value.slice none 0 0) (marksS 1 0)) := hGP
  have G_9 : Hid (X3 w9 w3.heap.size (Value.slice none 0 0) (.int .i64 0) (.int .i64 ly)) := hG
  have H_9 : Hid (X3 w9 w8.heap.size (Value.slice none 0 0) (.int .i64 0) (.int .i64 ly)) := hH
  have z9 : w8.heap.size + 1 ≤ w9.heap.size := by omega
  clear HB_8 A_8 GP_8 G_8 hHB hA hGP hG hH hz
  obtain ⟨⟨Aq0, Aq1, Aq2⟩, Af⟩ := id (A_9.out)
  clear Af
  obtain ⟨⟨Hq0, Hq1, Hq2⟩, Hf⟩ := id (H_9.out)
  clear Hf
  go_wp2_with fail
  clear hV9
  refine ((eqClient_c none none 0 0 0 0 0 ly 0 ly [] [] _ rfl rfl (by omega) (by omega) (Or.inl rfl) (Or.inl rfl))).mono ?_
  rw [decide_eq_true ⟨rfl, rfl, rfl⟩]
  clear Aq0 Aq1 Aq2
  clear Hq0 Hq1 Hq2
  rintro e w10 ⟨rfl, hb⟩
  have hB : Below w9.heap.size w9 w10 := hb
  have HB_10 : Hid (Below w.heap.size w w10) := HB_9.out.trans (hB.mono HB_9.out.size)
  have A_10 : Hid (X3 w10 w1.heap.size (Value.slice none 0 0) (.int .i64 0) (.int .i64 ly)) := A_9.out.later hB
  have GP_10 : Hid (OwnS w10 w2.heap.size (Value.slice none 0 0) (marksS 1 0)) := GP_9.out.later hB
  have G_10 : Hid (X3 w10 w3.heap.size (Value.slice none 0 0) (.int .i64 0) (.int .i64 ly)) := G_9.out.later hB
  have H_10 : Hid (X3 w10 w8.heap.size (Value.slice none 0 0) (.int .i64 0) (.int .i64 ly)) := H_9.out.later hB
  have z10 : w9.heap.size ≤ w10.heap.size := hB.size
  clear hb hB HB_9 A_9 GP_9 G_9 H_9 
  obtain ⟨⟨Gq0, Gq1, Gq2⟩, Gf⟩ := id (G_10.out)
  clear Gf
  go_wp2_with fail
  refine (heldClient_c none 0 0 0 ly 1 w2.heap.size _ (by omega) (by omega) (by omega) GP_10.out).mono ?_
  clear Gq0 Gq1 Gq2
  rintro e w11 ⟨rfl, hb⟩
  have hB : Below w10.heap.size w10 w11 := hb
  have HB_11 : Hid (Below w.heap.size w w11) := HB_10.out.trans (hB.mono HB_10.out.size)
  have A_11 : Hid (X3 w11 w1.heap.size (Value.slice none 0 0) (.int .i64 0) (.int .i64 ly)) := A_10.out.later hB
  have GP_11 : Hid (OwnS w11 w2.heap.size (Value.slice none 0 0) (marksS 1 0)) := GP_10.out.later hB
  have G_11 : Hid (X3 w11 w3.heap.size (Value.slice none 0 0) (.int .i64 0) (.int .i64 ly)) := G_10.out.later hB
  have H_11 : Hid (X3 w11 w8.heap.size (Value.slice none 0 0) (.int .i64 0) (.int .i64 ly)) := H_10.out.later hB
  have z11 : w10.heap.size ≤ w11.heap.size := hB.size
  clear hb hB HB_10 A_10 GP_10 G_10 H_10 
  go_wp2
  go_ret
  exact ⟨rfl, HB_11.out⟩

end Go.Proofs.Yteopaocomfepfaa
