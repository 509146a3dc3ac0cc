/- The law on StateFor, walked: it answers true at every argument and turns nothing that was there. -/
import Derived.Test.YtofdlggohnfgaaaB12
namespace Go.Proofs.Ytofdlggohnfgaaa
set_option linter.unusedVariables false
set_option maxRecDepth 1000000
set_option linter.unusedSimpArgs false
open Go.RowKit

set_option maxHeartbeats 16000000 in
theorem lawState_c (i a b c : Int) (d : Bool) (w : World) :
    Calls Try.prog 6 #[.int .i64 i, .agg #[.int .i64 a, .int .i64 b, .int .i64 c], .bool d] w fun e w' => e = .returned (.bool true) ∧ Below w.heap.size w w' := by
  have qs := fun wx => specState_c i a b c d wx
  have qi := fun wx => implState_c i a b c d wx
  generalize (stateV i a b c d).1 = v0 at qs qi
  generalize (stateV i a b c d).2.1 = v1 at qs qi
  generalize (stateV i a b c d).2.2.1 = v2 at qs qi
  generalize (stateV i a b c d).2.2.2.1 = v3 at qs qi
  generalize (stateV i a b c d).2.2.2.2 = v4 at qs qi
  generalize stB (i, a, b, c, d) = fb at qs qi
  have hfb : (fb != fb) = false := by simp
  have HB_0 : Hid (Below w.heap.size w w) := Below.refl _ _
  have hHB := HB_0.out.alloc HB_0.out.size (.cells #[.int .i64 a, .int .i64 b, .int .i64 c] 57)
  have hA := x3_new w (.int .i64 a) (.int .i64 b) (.int .i64 c) 57 w.heap.size rfl
  have hz : (w.alloc (.cells #[.int .i64 a, .int .i64 b, .int .i64 c] 57)).heap.size = w.heap.size + 1 := by simp
  obtain ⟨w1, hV1⟩ : ∃ V, w.alloc (.cells #[.int .i64 a, .int .i64 b, .int .i64 c] 57) = V := ⟨_, rfl⟩
  rw [hV1] at hHB hA hz
  have HB_1 : Hid (Below w.heap.size w w1) := hHB
  have A_1 : Hid (X3 w1 w.heap.size (.int .i64 a) (.int .i64 b) (.int .i64 c)) := hA
  have z1 : w.heap.size + 1 ≤ w1.heap.size := by omega
  clear HB_0 hHB hA hz
  go_enter Try.func6, Try.ntmps6
  obtain ⟨⟨Aq0, Aq1, Aq2⟩, Af⟩ := id (A_1.out)
  clear Af
  go_wp2_with fail
  clear hV1
  refine (toClaim_c a b c _).mono ?_
  clear Aq0 Aq1 Aq2
  rintro e w2 ⟨rfl, hb⟩
  have hB : Below w1.heap.size w1 w2 := hb
  have HB_2 : Hid (Below w.heap.size w w2) := HB_1.out.trans (hB.mono HB_1.out.size)
  have A_2 : Hid (X3 w2 w.heap.size (.int .i64 a) (.int .i64 b) (.int .i64 c)) := A_1.out.later hB
  have z2 : w1.heap.size ≤ w2.heap.size := hB.size
  clear hb hB HB_1 A_1 
  go_wp2_with fail
  refine (qs _).mono ?_
  rintro e w3 ⟨rfl, hb⟩
  have hB : Below w2.heap.size w2 w3 := hb
  have HB_3 : Hid (Below w.heap.size w w3) := HB_2.out.trans (hB.mono HB_2.out.size)
  have A_3 : Hid (X3 w3 w.heap.size (.int .i64 a) (.int .i64 b) (.int .i64 c)) := A_2.out.later hB
  have z3 : w2.heap.size ≤ w3.heap.size := hB.size
  clear hb hB HB_2 A_2 
  have hHB := HB_3.out.alloc HB_3.out.size (.cells #[.int .i64 v0, .int .i64 v1, .int .i64 v2, .int .i64 v3, .bool v4] 54)
  have hA := A_3.out.later (balloc w3 (.cells #[.int .i64 v0, .int .i64 v1, .int .i64 v2, .int .i64 v3, .bool v4] 54))
  have hX := x5_new w3 (.int .i64 v0) (.int .i64 v1) (.int .i64 v2) (.int .i64 v3) (.bool v4) 54 w3.heap.size rfl
  have hz : (w3.alloc (.cells #[.int .i64 v0, .int .i64 v1, .int .i64 v2, .int .i64 v3, .bool v4] 54)).heap.size = w3.heap.size + 1 := by simp
  obtain ⟨w4, hV4⟩ : ∃ V, w3.alloc (.cells #[.int .i64 v0, .int .i64 v1, .int .i64 v2, .int .i64 v3, .bool v4] 54) = V := ⟨_, rfl⟩
  rw [hV4] at hHB hA hX hz
  have HB_4 : Hid (Below w.heap.size w w4) := hHB
  have A_4 : Hid (X3 w4 w.heap.size (.int .i64 a) (.int .i64 b) (.int .i64 c)) := hA
  have X_4 : Hid (X5 w4 w3.heap.size (.int .i64 v0) (.int .i64 v1) (.int .i64 v2) (.int .i64 v3) (.bool v4)) := hX
  have z4 : w3.heap.size + 1 ≤ w4.heap.size := by omega
  clear HB_3 A_3 hHB hA hX hz
  obtain ⟨⟨Aq0, Aq1, Aq2⟩, Af⟩ := id (A_4.out)
  clear Af
  go_wp2_with fail
  clear hV4
  refine (toClaim_c a b c _).mono ?_
  clear Aq0 Aq1 Aq2
  rintro e w5 ⟨rfl, hb⟩
  have hB : Below w4.heap.size w4 w5 := hb
  have HB_5 : Hid (Below w.heap.size w w5) := HB_4.out.trans (hB.mono HB_4.out.size)
  have A_5 : Hid (X3 w5 w.heap.size (.int .i64 a) (.int .i64 b) (.int .i64 c)) := A_4.out.later hB
  have X_5 : Hid (X5 w5 w3.heap.size (.int .i64 v0) (.int .i64 v1) (.int .i64 v2) (.int .i64 v3) (.bool v4)) := X_4.out.later hB
  have z5 : w4.heap.size ≤ w5.heap.size := hB.size
  clear hb hB HB_4 A_4 X_4 
  go_wp2_with fail
  refine (qi _).mono ?_
  rintro e w6 ⟨rfl, hb⟩
  have hB : Below w5.heap.size w5 w6 := hb
  have HB_6 : Hid (Below w.heap.size w w6) := HB_5.out.trans (hB.mono HB_5.out.size)
  have A_6 : Hid (X3 w6 w.heap.size (.int .i64 a) (.int .i64 b) (.int .i64 c)) := A_5.out.later hB
  have X_6 : Hid (X5 w6 w3.heap.size (.int .i64 v0) (.int .i64 v1) (.int .i64 v2) (.int .i64 v3) (.bool v4)) := X_5.out.later hB
  have z6 : w5.heap.size ≤ w6.heap.size := hB.size
  clear hb hB HB_5 A_5 X_5 
  have hHB := HB_6.out.alloc HB_6.out.size (.cells #[.int .i64 v0, .int .i64 v1, .int .i64 v2, .int .i64 v3, .bool v4] 54)
  have hA := A_6.out.later (balloc w6 (.cells #[.int .i64 v0, .int .i64 v1, .int .i64 v2, .int .i64 v3, .bool v4] 54))
  have hX := X_6.out.later (balloc w6 (.cells #[.int .i64 v0, .int .i64 v1, .int .i64 v2, .int .i64 v3, .bool v4] 54))
  have hY := x5_new w6 (.int .i64 v0) (.int .i64 v1) (.int .i64 v2) (.int .i64 v3) (.bool v4) 54 w6.heap.size rfl
  have hz : (w6.alloc (.cells #[.int .i64 v0, .int .i64 v1, .int .i64 v2, .int .i64 v3, .bool v4] 54)).heap.size = w6.heap.size + 1 := by simp
  obtain ⟨w7, hV7⟩ : ∃ V, w6.alloc (.cells #[.int .i64 v0, .int .i64 v1, .int .i64 v2, .int .i64 v3, .bool v4] 54) = V := ⟨_, rfl⟩
  rw [hV7] at hHB hA hX hY hz
  have HB_7 : Hid (Below w.heap.size w w7) := hHB
  have A_7 : Hid (X3 w7 w.heap.size (.int .i64 a) (.int .i64 b) (.int .i64 c)) := hA
  have X_7 : Hid (X5 w7 w3.heap.size (.int .i64 v0) (.int .i64 v1) (.int .i64 v2) (.int .i64 v3) (.bool v4)) := hX
  have Y_7 : Hid (X5 w7 w6.heap.size (.int .i64 v0) (.int .i64 v1) (.int .i64 v2) (.int .i64 v3) (.bool v4)) := hY
  have z7 : w6.heap.size + 1 ≤ w7.heap.size := by omega
  clear HB_6 A_6 X_6 hHB hA hX hY hz
  obtain ⟨⟨Xq0, Xq1, Xq2, Xq3, Xq4⟩, Xf⟩ := id (X_7.out)
  clear Xf
  obtain ⟨⟨Yq0, Yq1, Yq2, Yq3, Yq4⟩, Yf⟩ := id (Y_7.out)
  clear Yf
  go_wp2_with fail
  clear hV7
  refine (eqStatement_c v0 v0 v1 v1 v2 v2 v3 v3 v4 v4 _).mono ?_
  rw [decide_eq_true rfl]
  clear Xq0 Xq1 Xq2 Xq3 Xq4
  clear Yq0 Yq1 Yq2 Yq3 Yq4
  rintro e w8 ⟨rfl, hb⟩
  have hB : Below w7.heap.size w7 w8 := hb
  have HB_8 : Hid (Below w.heap.size w w8) := HB_7.out.trans (hB.mono HB_7.out.size)
  have A_8 : Hid (X3 w8 w.heap.size (.int .i64 a) (.int .i64 b) (.int .i64 c)) := A_7.out.later hB
  have X_8 : Hid (X5 w8 w3.heap.size (.int .i64 v0) (.int .i64 v1) (.int .i64 v2) (.int .i64 v3) (.bool v4)) := X_7.out.later hB
  have Y_8 : Hid (X5 w8 w6.heap.size (.int .i64 v0) (.int .i64 v1) (.int .i64 v2) (.int .i64 v3) (.bool v4)) := Y_7.out.later hB
  have z8 : w7.heap.size ≤ w8.heap.size := hB.size
  clear hb hB HB_7 A_7 X_7 Y_7 
  go_wp2
  go_ret
  exact ⟨rfl, HB_8.out⟩

end Go.Proofs.Ytofdlggohnfgaaa
