/- The law on ScoreOf, walked: it answers true at every argument and turns nothing that was there. -/
import Derived.Test.YtleddlfojogdiaaE14
namespace Go.Proofs.Ytleddlfojogdiaa
set_option linter.unusedVariables false
set_option maxRecDepth 1000000
set_option linter.unusedSimpArgs false
open Go.RowKit

set_option maxHeartbeats 16000000 in
theorem lawScore_c (a b c : Int) (w : World) :
    Calls Try.prog 4 #[.agg #[.int .i64 a, .int .i64 b, .int .i64 c]] w fun e w' => e = .returned (.bool true) ∧ Below w.heap.size w w' := by
  have qs := fun wx => specScore_c a b c wx
  have qi := fun wx => implScore_c a b c wx
  generalize scoreV (a, b, c) = z at qs qi
  generalize taB (a, b, c) = fb at qs qi
  have hzz : (z != z) = false := by simp
  have hfb : (fb != fb) = false := by simp
  have HB_0 : Hid (Below w.heap.size w w) := Below.refl _ _
  have hHB := HB_0.out.alloc HB_0.out.size (.cells #[.int .i64 a, .int .i64 b, .int .i64 c] 43)
  have hA := x3_new w (.int .i64 a) (.int .i64 b) (.int .i64 c) 43 w.heap.size rfl
  have hz : (w.alloc (.cells #[.int .i64 a, .int .i64 b, .int .i64 c] 43)).heap.size = w.heap.size + 1 := by simp
  obtain ⟨w1, hV1⟩ : ∃ V, w.alloc (.cells #[.int .i64 a, .int .i64 b, .int .i64 c] 43) = V := ⟨_, rfl⟩
  rw [hV1] at hHB hA hz
  have HB_1 : Hid (Below w.heap.size w w1) := hHB
  have A_1 : Hid (X3 w1 w.heap.size (.int .i64 a) (.int .i64 b) (.int .i64 c)) := hA
  have z1 : w.heap.size + 1 ≤ w1.heap.size := by omega
  clear HB_0 hHB hA hz
  go_enter Try.func4, Try.ntmps4
  obtain ⟨⟨Aq0, Aq1, Aq2⟩, Af⟩ := id (A_1.out)
  clear Af
  go_wp2_with fail
  clear hV1
  refine (toTally_c a b c _).mono ?_
  clear Aq0 Aq1 Aq2
  rintro e w2 ⟨rfl, hb⟩
  have hB : Below w1.heap.size w1 w2 := hb
  have HB_2 : Hid (Below w.heap.size w w2) := HB_1.out.trans (hB.mono HB_1.out.size)
  have A_2 : Hid (X3 w2 w.heap.size (.int .i64 a) (.int .i64 b) (.int .i64 c)) := A_1.out.later hB
  have z2 : w1.heap.size ≤ w2.heap.size := hB.size
  clear hb hB HB_1 A_1 
  go_wp2_with fail
  refine (qs _).mono ?_
  rintro e w3 ⟨rfl, hb⟩
  have hB : Below w2.heap.size w2 w3 := hb
  have HB_3 : Hid (Below w.heap.size w w3) := HB_2.out.trans (hB.mono HB_2.out.size)
  have A_3 : Hid (X3 w3 w.heap.size (.int .i64 a) (.int .i64 b) (.int .i64 c)) := A_2.out.later hB
  have z3 : w2.heap.size ≤ w3.heap.size := hB.size
  clear hb hB HB_2 A_2 
  obtain ⟨⟨Aq0, Aq1, Aq2⟩, Af⟩ := id (A_3.out)
  clear Af
  go_wp2_with fail
  refine (toTally_c a b c _).mono ?_
  clear Aq0 Aq1 Aq2
  rintro e w4 ⟨rfl, hb⟩
  have hB : Below w3.heap.size w3 w4 := hb
  have HB_4 : Hid (Below w.heap.size w w4) := HB_3.out.trans (hB.mono HB_3.out.size)
  have A_4 : Hid (X3 w4 w.heap.size (.int .i64 a) (.int .i64 b) (.int .i64 c)) := A_3.out.later hB
  have z4 : w3.heap.size ≤ w4.heap.size := hB.size
  clear hb hB HB_3 A_3 
  go_wp2_with fail
  refine (qi _).mono ?_
  rintro e w5 ⟨rfl, hb⟩
  have hB : Below w4.heap.size w4 w5 := hb
  have HB_5 : Hid (Below w.heap.size w w5) := HB_4.out.trans (hB.mono HB_4.out.size)
  have A_5 : Hid (X3 w5 w.heap.size (.int .i64 a) (.int .i64 b) (.int .i64 c)) := A_4.out.later hB
  have z5 : w4.heap.size ≤ w5.heap.size := hB.size
  clear hb hB HB_4 A_4 
  go_wp2
  go_ret
  exact ⟨rfl, HB_5.out⟩

end Go.Proofs.Ytleddlfojogdiaa
