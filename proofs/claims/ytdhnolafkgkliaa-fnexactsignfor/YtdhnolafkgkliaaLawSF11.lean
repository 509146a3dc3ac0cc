/- The law on SignFor, walked: it answers true at every argument and turns nothing that was there. -/
import Derived.Test.YtdhnolafkgkliaaC11
namespace Go.Proofs.Ytdhnolafkgkliaa
set_option linter.unusedVariables false
set_option maxRecDepth 1000000
set_option linter.unusedSimpArgs false
open Go.RowKit

set_option maxHeartbeats 16000000 in
theorem lawSignF_c (i0 i1 i2 i3 : Int) (w : World) (hwi0 : -9223372036854775808 ≤ i0 ∧ i0 ≤ 9223372036854775807) (hwi1 : -9223372036854775808 ≤ i1 ∧ i1 ≤ 9223372036854775807) (hwi2 : -9223372036854775808 ≤ i2 ∧ i2 ≤ 9223372036854775807) (hwi3 : -9223372036854775808 ≤ i3 ∧ i3 ≤ 9223372036854775807) :
    Calls Try.prog 3 #[.int .i64 i0, .int .i64 i1, .int .i64 i2, .int .i64 i3] w fun e w' => e = .returned (.bool true) ∧ Below w.heap.size w w' := by
  have qs := fun wx => specSign_c i0 i1 i2 i3 wx hwi1 hwi2
  have qi := fun wx => implSign_c i0 i1 i2 i3 wx hwi1 hwi2
  generalize (signV i0 i1 i2 i3).1 = v0 at qs qi
  generalize (signV i0 i1 i2 i3).2.1 = v1 at qs qi
  generalize (signV i0 i1 i2 i3).2.2.1 = v2 at qs qi
  generalize (signV i0 i1 i2 i3).2.2.2 = v3 at qs qi
  generalize signOk i0 i1 i2 i3 = fb at qs qi
  have hfb : (fb != fb) = false := by simp
  go_enter Try.func3, Try.ntmps3
  have HB_0 : Hid (Below w.heap.size w w) := Below.refl _ _
  go_wp2_with fail
  refine (qs _).mono ?_
  rintro e w1 ⟨rfl, hb⟩
  have hB : Below w.heap.size w w1 := hb
  have HB_1 : Hid (Below w.heap.size w w1) := HB_0.out.trans (hB.mono HB_0.out.size)
  have z1 : w.heap.size ≤ w1.heap.size := hB.size
  clear hb hB HB_0 
  have hHB := HB_1.out.alloc HB_1.out.size (.cells #[.int .i64 v0, .int .i64 v1, .int .i64 v2, .int .i64 v3] 23)
  have hA := x4_new w1 (.int .i64 v0) (.int .i64 v1) (.int .i64 v2) (.int .i64 v3) 23 w1.heap.size rfl
  have hz : (w1.alloc (.cells #[.int .i64 v0, .int .i64 v1, .int .i64 v2, .int .i64 v3] 23)).heap.size = w1.heap.size + 1 := by simp
  obtain ⟨w2, hV2⟩ : ∃ V, w1.alloc (.cells #[.int .i64 v0, .int .i64 v1, .int .i64 v2, .int .i64 v3] 23) = V := ⟨_, rfl⟩
  rw [hV2] at hHB hA hz
  have HB_2 : Hid (Below w.heap.size w w2) := hHB
  have A_2 : Hid (X4 w2 w1.heap.size (.int .i64 v0) (.int .i64 v1) (.int .i64 v2) (.int .i64 v3)) := hA
  have z2 : w1.heap.size + 1 ≤ w2.heap.size := by omega
  clear HB_1 hHB hA hz
  go_wp2_with fail
  clear hV2
  refine (qi _).mono ?_
  rintro e w3 ⟨rfl, hb⟩
  have hB : Below w2.heap.size w2 w3 := hb
  have HB_3 : Hid (Below w.heap.size w w3) := HB_2.out.trans (hB.mono HB_2.out.size)
  have A_3 : Hid (X4 w3 w1.heap.size (.int .i64 v0) (.int .i64 v1) (.int .i64 v2) (.int .i64 v3)) := A_2.out.later hB
  have z3 : w2.heap.size ≤ w3.heap.size := hB.size
  clear hb hB HB_2 A_2 
  have hHB := HB_3.out.alloc HB_3.out.size (.cells #[.int .i64 v0, .int .i64 v1, .int .i64 v2, .int .i64 v3] 23)
  have hA := A_3.out.later (balloc w3 (.cells #[.int .i64 v0, .int .i64 v1, .int .i64 v2, .int .i64 v3] 23))
  have hG := x4_new w3 (.int .i64 v0) (.int .i64 v1) (.int .i64 v2) (.int .i64 v3) 23 w3.heap.size rfl
  have hz : (w3.alloc (.cells #[.int .i64 v0, .int .i64 v1, .int .i64 v2, .int .i64 v3] 23)).heap.size = w3.heap.size + 1 := by simp
  obtain ⟨w4, hV4⟩ : ∃ V, w3.alloc (.cells #[.int .i64 v0, .int .i64 v1, .int .i64 v2, .int .i64 v3] 23) = V := ⟨_, rfl⟩
  rw [hV4] at hHB hA hG hz
  have HB_4 : Hid (Below w.heap.size w w4) := hHB
  have A_4 : Hid (X4 w4 w1.heap.size (.int .i64 v0) (.int .i64 v1) (.int .i64 v2) (.int .i64 v3)) := hA
  have G_4 : Hid (X4 w4 w3.heap.size (.int .i64 v0) (.int .i64 v1) (.int .i64 v2) (.int .i64 v3)) := hG
  have z4 : w3.heap.size + 1 ≤ w4.heap.size := by omega
  clear HB_3 A_3 hHB hA hG hz
  obtain ⟨⟨Aq0, Aq1, Aq2, Aq3⟩, Af⟩ := id (A_4.out)
  clear Af
  obtain ⟨⟨Gq0, Gq1, Gq2, Gq3⟩, Gf⟩ := id (G_4.out)
  clear Gf
  go_wp2_with fail
  clear hV4
  refine (eqReceipt_c v0 v0 v1 v1 v2 v2 v3 v3 _).mono ?_
  rw [decide_eq_true rfl]
  clear Aq0 Aq1 Aq2 Aq3
  clear Gq0 Gq1 Gq2 Gq3
  rintro e w5 ⟨rfl, hb⟩
  have hB : Below w4.heap.size w4 w5 := hb
  have HB_5 : Hid (Below w.heap.size w w5) := HB_4.out.trans (hB.mono HB_4.out.size)
  have A_5 : Hid (X4 w5 w1.heap.size (.int .i64 v0) (.int .i64 v1) (.int .i64 v2) (.int .i64 v3)) := A_4.out.later hB
  have G_5 : Hid (X4 w5 w3.heap.size (.int .i64 v0) (.int .i64 v1) (.int .i64 v2) (.int .i64 v3)) := G_4.out.later hB
  have z5 : w4.heap.size ≤ w5.heap.size := hB.size
  clear hb hB HB_4 A_4 G_4 
  go_wp2
  go_ret
  exact ⟨rfl, HB_5.out⟩

end Go.Proofs.Ytdhnolafkgkliaa
