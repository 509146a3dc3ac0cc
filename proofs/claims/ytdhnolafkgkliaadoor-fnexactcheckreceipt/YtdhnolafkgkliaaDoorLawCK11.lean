/- The law on CheckReceipt, walked: it answers true at every argument and turns nothing that was there. -/
import Derived.Test.YtdhnolafkgkliaaDoorF11
namespace Go.Proofs.YtdhnolafkgkliaaDoor
set_option linter.unusedVariables false
set_option maxRecDepth 1000000
set_option linter.unusedSimpArgs false
open Go.RowKit

set_option maxHeartbeats 16000000 in
theorem lawCheckR_c (p a b c d : Int) (w : World) (ht : Tab w) :
    Calls Tryd.prog 5 #[.int .i64 p, .agg #[.int .i64 a, .int .i64 b, .int .i64 c, .int .i64 d]] w fun e w' => e = .returned (.bool true) ∧ Below w.heap.size w w' := by
  have qs := fun wx => specCheck_c p a b c d wx
  have HQ : Hid (∀ wx, Tab wx → Calls Tryd.prog 19 #[.int .i64 p, .agg #[.int .i64 a, .int .i64 b, .int .i64 c, .int .i64 d]] wx fun e w' => e = .returned (.tuple #[.bool (rightB p (a, b, c, d)), .bool (checkB p (a, b, c, d))]) ∧ Below wx.heap.size wx w') := fun wx h => implCheck_c p a b c d wx h
  generalize rightB p (a, b, c, d) = rb at qs HQ
  generalize checkB p (a, b, c, d) = cb at qs HQ
  have hrb : (rb != rb) = false := by simp
  have hcb : (cb != cb) = false := by simp
  have HT0 : Hid (Tab w) := ht
  clear ht
  have HB_0 : Hid (Below w.heap.size w w) := Below.refl _ _
  have hHB := HB_0.out.alloc HB_0.out.size (.cells #[.int .i64 a, .int .i64 b, .int .i64 c, .int .i64 d] 57)
  have hA := x4_new w (.int .i64 a) (.int .i64 b) (.int .i64 c) (.int .i64 d) 57 w.heap.size rfl
  have hz : (w.alloc (.cells #[.int .i64 a, .int .i64 b, .int .i64 c, .int .i64 d] 57)).heap.size = w.heap.size + 1 := by simp
  obtain ⟨w1, hV1⟩ : ∃ V, w.alloc (.cells #[.int .i64 a, .int .i64 b, .int .i64 c, .int .i64 d] 57) = V := ⟨_, rfl⟩
  rw [hV1] at hHB hA hz
  have HB_1 : Hid (Below w.heap.size w w1) := hHB
  have A_1 : Hid (X4 w1 w.heap.size (.int .i64 a) (.int .i64 b) (.int .i64 c) (.int .i64 d)) := hA
  have z1 : w.heap.size + 1 ≤ w1.heap.size := by omega
  clear HB_0 hHB hA hz
  go_enter Tryd.func5, Tryd.ntmps5
  obtain ⟨⟨Aq0, Aq1, Aq2, Aq3⟩, Af⟩ := id (A_1.out)
  clear Af
  go_wp2_with fail
  clear hV1
  refine (toReceipt_c a b c d _).mono ?_
  clear Aq0 Aq1 Aq2 Aq3
  rintro e w2 ⟨rfl, hb⟩
  have hB : Below w1.heap.size w1 w2 := hb
  have HB_2 : Hid (Below w.heap.size w w2) := HB_1.out.trans (hB.mono HB_1.out.size)
  have A_2 : Hid (X4 w2 w.heap.size (.int .i64 a) (.int .i64 b) (.int .i64 c) (.int .i64 d)) := A_1.out.later hB
  have z2 : w1.heap.size ≤ w2.heap.size := hB.size
  clear hb hB HB_1 A_1 
  go_wp2_with fail
  refine (qs _).mono ?_
  rintro e w3 ⟨rfl, hb⟩
  have hB : Below w2.heap.size w2 w3 := hb
  have HB_3 : Hid (Below w.heap.size w w3) := HB_2.out.trans (hB.mono HB_2.out.size)
  have A_3 : Hid (X4 w3 w.heap.size (.int .i64 a) (.int .i64 b) (.int .i64 c) (.int .i64 d)) := A_2.out.later hB
  have z3 : w2.heap.size ≤ w3.heap.size := hB.size
  clear hb hB HB_2 A_2 
  obtain ⟨⟨Aq0, Aq1, Aq2, Aq3⟩, Af⟩ := id (A_3.out)
  clear Af
  go_wp2_with fail
  refine (toReceipt_c a b c d _).mono ?_
  clear Aq0 Aq1 Aq2 Aq3
  rintro e w4 ⟨rfl, hb⟩
  have hB : Below w3.heap.size w3 w4 := hb
  have HB_4 : Hid (Below w.heap.size w w4) := HB_3.out.trans (hB.mono HB_3.out.size)
  have A_4 : Hid (X4 w4 w.heap.size (.int .i64 a) (.int .i64 b) (.int .i64 c) (.int .i64 d)) := A_3.out.later hB
  have z4 : w3.heap.size ≤ w4.heap.size := hB.size
  clear hb hB HB_3 A_3 
  go_wp2_with fail
  refine (HQ.out _ (HT0.out.keep HB_4.out)).mono ?_
  rintro e w5 ⟨rfl, hb⟩
  have hB : Below w4.heap.size w4 w5 := hb
  have HB_5 : Hid (Below w.heap.size w w5) := HB_4.out.trans (hB.mono HB_4.out.size)
  have A_5 : Hid (X4 w5 w.heap.size (.int .i64 a) (.int .i64 b) (.int .i64 c) (.int .i64 d)) := A_4.out.later hB
  have z5 : w4.heap.size ≤ w5.heap.size := hB.size
  clear hb hB HB_4 A_4 
  go_wp2
  go_ret
  exact ⟨rfl, HB_5.out⟩

end Go.Proofs.YtdhnolafkgkliaaDoor
