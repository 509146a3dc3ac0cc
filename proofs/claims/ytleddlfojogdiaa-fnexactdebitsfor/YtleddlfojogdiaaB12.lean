/- Chapter 12: StateFor of both sides; lists of statements looked at. -/
import Derived.Test.YtleddlfojogdiaaA12
namespace Go.Proofs.Ytleddlfojogdiaa
set_option linter.unusedVariables false
set_option maxRecDepth 1000000
set_option linter.unusedSimpArgs false
open Go.RowKit

def stateV (s a b c : Int) (d : Bool) : St := if stB (s, a, b, c, d) = true then (s, a, b, c, d) else (0, 0, 0, 0, false)

set_option maxHeartbeats 4000000 in
theorem specState_c (s a b c : Int) (d : Bool) (w : World) : Calls Try.prog 59 #[.int .i64 s, .agg #[.int .i64 a, .int .i64 b, .int .i64 c], .bool d] w fun e w' => e = .returned (.tuple #[.agg #[.int .i64 (stateV s a b c d).1, .int .i64 (stateV s a b c d).2.1, .int .i64 (stateV s a b c d).2.2.1, .int .i64 (stateV s a b c d).2.2.2.1, .bool (stateV s a b c d).2.2.2.2], .bool (stB (s, a, b, c, d))]) ∧ Below w.heap.size w w' := by
  have q1 := fun wx => l12Witness_c s wx
  have q2 := fun wx => specGood_c a b c wx
  have hst : stB (s, a, b, c, d) = (inB s 0 6 && clB (a, b, c)) := rfl
  unfold stateV
  rw [hst]
  clear hst
  generalize inB s 0 6 = x at q1 ⊢
  generalize clB (a, b, c) = y at q2 ⊢
  cases x
  case false =>
    simp only [Bool.false_and, Bool.false_eq_true, if_false]
    have HB_0 : Hid (Below w.heap.size w w) := Below.refl _ _
    have hHB := HB_0.out.alloc HB_0.out.size (.cells #[.int .i64 a, .int .i64 b, .int .i64 c] 76)
    have hA := x3_new w (.int .i64 a) (.int .i64 b) (.int .i64 c) 76 w.heap.size rfl
    have hz : (w.alloc (.cells #[.int .i64 a, .int .i64 b, .int .i64 c] 76)).heap.size = w.heap.size + 1 := by simp
    obtain ⟨w1, hV1⟩ : ∃ V, w.alloc (.cells #[.int .i64 a, .int .i64 b, .int .i64 c] 76) = V := ⟨_, rfl⟩
    rw [hV1] at hHB hA hz
    have HB_1 : Hid (Below w.heap.size w w1) := hHB
    have A_1 : Hid (X3 w1 w.heap.size (.int .i64 a) (.int .i64 b) (.int .i64 c)) := hA
    have z1 : w.heap.size + 1 ≤ w1.heap.size := by omega
    clear HB_0 hHB hA hz
    have hHB := HB_1.out.alloc HB_1.out.size (.cells #[.int .i64 0, .int .i64 0, .int .i64 0, .int .i64 0, .bool false] 82)
    have hA := A_1.out.later (balloc w1 (.cells #[.int .i64 0, .int .i64 0, .int .i64 0, .int .i64 0, .bool false] 82))
    have hR := x5_new w1 (.int .i64 0) (.int .i64 0) (.int .i64 0) (.int .i64 0) (.bool false) 82 w1.heap.size rfl
    have hz : (w1.alloc (.cells #[.int .i64 0, .int .i64 0, .int .i64 0, .int .i64 0, .bool false] 82)).heap.size = w1.heap.size + 1 := by simp
    obtain ⟨w2, hV2⟩ : ∃ V, w1.alloc (.cells #[.int .i64 0, .int .i64 0, .int .i64 0, .int .i64 0, .bool false] 82) = V := ⟨_, rfl⟩
    rw [hV2] at hHB hA hR hz
    have HB_2 : Hid (Below w.heap.size w w2) := hHB
    have A_2 : Hid (X3 w2 w.heap.size (.int .i64 a) (.int .i64 b) (.int .i64 c)) := hA
    have R_2 : Hid (X5 w2 w1.heap.size (.int .i64 0) (.int .i64 0) (.int .i64 0) (.int .i64 0) (.bool false)) := hR
    have z2 : w1.heap.size + 1 ≤ w2.heap.size := by omega
    clear HB_1 A_1 hHB hA hR hz
    go_enter Try.func59, Try.ntmps59
    go_wp2_with fail
    clear hV1 hV2
    refine (q1 _).mono ?_
    rintro e w' ⟨rfl, hw⟩
    subst w'
    have hF0 := R_2.out
    have hF := (((((hF0.set0 (.int .i64 0)).set1 (.int .i64 0)).set2 (.int .i64 0)).set3 (.int .i64 0)).set4 (.bool false))
    have hB2 : Below w.heap.size w (((((w2.setCell ⟨w1.heap.size, 0, none⟩ (.int .i64 0)).setCell ⟨w1.heap.size, 1, none⟩ (.int .i64 0)).setCell ⟨w1.heap.size, 2, none⟩ (.int .i64 0)).setCell ⟨w1.heap.size, 3, none⟩ (.int .i64 0)).setCell ⟨w1.heap.size, 4, none⟩ (.bool false)) := (((((HB_2.out.setCell (by show w.heap.size ≤ w1.heap.size; omega) (.int .i64 0)).setCell (by show w.heap.size ≤ w1.heap.size; omega) (.int .i64 0)).setCell (by show w.heap.size ≤ w1.heap.size; omega) (.int .i64 0)).setCell (by show w.heap.size ≤ w1.heap.size; omega) (.int .i64 0)).setCell (by show w.heap.size ≤ w1.heap.size; omega) (.bool false))
    obtain ⟨⟨r0, r1, r2, r3, r4⟩, rf⟩ := hF0
    have rf0 := rf 0
    have rf1 := rf 1
    have rf2 := rf 2
    have rf3 := rf 3
    have rf4 := rf 4
    have HF : Hid (X5 (((((w2.setCell ⟨w1.heap.size, 0, none⟩ (.int .i64 0)).setCell ⟨w1.heap.size, 1, none⟩ (.int .i64 0)).setCell ⟨w1.heap.size, 2, none⟩ (.int .i64 0)).setCell ⟨w1.heap.size, 3, none⟩ (.int .i64 0)).setCell ⟨w1.heap.size, 4, none⟩ (.bool false)) (w1.heap.size) (.int .i64 0) (.int .i64 0) (.int .i64 0) (.int .i64 0) (.bool false)) := hF
    have HB2 : Hid (Below w.heap.size w (((((w2.setCell ⟨w1.heap.size, 0, none⟩ (.int .i64 0)).setCell ⟨w1.heap.size, 1, none⟩ (.int .i64 0)).setCell ⟨w1.heap.size, 2, none⟩ (.int .i64 0)).setCell ⟨w1.heap.size, 3, none⟩ (.int .i64 0)).setCell ⟨w1.heap.size, 4, none⟩ (.bool false))) := hB2
    clear rf hF hB2
    go_wp2
    obtain ⟨V, hV⟩ : ∃ V, (((((w2.setCell ⟨w1.heap.size, 0, none⟩ (.int .i64 0)).setCell ⟨w1.heap.size, 1, none⟩ (.int .i64 0)).setCell ⟨w1.heap.size, 2, none⟩ (.int .i64 0)).setCell ⟨w1.heap.size, 3, none⟩ (.int .i64 0)).setCell ⟨w1.heap.size, 4, none⟩ (.bool false)) = V := ⟨_, rfl⟩
    have hF := HF.out
    have hB2 := HB2.out
    clear HF HB2
    rw [hV] at hF hB2 ⊢
    clear hV r0 rf0 r1 rf1 r2 rf2 r3 rf3 r4 rf4
    obtain ⟨⟨c0, c1, c2, c3, c4⟩, _⟩ := hF
    refine bodyPost_ret (v := .tuple #[.agg #[.int .i64 0, .int .i64 0, .int .i64 0, .int .i64 0, .bool false], .bool false]) (by simp [results, Try.results59, go_sem, c0, c1, c2, c3, c4]; try rfl) rfl ?_
    exact ⟨rfl, hB2⟩
  cases y
  case false =>
    simp only [Bool.and_false, Bool.false_eq_true, if_false]
    have HB_0 : Hid (Below w.heap.size w w) := Below.refl _ _
    have hHB := HB_0.out.alloc HB_0.out.size (.cells #[.int .i64 a, .int .i64 b, .int .i64 c] 76)
    have hA := x3_new w (.int .i64 a) (.int .i64 b) (.int .i64 c) 76 w.heap.size rfl
    have hz : (w.alloc (.cells #[.int .i64 a, .int .i64 b, .int .i64 c] 76)).heap.size = w.heap.size + 1 := by simp
    obtain ⟨w1, hV1⟩ : ∃ V, w.alloc (.cells #[.int .i64 a, .int .i64 b, .int .i64 c] 76) = V := ⟨_, rfl⟩
    rw [hV1] at hHB hA hz
    have HB_1 : Hid (Below w.heap.size w w1) := hHB
    have A_1 : Hid (X3 w1 w.heap.size (.int .i64 a) (.int .i64 b) (.int .i64 c)) := hA
    have z1 : w.heap.size + 1 ≤ w1.heap.size := by omega
    clear HB_0 hHB hA hz
    have hHB := HB_1.out.alloc HB_1.out.size (.cells #[.int .i64 0, .int .i64 0, .int .i64 0, .int .i64 0, .bool false] 82)
    have hA := A_1.out.later (balloc w1 (.cells #[.int .i64 0, .int .i64 0, .int .i64 0, .int .i64 0, .bool false] 82))
    have hR := x5_new w1 (.int .i64 0) (.int .i64 0) (.int .i64 0) (.int .i64 0) (.bool false) 82 w1.heap.size rfl
    have hz : (w1.alloc (.cells #[.int .i64 0, .int .i64 0, .int .i64 0, .int .i64 0, .bool false] 82)).heap.size = w1.heap.size + 1 := by simp
    obtain ⟨w2, hV2⟩ : ∃ V, w1.alloc (.cells #[.int .i64 0, .int .i64 0, .int .i64 0, .int .i64 0, .bool false] 82) = V := ⟨_, rfl⟩
    rw [hV2] at hHB hA hR hz
    have HB_2 : Hid (Below w.heap.size w w2) := hHB
    have A_2 : Hid (X3 w2 w.heap.size (.int .i64 a) (.int .i64 b) (.int .i64 c)) := hA
    have R_2 : Hid (X5 w2 w1.heap.size (.int .i64 0) (.int .i64 0) (.int .i64 0) (.int .i64 0) (.bool false)) := hR
    have z2 : w1.heap.size + 1 ≤ w2.heap.size := by omega
    clear HB_1 A_1 hHB hA hR hz
    go_enter Try.func59, Try.ntmps59
    go_wp2_with fail
    clear hV1 hV2
    refine (q1 _).mono ?_
    rintro e w' ⟨rfl, hw⟩
    subst w'
    obtain ⟨⟨Aq0, Aq1, Aq2⟩, Af⟩ := id (A_2.out)
    clear Af
    go_wp2_with fail
    refine (q2 _).mono ?_
    clear Aq0 Aq1 Aq2
    rintro e w3 ⟨rfl, hb⟩
    have hB : Below w2.heap.size w2 w3 := hb
    have HB_3 : Hid (Below w.heap.size w w3) := HB_2.out.trans (hB.mono HB_2.out.size)
    have A_3 : Hid (X3 w3 w.heap.size (.int .i64 a) (.int .i64 b) (.int .i64 c)) := A_2.out.later hB
    have R_3 : Hid (X5 w3 w1.heap.size (.int .i64 0) (.int .i64 0) (.int .i64 0) (.int .i64 0) (.bool false)) := R_2.out.later hB
    have z3 : w2.heap.size ≤ w3.heap.size := hB.size
    clear hb hB HB_2 A_2 R_2 
    have hF0 := R_3.out
    have hF := (((((hF0.set0 (.int .i64 0)).set1 (.int .i64 0)).set2 (.int .i64 0)).set3 (.int .i64 0)).set4 (.bool false))
    have hB2 : Below w.heap.size w (((((w3.setCell ⟨w1.heap.size, 0, none⟩ (.int .i64 0)).setCell ⟨w1.heap.size, 1, none⟩ (.int .i64 0)).setCell ⟨w1.heap.size, 2, none⟩ (.int .i64 0)).setCell ⟨w1.heap.size, 3, none⟩ (.int .i64 0)).setCell ⟨w1.heap.size, 4, none⟩ (.bool false)) := (((((HB_3.out.setCell (by show w.heap.size ≤ w1.heap.size; omega) (.int .i64 0)).setCell (by show w.heap.size ≤ w1.heap.size; omega) (.int .i64 0)).setCell (by show w.heap.size ≤ w1.heap.size; omega) (.int .i64 0)).setCell (by show w.heap.size ≤ w1.heap.size; omega) (.int .i64 0)).setCell (by show w.heap.size ≤ w1.heap.size; omega) (.bool false))
    obtain ⟨⟨r0, r1, r2, r3, r4⟩, rf⟩ := hF0
    have rf0 := rf 0
    have rf1 := rf 1
    have rf2 := rf 2
    have rf3 := rf 3
    have rf4 := rf 4
    have HF : Hid (X5 (((((w3.setCell ⟨w1.heap.size, 0, none⟩ (.int .i64 0)).setCell ⟨w1.heap.size, 1, none⟩ (.int .i64 0)).setCell ⟨w1.heap.size, 2, none⟩ (.int .i64 0)).setCell ⟨w1.heap.size, 3, none⟩ (.int .i64 0)).setCell ⟨w1.heap.size, 4, none⟩ (.bool false)) (w1.heap.size) (.int .i64 0) (.int .i64 0) (.int .i64 0) (.int .i64 0) (.bool false)) := hF
    have HB2 : Hid (Below w.heap.size w (((((w3.setCell ⟨w1.heap.size, 0, none⟩ (.int .i64 0)).setCell ⟨w1.heap.size, 1, none⟩ (.int .i64 0)).setCell ⟨w1.heap.size, 2, none⟩ (.int .i64 0)).setCell ⟨w1.heap.size, 3, none⟩ (.int .i64 0)).setCell ⟨w1.heap.size, 4, none⟩ (.bool false))) := hB2
    clear rf hF hB2
    go_wp2
    obtain ⟨V, hV⟩ : ∃ V, (((((w3.setCell ⟨w1.heap.size, 0, none⟩ (.int .i64 0)).setCell ⟨w1.heap.size, 1, none⟩ (.int .i64 0)).setCell ⟨w1.heap.size, 2, none⟩ (.int .i64 0)).setCell ⟨w1.heap.size, 3, none⟩ (.int .i64 0)).setCell ⟨w1.heap.size, 4, none⟩ (.bool false)) = V := ⟨_, rfl⟩
    have hF := HF.out
    have hB2 := HB2.out
    clear HF HB2
    rw [hV] at hF hB2 ⊢
    clear hV r0 rf0 r1 rf1 r2 rf2 r3 rf3 r4 rf4
    obtain ⟨⟨c0, c1, c2, c3, c4⟩, _⟩ := hF
    refine bodyPost_ret (v := .tuple #[.agg #[.int .i64 0, .int .i64 0, .int .i64 0, .int .i64 0, .bool false], .bool false]) (by simp [results, Try.results59, go_sem, c0, c1, c2, c3, c4]; try rfl) rfl ?_
    exact ⟨rfl, hB2⟩
  case true =>
    simp only [Bool.and_true, if_true]
    have HB_0 : Hid (Below w.heap.size w w) := Below.refl _ _
    have hHB := HB_0.out.alloc HB_0.out.size (.cells #[.int .i64 a, .int .i64 b, .int .i64 c] 76)
    have hA := x3_new w (.int .i64 a) (.int .i64 b) (.int .i64 c) 76 w.heap.size rfl
    have hz : (w.alloc (.cells #[.int .i64 a, .int .i64 b, .int .i64 c] 76)).heap.size = w.heap.size + 1 := by simp
    obtain ⟨w1, hV1⟩ : ∃ V, w.alloc (.cells #[.int .i64 a, .int .i64 b, .int .i64 c] 76) = V := ⟨_, rfl⟩
    rw [hV1] at hHB hA hz
    have HB_1 : Hid (Below w.heap.size w w1) := hHB
    have A_1 : Hid (X3 w1 w.heap.size (.int .i64 a) (.int .i64 b) (.int .i64 c)) := hA
    have z1 : w.heap.size + 1 ≤ w1.heap.size := by omega
    clear HB_0 hHB hA hz
    have hHB := HB_1.out.alloc HB_1.out.size (.cells #[.int .i64 0, .int .i64 0, .int .i64 0, .int .i64 0, .bool false] 82)
    have hA := A_1.out.later (balloc w1 (.cells #[.int .i64 0, .int .i64 0, .int .i64 0, .int .i64 0, .bool false] 82))
    have hR := x5_new w1 (.int .i64 0) (.int .i64 0) (.int .i64 0) (.int .i64 0) (.bool false) 82 w1.heap.size rfl
    have hz : (w1.alloc (.cells #[.int .i64 0, .int .i64 0, .int .i64 0, .int .i64 0, .bool false] 82)).heap.size = w1.heap.size + 1 := by simp
    obtain ⟨w2, hV2⟩ : ∃ V, w1.alloc (.cells #[.int .i64 0, .int .i64 0, .int .i64 0, .int .i64 0, .bool false] 82) = V := ⟨_, rfl⟩
    rw [hV2] at hHB hA hR hz
    have HB_2 : Hid (Below w.heap.size w w2) := hHB
    have A_2 : Hid (X3 w2 w.heap.size (.int .i64 a) (.int .i64 b) (.int .i64 c)) := hA
    have R_2 : Hid (X5 w2 w1.heap.size (.int .i64 0) (.int .i64 0) (.int .i64 0) (.int .i64 0) (.bool false)) := hR
    have z2 : w1.heap.size + 1 ≤ w2.heap.size := by omega
    clear HB_1 A_1 hHB hA hR hz
    go_enter Try.func59, Try.ntmps59
    go_wp2_with fail
    clear hV1 hV2
    refine (q1 _).mono ?_
    rintro e w' ⟨rfl, hw⟩
    subst w'
    obtain ⟨⟨Aq0, Aq1, Aq2⟩, Af⟩ := id (A_2.out)
    clear Af
    go_wp2_with fail
    refine (q2 _).mono ?_
    clear Aq0 Aq1 Aq2
    rintro e w3 ⟨rfl, hb⟩
    have hB : Below w2.heap.size w2 w3 := hb
    have HB_3 : Hid (Below w.heap.size w w3) := HB_2.out.trans (hB.mono HB_2.out.size)
    have A_3 : Hid (X3 w3 w.heap.size (.int .i64 a) (.int .i64 b) (.int .i64 c)) := A_2.out.later hB
    have R_3 : Hid (X5 w3 w1.heap.size (.int .i64 0) (.int .i64 0) (.int .i64 0) (.int .i64 0) (.bool false)) := R_2.out.later hB
    have z3 : w2.heap.size ≤ w3.heap.size := hB.size
    clear hb hB HB_2 A_2 R_2 
    obtain ⟨⟨Aq0, Aq1, Aq2⟩, Af⟩ := id (A_3.out)
    clear Af
    have hF0 := R_3.out
    have hF := (((((hF0.set0 (.int .i64 s)).set1 (.int .i64 a)).set2 (.int .i64 b)).set3 (.int .i64 c)).set4 (.bool d))
    have hB2 : Below w.heap.size w (((((w3.setCell ⟨w1.heap.size, 0, none⟩ (.int .i64 s)).setCell ⟨w1.heap.size, 1, none⟩ (.int .i64 a)).setCell ⟨w1.heap.size, 2, none⟩ (.int .i64 b)).setCell ⟨w1.heap.size, 3, none⟩ (.int .i64 c)).setCell ⟨w1.heap.size, 4, none⟩ (.bool d)) := (((((HB_3.out.setCell (by show w.heap.size ≤ w1.heap.size; omega) (.int .i64 s)).setCell (by show w.heap.size ≤ w1.heap.size; omega) (.int .i64 a)).setCell (by show w.heap.size ≤ w1.heap.size; omega) (.int .i64 b)).setCell (by show w.heap.size ≤ w1.heap.size; omega) (.int .i64 c)).setCell (by show w.heap.size ≤ w1.heap.size; omega) (.bool d))
    obtain ⟨⟨r0, r1, r2, r3, r4⟩, rf⟩ := hF0
    have rf0 := rf 0
    have rf1 := rf 1
    have rf2 := rf 2
    have rf3 := rf 3
    have rf4 := rf 4
    have HF : Hid (X5 (((((w3.setCell ⟨w1.heap.size, 0, none⟩ (.int .i64 s)).setCell ⟨w1.heap.size, 1, none⟩ (.int .i64 a)).setCell ⟨w1.heap.size, 2, none⟩ (.int .i64 b)).setCell ⟨w1.heap.size, 3, none⟩ (.int .i64 c)).setCell ⟨w1.heap.size, 4, none⟩ (.bool d)) (w1.heap.size) (.int .i64 s) (.int .i64 a) (.int .i64 b) (.int .i64 c) (.bool d)) := hF
    have HB2 : Hid (Below w.heap.size w (((((w3.setCell ⟨w1.heap.size, 0, none⟩ (.int .i64 s)).setCell ⟨w1.heap.size, 1, none⟩ (.int .i64 a)).setCell ⟨w1.heap.size, 2, none⟩ (.int .i64 b)).setCell ⟨w1.heap.size, 3, none⟩ (.int .i64 c)).setCell ⟨w1.heap.size, 4, none⟩ (.bool d))) := hB2
    clear rf hF hB2
    go_wp2
    obtain ⟨V, hV⟩ : ∃ V, (((((w3.setCell ⟨w1.heap.size, 0, none⟩ (.int .i64 s)).setCell ⟨w1.heap.size, 1, none⟩ (.int .i64 a)).setCell ⟨w1.heap.size, 2, none⟩ (.int .i64 b)).setCell ⟨w1.heap.size, 3, none⟩ (.int .i64 c)).setCell ⟨w1.heap.size, 4, none⟩ (.bool d)) = V := ⟨_, rfl⟩
    have hF := HF.out
    have hB2 := HB2.out
    clear HF HB2
    rw [hV] at hF hB2 ⊢
    clear hV r0 rf0 r1 rf1 r2 rf2 r3 rf3 r4 rf4
    obtain ⟨⟨c0, c1, c2, c3, c4⟩, _⟩ := hF
    refine bodyPost_ret (v := .tuple #[.agg #[.int .i64 s, .int .i64 a, .int .i64 b, .int .i64 c, .bool d], .bool true]) (by simp [results, Try.results59, go_sem, c0, c1, c2, c3, c4]; try rfl) rfl ?_
    exact ⟨rfl, hB2⟩

set_option maxHeartbeats 4000000 in
theorem implState_c (s a b c : Int) (d : Bool) (w : World) : Calls Try.prog 58 #[.int .i64 s, .agg #[.int .i64 a, .int .i64 b, .int .i64 c], .bool d] w fun e w' => e = .returned (.tuple #[.agg #[.int .i64 (stateV s a b c d).1, .int .i64 (stateV s a b c d).2.1, .int .i64 (stateV s a b c d).2.2.1, .int .i64 (stateV s a b c d).2.2.2.1, .bool (stateV s a b c d).2.2.2.2], .bool (stB (s, a, b, c, d))]) ∧ Below w.heap.size w w' := by
  have q1 := fun wx => isStatement_c s a b c d wx
  unfold stateV
  generalize stB (s, a, b, c, d) = x at q1 ⊢
  cases x
  case false =>
    simp only [Bool.false_eq_true, if_false]
    have HB_0 : Hid (Below w.heap.size w w) := Below.refl _ _
    have hHB := HB_0.out.alloc HB_0.out.size (.cells #[.int .i64 a, .int .i64 b, .int .i64 c] 76)
    have hA := x3_new w (.int .i64 a) (.int .i64 b) (.int .i64 c) 76 w.heap.size rfl
    have hz : (w.alloc (.cells #[.int .i64 a, .int .i64 b, .int .i64 c] 76)).heap.size = w.heap.size + 1 := by simp
    obtain ⟨w1, hV1⟩ : ∃ V, w.alloc (.cells #[.int .i64 a, .int .i64 b, .int .i64 c] 76) = V := ⟨_, rfl⟩
    rw [hV1] at hHB hA hz
    have HB_1 : Hid (Below w.heap.size w w1) := hHB
    have A_1 : Hid (X3 w1 w.heap.size (.int .i64 a) (.int .i64 b) (.int .i64 c)) := hA
    have z1 : w.heap.size + 1 ≤ w1.heap.size := by omega
    clear HB_0 hHB hA hz
    have hHB := HB_1.out.alloc HB_1.out.size (.cells #[.int .i64 0, .int .i64 0, .int .i64 0, .int .i64 0, .bool false] 82)
    have hA := A_1.out.later (balloc w1 (.cells #[.int .i64 0, .int .i64 0, .int .i64 0, .int .i64 0, .bool false] 82))
    have hR := x5_new w1 (.int .i64 0) (.int .i64 0) (.int .i64 0) (.int .i64 0) (.bool false) 82 w1.heap.size rfl
    have hz : (w1.alloc (.cells #[.int .i64 0, .int .i64 0, .int .i64 0, .int .i64 0, .bool false] 82)).heap.size = w1.heap.size + 1 := by simp
    obtain ⟨w2, hV2⟩ : ∃ V, w1.alloc (.cells #[.int .i64 0, .int .i64 0, .int .i64 0, .int .i64 0, .bool false] 82) = V := ⟨_, rfl⟩
    rw [hV2] at hHB hA hR hz
    have HB_2 : Hid (Below w.heap.size w w2) := hHB
    have A_2 : Hid (X3 w2 w.heap.size (.int .i64 a) (.int .i64 b) (.int .i64 c)) := hA
    have R_2 : Hid (X5 w2 w1.heap.size (.int .i64 0) (.int .i64 0) (.int .i64 0) (.int .i64 0) (.bool false)) := hR
    have z2 : w1.heap.size + 1 ≤ w2.heap.size := by omega
    clear HB_1 A_1 hHB hA hR hz
    go_enter Try.func58, Try.ntmps58
    obtain ⟨⟨Aq0, Aq1, Aq2⟩, Af⟩ := id (A_2.out)
    clear Af
    have hHB := HB_2.out.alloc HB_2.out.size (.cells #[.int .i64 s, .int .i64 a, .int .i64 b, .int .i64 c, .bool d] 82)
    have hA := A_2.out.later (balloc w2 (.cells #[.int .i64 s, .int .i64 a, .int .i64 b, .int .i64 c, .bool d] 82))
    have hR := R_2.out.later (balloc w2 (.cells #[.int .i64 s, .int .i64 a, .int .i64 b, .int .i64 c, .bool d] 82))
    have hM := x5_new w2 (.int .i64 s) (.int .i64 a) (.int .i64 b) (.int .i64 c) (.bool d) 82 w2.heap.size rfl
    have hz : (w2.alloc (.cells #[.int .i64 s, .int .i64 a, .int .i64 b, .int .i64 c, .bool d] 82)).heap.size = w2.heap.size + 1 := by simp
    obtain ⟨w3, hV3⟩ : ∃ V, w2.alloc (.cells #[.int .i64 s, .int .i64 a, .int .i64 b, .int .i64 c, .bool d] 82) = V := ⟨_, rfl⟩
    rw [hV3] at hHB hA hR hM hz
    have HB_3 : Hid (Below w.heap.size w w3) := hHB
    have A_3 : Hid (X3 w3 w.heap.size (.int .i64 a) (.int .i64 b) (.int .i64 c)) := hA
    have R_3 : Hid (X5 w3 w1.heap.size (.int .i64 0) (.int .i64 0) (.int .i64 0) (.int .i64 0) (.bool false)) := hR
    have M_3 : Hid (X5 w3 w2.heap.size (.int .i64 s) (.int .i64 a) (.int .i64 b) (.int .i64 c) (.bool d)) := hM
    have z3 : w2.heap.size + 1 ≤ w3.heap.size := by omega
    clear HB_2 A_2 R_2 hHB hA hR hM hz
    obtain ⟨⟨Mq0, Mq1, Mq2, Mq3, Mq4⟩, Mf⟩ := id (M_3.out)
    clear Mf
    go_wp2_with fail
    clear hV1 hV2 hV3
    refine (q1 _).mono ?_
    rintro e w4 ⟨rfl, hb⟩
    have hB : Below w3.heap.size w3 w4 := hb
    have HB_4 : Hid (Below w.heap.size w w4) := HB_3.out.trans (hB.mono HB_3.out.size)
    have A_4 : Hid (X3 w4 w.heap.size (.int .i64 a) (.int .i64 b) (.int .i64 c)) := A_3.out.later hB
    have R_4 : Hid (X5 w4 w1.heap.size (.int .i64 0) (.int .i64 0) (.int .i64 0) (.int .i64 0) (.bool false)) := R_3.out.later hB
    have M_4 : Hid (X5 w4 w2.heap.size (.int .i64 s) (.int .i64 a) (.int .i64 b) (.int .i64 c) (.bool d)) := M_3.out.later hB
    have z4 : w3.heap.size ≤ w4.heap.size := hB.size
    clear hb hB HB_3 A_3 R_3 M_3 
    try clear Aq0 Aq1 Aq2
    try clear Mq0 Mq1 Mq2 Mq3 Mq4
    have hF0 := R_4.out
    have hF := (((((hF0.set0 (.int .i64 0)).set1 (.int .i64 0)).set2 (.int .i64 0)).set3 (.int .i64 0)).set4 (.bool false))
    have hB2 : Below w.heap.size w (((((w4.setCell ⟨w1.heap.size, 0, none⟩ (.int .i64 0)).setCell ⟨w1.heap.size, 1, none⟩ (.int .i64 0)).setCell ⟨w1.heap.size, 2, none⟩ (.int .i64 0)).setCell ⟨w1.heap.size, 3, none⟩ (.int .i64 0)).setCell ⟨w1.heap.size, 4, none⟩ (.bool false)) := (((((HB_4.out.setCell (by show w.heap.size ≤ w1.heap.size; omega) (.int .i64 0)).setCell (by show w.heap.size ≤ w1.heap.size; omega) (.int .i64 0)).setCell (by show w.heap.size ≤ w1.heap.size; omega) (.int .i64 0)).setCell (by show w.heap.size ≤ w1.heap.size; omega) (.int .i64 0)).setCell (by show w.heap.size ≤ w1.heap.size; omega) (.bool false))
    obtain ⟨⟨r0, r1, r2, r3, r4⟩, rf⟩ := hF0
    have rf0 := rf 0
    have rf1 := rf 1
    have rf2 := rf 2
    have rf3 := rf 3
    have rf4 := rf 4
    have HF : Hid (X5 (((((w4.setCell ⟨w1.heap.size, 0, none⟩ (.int .i64 0)).setCell ⟨w1.heap.size, 1, none⟩ (.int .i64 0)).setCell ⟨w1.heap.size, 2, none⟩ (.int .i64 0)).setCell ⟨w1.heap.size, 3, none⟩ (.int .i64 0)).setCell ⟨w1.heap.size, 4, none⟩ (.bool false)) (w1.heap.size) (.int .i64 0) (.int .i64 0) (.int .i64 0) (.int .i64 0) (.bool false)) := hF
    have HB2 : Hid (Below w.heap.size w (((((w4.setCell ⟨w1.heap.size, 0, none⟩ (.int .i64 0)).setCell ⟨w1.heap.size, 1, none⟩ (.int .i64 0)).setCell ⟨w1.heap.size, 2, none⟩ (.int .i64 0)).setCell ⟨w1.heap.size, 3, none⟩ (.int .i64 0)).setCell ⟨w1.heap.size, 4, none⟩ (.bool false))) := hB2
    clear rf hF hB2
    go_wp2
    obtain ⟨V, hV⟩ : ∃ V, (((((w4.setCell ⟨w1.heap.size, 0, none⟩ (.int .i64 0)).setCell ⟨w1.heap.size, 1, none⟩ (.int .i64 0)).setCell ⟨w1.heap.size, 2, none⟩ (.int .i64 0)).setCell ⟨w1.heap.size, 3, none⟩ (.int .i64 0)).setCell ⟨w1.heap.size, 4, none⟩ (.bool false)) = V := ⟨_, rfl⟩
    have hF := HF.out
    have hB2 := HB2.out
    clear HF HB2
    rw [hV] at hF hB2 ⊢
    clear hV r0 rf0 r1 rf1 r2 rf2 r3 rf3 r4 rf4
    obtain ⟨⟨c0, c1, c2, c3, c4⟩, _⟩ := hF
    refine bodyPost_ret (v := .tuple #[.agg #[.int .i64 0, .int .i64 0, .int .i64 0, .int .i64 0, .bool false], .bool false]) (by simp [results, Try.results58, go_sem, c0, c1, c2, c3, c4]; try rfl) rfl ?_
    exact ⟨rfl, hB2⟩
  case true =>
    simp only [if_true]
    have HB_0 : Hid (Below w.heap.size w w) := Below.refl _ _
    have hHB := HB_0.out.alloc HB_0.out.size (.cells #[.int .i64 a, .int .i64 b, .int .i64 c] 76)
    have hA := x3_new w (.int .i64 a) (.int .i64 b) (.int .i64 c) 76 w.heap.size rfl
    have hz : (w.alloc (.cells #[.int .i64 a, .int .i64 b, .int .i64 c] 76)).heap.size = w.heap.size + 1 := by simp
    obtain ⟨w1, hV1⟩ : ∃ V, w.alloc (.cells #[.int .i64 a, .int .i64 b, .int .i64 c] 76) = V := ⟨_, rfl⟩
    rw [hV1] at hHB hA hz
    have HB_1 : Hid (Below w.heap.size w w1) := hHB
    have A_1 : Hid (X3 w1 w.heap.size (.int .i64 a) (.int .i64 b) (.int .i64 c)) := hA
    have z1 : w.heap.size + 1 ≤ w1.heap.size := by omega
    clear HB_0 hHB hA hz
    have hHB := HB_1.out.alloc HB_1.out.size (.cells #[.int .i64 0, .int .i64 0, .int .i64 0, .int .i64 0, .bool false] 82)
    have hA := A_1.out.later (balloc w1 (.cells #[.int .i64 0, .int .i64 0, .int .i64 0, .int .i64 0, .bool false] 82))
    have hR := x5_new w1 (.int .i64 0) (.int .i64 0) (.int .i64 0) (.int .i64 0) (.bool false) 82 w1.heap.size rfl
    have hz : (w1.alloc (.cells #[.int .i64 0, .int .i64 0, .int .i64 0, .int .i64 0, .bool false] 82)).heap.size = w1.heap.size + 1 := by simp
    obtain ⟨w2, hV2⟩ : ∃ V, w1.alloc (.cells #[.int .i64 0, .int .i64 0, .int .i64 0, .int .i64 0, .bool false] 82) = V := ⟨_, rfl⟩
    rw [hV2] at hHB hA hR hz
    have HB_2 : Hid (Below w.heap.size w w2) := hHB
    have A_2 : Hid (X3 w2 w.heap.size (.int .i64 a) (.int .i64 b) (.int .i64 c)) := hA
    have R_2 : Hid (X5 w2 w1.heap.size (.int .i64 0) (.int .i64 0) (.int .i64 0) (.int .i64 0) (.bool false)) := hR
    have z2 : w1.heap.size + 1 ≤ w2.heap.size := by omega
    clear HB_1 A_1 hHB hA hR hz
    go_enter Try.func58, Try.ntmps58
    obtain ⟨⟨Aq0, Aq1, Aq2⟩, Af⟩ := id (A_2.out)
    clear Af
    have hHB := HB_2.out.alloc HB_2.out.size (.cells #[.int .i64 s, .int .i64 a, .int .i64 b, .int .i64 c, .bool d] 82)
    have hA := A_2.out.later (balloc w2 (.cells #[.int .i64 s, .int .i64 a, .int .i64 b, .int .i64 c, .bool d] 82))
    have hR := R_2.out.later (balloc w2 (.cells #[.int .i64 s, .int .i64 a, .int .i64 b, .int .i64 c, .bool d] 82))
    have hM := x5_new w2 (.int .i64 s) (.int .i64 a) (.int .i64 b) (.int .i64 c) (.bool d) 82 w2.heap.size rfl
    have hz : (w2.alloc (.cells #[.int .i64 s, .int .i64 a, .int .i64 b, .int .i64 c, .bool d] 82)).heap.size = w2.heap.size + 1 := by simp
    obtain ⟨w3, hV3⟩ : ∃ V, w2.alloc (.cells #[.int .i64 s, .int .i64 a, .int .i64 b, .int .i64 c, .bool d] 82) = V := ⟨_, rfl⟩
    rw [hV3] at hHB hA hR hM hz
    have HB_3 : Hid (Below w.heap.size w w3) := hHB
    have A_3 : Hid (X3 w3 w.heap.size (.int .i64 a) (.int .i64 b) (.int .i64 c)) := hA
    have R_3 : Hid (X5 w3 w1.heap.size (.int .i64 0) (.int .i64 0) (.int .i64 0) (.int .i64 0) (.bool false)) := hR
    have M_3 : Hid (X5 w3 w2.heap.size (.int .i64 s) (.int .i64 a) (.int .i64 b) (.int .i64 c) (.bool d)) := hM
    have z3 : w2.heap.size + 1 ≤ w3.heap.size := by omega
    clear HB_2 A_2 R_2 hHB hA hR hM hz
    obtain ⟨⟨Mq0, Mq1, Mq2, Mq3, Mq4⟩, Mf⟩ := id (M_3.out)
    clear Mf
    go_wp2_with fail
    clear hV1 hV2 hV3
    refine (q1 _).mono ?_
    rintro e w4 ⟨rfl, hb⟩
    have hB : Below w3.heap.size w3 w4 := hb
    have HB_4 : Hid (Below w.heap.size w w4) := HB_3.out.trans (hB.mono HB_3.out.size)
    have A_4 : Hid (X3 w4 w.heap.size (.int .i64 a) (.int .i64 b) (.int .i64 c)) := A_3.out.later hB
    have R_4 : Hid (X5 w4 w1.heap.size (.int .i64 0) (.int .i64 0) (.int .i64 0) (.int .i64 0) (.bool false)) := R_3.out.later hB
    have M_4 : Hid (X5 w4 w2.heap.size (.int .i64 s) (.int .i64 a) (.int .i64 b) (.int .i64 c) (.bool d)) := M_3.out.later hB
    have z4 : w3.heap.size ≤ w4.heap.size := hB.size
    clear hb hB HB_3 A_3 R_3 M_3 
    try clear Aq0 Aq1 Aq2
    try clear Mq0 Mq1 Mq2 Mq3 Mq4
    obtain ⟨⟨Mq0, Mq1, Mq2, Mq3, Mq4⟩, Mf⟩ := id (M_4.out)
    clear Mf
    have hF0 := R_4.out
    have hF := (((((hF0.set0 (.int .i64 s)).set1 (.int .i64 a)).set2 (.int .i64 b)).set3 (.int .i64 c)).set4 (.bool d))
    have hB2 : Below w.heap.size w (((((w4.setCell ⟨w1.heap.size, 0, none⟩ (.int .i64 s)).setCell ⟨w1.heap.size, 1, none⟩ (.int .i64 a)).setCell ⟨w1.heap.size, 2, none⟩ (.int .i64 b)).setCell ⟨w1.heap.size, 3, none⟩ (.int .i64 c)).setCell ⟨w1.heap.size, 4, none⟩ (.bool d)) := (((((HB_4.out.setCell (by show w.heap.size ≤ w1.heap.size; omega) (.int .i64 s)).setCell (by show w.heap.size ≤ w1.heap.size; omega) (.int .i64 a)).setCell (by show w.heap.size ≤ w1.heap.size; omega) (.int .i64 b)).setCell (by show w.heap.size ≤ w1.heap.size; omega) (.int .i64 c)).setCell (by show w.heap.size ≤ w1.heap.size; omega) (.bool d))
    obtain ⟨⟨r0, r1, r2, r3, r4⟩, rf⟩ := hF0
    have rf0 := rf 0
    have rf1 := rf 1
    have rf2 := rf 2
    have rf3 := rf 3
    have rf4 := rf 4
    have HF : Hid (X5 (((((w4.setCell ⟨w1.heap.size, 0, none⟩ (.int .i64 s)).setCell ⟨w1.heap.size, 1, none⟩ (.int .i64 a)).setCell ⟨w1.heap.size, 2, none⟩ (.int .i64 b)).setCell ⟨w1.heap.size, 3, none⟩ (.int .i64 c)).setCell ⟨w1.heap.size, 4, none⟩ (.bool d)) (w1.heap.size) (.int .i64 s) (.int .i64 a) (.int .i64 b) (.int .i64 c) (.bool d)) := hF
    have HB2 : Hid (Below w.heap.size w (((((w4.setCell ⟨w1.heap.size, 0, none⟩ (.int .i64 s)).setCell ⟨w1.heap.size, 1, none⟩ (.int .i64 a)).setCell ⟨w1.heap.size, 2, none⟩ (.int .i64 b)).setCell ⟨w1.heap.size, 3, none⟩ (.int .i64 c)).setCell ⟨w1.heap.size, 4, none⟩ (.bool d))) := hB2
    clear rf hF hB2
    go_wp2
    obtain ⟨V, hV⟩ : ∃ V, (((((w4.setCell ⟨w1.heap.size, 0, none⟩ (.int .i64 s)).setCell ⟨w1.heap.size, 1, none⟩ (.int .i64 a)).setCell ⟨w1.heap.size, 2, none⟩ (.int .i64 b)).setCell ⟨w1.heap.size, 3, none⟩ (.int .i64 c)).setCell ⟨w1.heap.size, 4, none⟩ (.bool d)) = V := ⟨_, rfl⟩
    have hF := HF.out
    have hB2 := HB2.out
    clear HF HB2
    rw [hV] at hF hB2 ⊢
    clear hV r0 rf0 r1 rf1 r2 rf2 r3 rf3 r4 rf4
    obtain ⟨⟨c0, c1, c2, c3, c4⟩, _⟩ := hF
    refine bodyPost_ret (v := .tuple #[.agg #[.int .i64 s, .int .i64 a, .int .i64 b, .int .i64 c, .bool d], .bool true]) (by simp [results, Try.results58, go_sem, c0, c1, c2, c3, c4]; try rfl) rfl ?_
    exact ⟨rfl, hB2⟩

end Go.Proofs.Ytleddlfojogdiaa
