/- Chapter 11: CheckReceipt of both sides. -/
import Derived.Test.YtdhnolafkgkliaaDoorB11
namespace Go.Proofs.YtdhnolafkgkliaaDoor
set_option linter.unusedVariables false
set_option maxRecDepth 1000000
set_option linter.unusedSimpArgs false
open Go.RowKit

theorem rec_parts {a b c d : Int} (h : recB (a, b, c, d) = true) : (-1 ≤ a ∧ a ≤ 4) ∧ b = a + 1 ∧ (0 ≤ c ∧ c ≤ 1000) ∧ 0 ≤ d ∧ d ≤ 1498 := by simpa [recB, letB] using h

theorem right_no {p : Int} {r : Rc} (h : checkB p r = false) : rightB p r = false := by unfold rightB; rw [h]; rfl

theorem right_yes {p : Int} {r : Rc} (h : checkB p r = true) : rightB p r = chkR p r := by unfold rightB; rw [h]; rfl

set_option maxHeartbeats 4000000 in
theorem specCheck_c (p a b c d : Int) (w : World) : Calls Tryd.prog 29 #[.int .i64 p, .agg #[.int .i64 a, .int .i64 b, .int .i64 c, .int .i64 d]] w fun e w' => e = .returned (.tuple #[.bool (rightB p (a, b, c, d)), .bool (checkB p (a, b, c, d))]) ∧ Below w.heap.size w w' := by
  have c1 := fun wx => specMember_c p wx
  have c2 := fun wx => l11Receipt_c a b c d wx
  by_cases h1 : memB p = true
  case neg =>
    rw [Bool.not_eq_true] at h1
    have hc : checkB p (a, b, c, d) = false := by unfold checkB; rw [h1]; rfl
    rw [right_no hc, hc]
    rw [h1] at c1
    clear hc h1 c2
    have HX0 : Hid (X4 (w.alloc (.cells #[.int .i64 a, .int .i64 b, .int .i64 c, .int .i64 d] 43)) w.heap.size (.int .i64 a) (.int .i64 b) (.int .i64 c) (.int .i64 d)) := x4_new w _ _ _ _ _ _ rfl
    have HB0 : Hid (Below w.heap.size w (w.alloc (.cells #[.int .i64 a, .int .i64 b, .int .i64 c, .int .i64 d] 43))) := balloc w _
    obtain ⟨V0, hV0⟩ : ∃ V, w.alloc (.cells #[.int .i64 a, .int .i64 b, .int .i64 c, .int .i64 d] 43) = V := ⟨_, rfl⟩
    rw [hV0] at HX0 HB0
    obtain ⟨⟨q0, q1, q2, q3⟩, qf⟩ := id HX0.out
    clear qf
    go_enter Tryd.func29, Tryd.ntmps29
    go_wp2_with fail
    refine (c1 _).mono ?_
    rintro e w' ⟨rfl, hw⟩
    subst w'
    go_wp2
    refine bodyPost_ret (v := .tuple #[.bool false, .bool false]) (by simp [results, Tryd.results29, go_sem]; try rfl) rfl ?_
    exact ⟨rfl, HB0.out⟩
  by_cases h2 : recB (a, b, c, d) = true
  case neg =>
    rw [Bool.not_eq_true] at h2
    have hc : checkB p (a, b, c, d) = false := by unfold checkB; rw [h2]; simp
    rw [right_no hc, hc]
    rw [h1] at c1
    rw [h2] at c2
    clear hc h1 h2
    have HX0 : Hid (X4 (w.alloc (.cells #[.int .i64 a, .int .i64 b, .int .i64 c, .int .i64 d] 43)) w.heap.size (.int .i64 a) (.int .i64 b) (.int .i64 c) (.int .i64 d)) := x4_new w _ _ _ _ _ _ rfl
    have HB0 : Hid (Below w.heap.size w (w.alloc (.cells #[.int .i64 a, .int .i64 b, .int .i64 c, .int .i64 d] 43))) := balloc w _
    obtain ⟨V0, hV0⟩ : ∃ V, w.alloc (.cells #[.int .i64 a, .int .i64 b, .int .i64 c, .int .i64 d] 43) = V := ⟨_, rfl⟩
    rw [hV0] at HX0 HB0
    obtain ⟨⟨q0, q1, q2, q3⟩, qf⟩ := id HX0.out
    clear qf
    go_enter Tryd.func29, Tryd.ntmps29
    go_wp2_with fail
    refine (c1 _).mono ?_
    rintro e w' ⟨rfl, hw⟩
    subst w'
    go_wp2_with fail
    refine (c2 _).mono ?_
    rintro e w1 ⟨rfl, hb⟩
    have HB1 : Hid (Below w.heap.size w w1) := HB0.out.trans (hb.mono HB0.out.size)
    clear hb
    go_wp2
    refine bodyPost_ret (v := .tuple #[.bool false, .bool false]) (by simp [results, Tryd.results29, go_sem]; try rfl) rfl ?_
    exact ⟨rfl, HB1.out⟩
  have hc : checkB p (a, b, c, d) = true := by unfold checkB; rw [h1, h2]; rfl
  have hp := memB_in h1
  have hrp := rec_parts h2
  rw [right_yes hc, hc]
  rw [h1] at c1
  rw [h2] at c2
  have c3 := fun wx => l11Check_c p a b c d wx (by omega) h2
  generalize chkR p (a, b, c, d) = rb at c3 ⊢
  clear hc h1 h2 hp hrp
  have HX0 : Hid (X4 (w.alloc (.cells #[.int .i64 a, .int .i64 b, .int .i64 c, .int .i64 d] 43)) w.heap.size (.int .i64 a) (.int .i64 b) (.int .i64 c) (.int .i64 d)) := x4_new w _ _ _ _ _ _ rfl
  have HB0 : Hid (Below w.heap.size w (w.alloc (.cells #[.int .i64 a, .int .i64 b, .int .i64 c, .int .i64 d] 43))) := balloc w _
  obtain ⟨V0, hV0⟩ : ∃ V, w.alloc (.cells #[.int .i64 a, .int .i64 b, .int .i64 c, .int .i64 d] 43) = V := ⟨_, rfl⟩
  rw [hV0] at HX0 HB0
  obtain ⟨⟨q0, q1, q2, q3⟩, qf⟩ := id HX0.out
  clear qf
  go_enter Tryd.func29, Tryd.ntmps29
  go_wp2_with fail
  refine (c1 _).mono ?_
  rintro e w' ⟨rfl, hw⟩
  subst w'
  go_wp2_with fail
  refine (c2 _).mono ?_
  rintro e w1 ⟨rfl, hb⟩
  have HB1 : Hid (Below w.heap.size w w1) := HB0.out.trans (hb.mono HB0.out.size)
  have HX1 : Hid (X4 w1 w.heap.size (.int .i64 a) (.int .i64 b) (.int .i64 c) (.int .i64 d)) := HX0.out.later hb
  clear hb q0 q1 q2 q3 hV0
  obtain ⟨⟨q0, q1, q2, q3⟩, qf⟩ := id HX1.out
  clear qf
  go_wp2_with fail
  refine (c3 _).mono ?_
  rintro e w2 ⟨rfl, hb⟩
  have HB2 : Hid (Below w.heap.size w w2) := HB1.out.trans (hb.mono HB1.out.size)
  clear hb
  go_wp2
  refine bodyPost_ret (v := .tuple #[.bool rb, .bool true]) (by simp [results, Tryd.results29, go_sem]; try rfl) rfl ?_
  exact ⟨rfl, HB2.out⟩

end Go.Proofs.YtdhnolafkgkliaaDoor
