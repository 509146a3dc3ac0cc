/- Chapter 8: NewMix of both sides. -/
import Derived.Test.YtnppmgnfignbcaaA8
namespace Go.Proofs.Ytnppmgnfignbcaa
set_option linter.unusedVariables false
set_option maxRecDepth 1000000
set_option linter.unusedSimpArgs false
open Go.RowKit

theorem implNew_c (a b : Int) (w : World) : Calls Try.prog 34 #[.int .i64 a, .int .i64 b] w fun e w' =>
    e = .returned (.tuple #[.agg #[.slice none 0 0, .int .i64 (newM a b).least, .int .i64 (newM a b).wait, .int .i64 0, .slice none 0 0], .bool (newB a b)]) ∧ Below w.heap.size w w' := by
  unfold newM
  by_cases h : newB a b = true
  · rw [if_pos h, h]
    simp only [newB, decide_eq_true_eq] at h
    obtain ⟨⟨h1, h2⟩, h3, h4⟩ := h
    go_enter Try.func34, Try.ntmps34
    go_wp2
    refine bodyPost_ret (v := .tuple #[.agg #[.slice none 0 0, .int .i64 a, .int .i64 b, .int .i64 0, .slice none 0 0], .bool true]) (by simp [results, Try.results34, go_sem, results]; try rfl) rfl ?_
    exact ⟨rfl, balloc w _⟩
  · rw [if_neg h, show newB a b = false by simpa using h]
    show Calls _ _ _ _ fun e w' => e = .returned (.tuple #[.agg #[.slice none 0 0, .int .i64 0, .int .i64 0, .int .i64 0, .slice none 0 0], .bool false]) ∧ _
    have hn : ¬ ((1 ≤ a ∧ a ≤ 12) ∧ 1 ≤ b ∧ b ≤ 10) := by simpa [newB] using h
    clear h
    by_cases h1 : a < 1
    · clear hn
      go_enter Try.func34, Try.ntmps34
      go_wp2
      refine bodyPost_ret (v := .tuple #[.agg #[.slice none 0 0, .int .i64 0, .int .i64 0, .int .i64 0, .slice none 0 0], .bool false]) (by simp [results, Try.results34, go_sem, results]; try rfl) rfl ?_
      exact ⟨rfl, balloc w _⟩
    by_cases h2 : 12 < a
    · clear hn
      go_enter Try.func34, Try.ntmps34
      go_wp2
      refine bodyPost_ret (v := .tuple #[.agg #[.slice none 0 0, .int .i64 0, .int .i64 0, .int .i64 0, .slice none 0 0], .bool false]) (by simp [results, Try.results34, go_sem, results]; try rfl) rfl ?_
      exact ⟨rfl, balloc w _⟩
    by_cases h3 : b < 1
    · clear hn
      go_enter Try.func34, Try.ntmps34
      go_wp2
      refine bodyPost_ret (v := .tuple #[.agg #[.slice none 0 0, .int .i64 0, .int .i64 0, .int .i64 0, .slice none 0 0], .bool false]) (by simp [results, Try.results34, go_sem, results]; try rfl) rfl ?_
      exact ⟨rfl, balloc w _⟩
    have h4 : 10 < b := by omega
    clear hn
    go_enter Try.func34, Try.ntmps34
    go_wp2
    refine bodyPost_ret (v := .tuple #[.agg #[.slice none 0 0, .int .i64 0, .int .i64 0, .int .i64 0, .slice none 0 0], .bool false]) (by simp [results, Try.results34, go_sem, results]; try rfl) rfl ?_
    exact ⟨rfl, balloc w _⟩

theorem specNew_c (a b : Int) (w : World) : Calls Try.prog 35 #[.int .i64 a, .int .i64 b] w fun e w' =>
    e = .returned (.tuple #[.agg #[.slice none 0 0, .int .i64 (newM a b).least, .int .i64 (newM a b).wait, .int .i64 0, .slice none 0 0], .bool (newB a b)]) ∧ Below w.heap.size w w' := by
  have q1 : Hid (∀ wx, Calls Try.prog 85 #[.int .i64 a, .int .i64 1, .int .i64 12] wx fun e w' => e = .returned (.bool (decide (1 ≤ a ∧ a ≤ 12))) ∧ w' = wx) := fun wx => l1In_c a 1 12 wx
  have q2 : Hid (∀ wx, Calls Try.prog 85 #[.int .i64 b, .int .i64 1, .int .i64 10] wx fun e w' => e = .returned (.bool (decide (1 ≤ b ∧ b ≤ 10))) ∧ w' = wx) := fun wx => l1In_c b 1 10 wx
  unfold newM newB
  by_cases h1 : 1 ≤ a ∧ a ≤ 12
  · rw [decide_eq_true h1] at q1
    by_cases h2 : 1 ≤ b ∧ b ≤ 10
    · rw [decide_eq_true h2] at q2
      rw [decide_eq_true ⟨h1, h2⟩, if_pos rfl]
      clear h1 h2
      go_enter Try.func35, Try.ntmps35
      go_wp2_with (first | (go_at_call 85; refine (q1.out _).mono ?_; clear q1; rintro e w' ⟨rfl, hw⟩; subst w') | (go_at_call 85; refine (q2.out _).mono ?_; clear q2; rintro e w' ⟨rfl, hw⟩; subst w'))
      refine bodyPost_ret (v := .tuple #[.agg #[.slice none 0 0, .int .i64 a, .int .i64 b, .int .i64 0, .slice none 0 0], .bool true]) (by simp [results, Try.results35, go_sem, results]; try rfl) rfl ?_
      exact ⟨rfl, balloc w _⟩
    · rw [decide_eq_false h2] at q2
      rw [decide_eq_false (fun h => h2 h.2), if_neg (by simp)]
      clear h1 h2
      go_enter Try.func35, Try.ntmps35
      go_wp2_with (first | (go_at_call 85; refine (q1.out _).mono ?_; clear q1; rintro e w' ⟨rfl, hw⟩; subst w') | (go_at_call 85; refine (q2.out _).mono ?_; clear q2; rintro e w' ⟨rfl, hw⟩; subst w'))
      refine bodyPost_ret (v := .tuple #[.agg #[.slice none 0 0, .int .i64 0, .int .i64 0, .int .i64 0, .slice none 0 0], .bool false]) (by simp [results, Try.results35, go_sem, results]; try rfl) rfl ?_
      exact ⟨rfl, balloc w _⟩
  · rw [decide_eq_false h1] at q1
    rw [decide_eq_false (fun h => h1 h.1), if_neg (by simp)]
    clear h1
    go_enter Try.func35, Try.ntmps35
    go_wp2_with (go_at_call 85; refine (q1.out _).mono ?_; clear q1; rintro e w' ⟨rfl, hw⟩; subst w')
    refine bodyPost_ret (v := .tuple #[.agg #[.slice none 0 0, .int .i64 0, .int .i64 0, .int .i64 0, .slice none 0 0], .bool false]) (by simp [results, Try.results35, go_sem, results]; try rfl) rfl ?_
    exact ⟨rfl, balloc w _⟩

end Go.Proofs.Ytnppmgnfignbcaa
