/- Chapter 10: the small functions of both sides. -/
import Derived.Test.YteopaocomfepfaaP10
namespace Go.Proofs.Yteopaocomfepfaa
set_option linter.unusedVariables false
set_option maxRecDepth 1000000
set_option linter.unusedSimpArgs false
open Go.RowKit

theorem isWays_c (n : Int) (w : World) : Calls Try.prog 64 #[.int .i64 n] w fun e w' => e = .returned (.bool (waysB n)) ∧ w' = w := by
  unfold waysB
  by_cases h1 : 1 ≤ n
  · by_cases h2 : n ≤ 4
    · rw [decide_eq_true ⟨h1, h2⟩]
      go_enter Try.func64, Try.ntmps64
      go_wp2
      go_ret
      exact ⟨rfl, rfl⟩
    · rw [decide_eq_false (by omega)]
      go_enter Try.func64, Try.ntmps64
      go_wp2
      go_ret
      exact ⟨rfl, rfl⟩
  · rw [decide_eq_false (by omega)]
    go_enter Try.func64, Try.ntmps64
    go_wp2
    go_ret
    exact ⟨rfl, rfl⟩

theorem isSaying_c (s : ByteArray) (w : World) (hs : s.size ≤ 9223372036854775807) : Calls Try.prog 73 #[.string s] w fun e w' => e = .returned (.bool (sayB s)) ∧ w' = w := by
  have e : sayB s = decide ((s.size : Int) ≤ 15) := by unfold sayB; exact decide_eq_decide.2 (by omega)
  rw [e]
  by_cases h : (s.size : Int) ≤ 15
  · rw [decide_eq_true h]
    go_enter Try.func73, Try.ntmps73
    go_wp2
    go_ret
    exact ⟨rfl, rfl⟩
  · rw [decide_eq_false h]
    go_enter Try.func73, Try.ntmps73
    go_wp2
    go_ret
    exact ⟨rfl, rfl⟩

theorem l10Text_c (s : ByteArray) (w : World) (hs : s.size ≤ 9223372036854775807) : Calls Try.prog 74 #[.string s] w fun e w' => e = .returned (.bool (sayB s)) ∧ w' = w := by
  have e : sayB s = decide ((s.size : Int) ≤ 15) := by unfold sayB; exact decide_eq_decide.2 (by omega)
  rw [e]
  by_cases h : (s.size : Int) ≤ 15
  · rw [decide_eq_true h]
    go_enter Try.func74, Try.ntmps74
    go_wp2
    go_ret
    exact ⟨rfl, rfl⟩
  · rw [decide_eq_false h]
    go_enter Try.func74, Try.ntmps74
    go_wp2
    go_ret
    exact ⟨rfl, rfl⟩

theorem toList_empty : ByteArray.empty.toList = [] := by rw [ByteArray.toList_eq]; rfl
theorem text_is {s : ByteArray} (h : s = ByteArray.empty) : (s.toList == ([] : List UInt8)) = true := by subst h; rw [toList_empty]; rfl
theorem text_not {s : ByteArray} (h : ¬ s = ByteArray.empty) : (s.toList == ([] : List UInt8)) = false := by
  rw [beq_eq_false_iff_ne]
  exact fun e => h (tl_inj (e.trans toList_empty.symm))

set_option maxHeartbeats 1000000 in
theorem isPlainTick_c (k : Int) (s : ByteArray) (w : World) : Calls Try.prog 63 #[.agg #[.int .i64 k, .string s]] w fun e w' => e = .returned (.bool (tickB k s)) ∧ Below w.heap.size w w' := by
  unfold tickB
  by_cases h1 : k = 2
  · subst h1
    by_cases h2 : s = ByteArray.empty
    · subst h2
      rw [decide_eq_true rfl, decide_eq_true rfl]
      go_enter Try.func63, Try.ntmps63
      go_wp2
      go_ret
      exact ⟨rfl, balloc w _⟩
    · have e := text_not h2
      rw [decide_eq_false h2, Bool.and_false]
      clear h2
      go_enter Try.func63, Try.ntmps63
      go_wp2
      go_ret
      exact ⟨rfl, balloc w _⟩
  · have e : (k == 2) = false := by rw [beq_eq_false_iff_ne]; exact h1
    rw [decide_eq_false h1, Bool.false_and]
    clear h1
    go_enter Try.func63, Try.ntmps63
    go_wp2
    go_ret
    exact ⟨rfl, balloc w _⟩

set_option maxHeartbeats 1000000 in
theorem emitAt_c (t y : Int) (w : World) (h0 : 0 ≤ t) (h1 : t ≤ 1000) (h2 : 1 ≤ y) (h3 : y ≤ 4) : Calls Try.prog 65 #[.int .i64 t, .int .i64 y] w fun e w' => e = .returned (.agg #[.int .i64 t, .int .i64 (t % y), .int .i64 24]) ∧ Below w.heap.size w w' := by
  have hm : t.tmod y = t % y := Int.tmod_eq_emod_of_nonneg h0
  have hz : (y == 0) = false := by rw [beq_eq_false_iff_ne]; omega
  have hr0 : 0 ≤ t % y := Int.emod_nonneg _ (by omega)
  have hr1 : t % y < y := Int.emod_lt_of_pos _ (by omega)
  generalize t % y = r at hm hr0 hr1 ⊢
  go_enter Try.func65, Try.ntmps65
  go_wp2
  refine bodyPost_ret (v := .agg #[.int .i64 t, .int .i64 r, .int .i64 24]) (by simp [results, Try.results65, go_sem, ]; try rfl) rfl ?_
  exact ⟨rfl, (balloc w _)⟩

set_option maxHeartbeats 1000000 in
theorem l10Emit_c (t y : Int) (w : World) (h0 : 0 ≤ t) (h1 : t ≤ 1000) (h2 : 1 ≤ y) (h3 : y ≤ 4) : Calls Try.prog 68 #[.int .i64 y, .int .i64 t] w fun e w' => e = .returned (.agg #[.int .i64 t, .int .i64 (t % y), .int .i64 24]) ∧ Below w.heap.size w w' := by
  have hm : t.tmod y = t % y := Int.tmod_eq_emod_of_nonneg h0
  have hz : (y == 0) = false := by rw [beq_eq_false_iff_ne]; omega
  have hr0 : 0 ≤ t % y := Int.emod_nonneg _ (by omega)
  have hr1 : t % y < y := Int.emod_lt_of_pos _ (by omega)
  generalize t % y = r at hm hr0 hr1 ⊢
  go_enter Try.func68, Try.ntmps68
  go_wp2
  refine bodyPost_ret (v := .agg #[.int .i64 t, .int .i64 r, .int .i64 24]) (by simp [results, Try.results68, go_sem, ]; try rfl) rfl ?_
  exact ⟨rfl, (balloc w _)⟩

theorem implNew_c (n : Int) (w : World) : Calls Try.prog 33 #[.int .i64 n] w fun e w' => e = .returned (.tuple #[.agg #[.slice none 0 0, .int .i64 0, .int .i64 (if waysB n = true then n else 0)], .bool (waysB n)]) ∧ Below w.heap.size w w' := by
  have q := fun wx => isWays_c n wx
  cases hb : waysB n with
  | true =>
    rw [hb] at q
    rw [if_pos rfl]
    go_enter Try.func33, Try.ntmps33
    go_wp2_with fail
    refine (q _).mono ?_
    clear q
    rintro e w' ⟨rfl, hw⟩
    subst w'
    go_wp2
    refine bodyPost_ret (v := .tuple #[.agg #[.slice none 0 0, .int .i64 0, .int .i64 n], .bool true]) (by simp [results, Try.results33, go_sem]; try rfl) rfl ?_
    exact ⟨rfl, (balloc w _)⟩
  | false =>
    rw [hb] at q
    rw [if_neg (by simp)]
    go_enter Try.func33, Try.ntmps33
    go_wp2_with fail
    refine (q _).mono ?_
    clear q
    rintro e w' ⟨rfl, hw⟩
    subst w'
    go_wp2
    refine bodyPost_ret (v := .tuple #[.agg #[.slice none 0 0, .int .i64 0, .int .i64 0], .bool false]) (by simp [results, Try.results33, go_sem]; try rfl) rfl ?_
    exact ⟨rfl, (balloc w _)⟩

theorem specNew_c (n : Int) (w : World) : Calls Try.prog 34 #[.int .i64 n] w fun e w' => e = .returned (.tuple #[.agg #[.slice none 0 0, .int .i64 0, .int .i64 (if waysB n = true then n else 0)], .bool (waysB n)]) ∧ Below w.heap.size w w' := by
  have q : ∀ wx, Calls Try.prog 67 #[.int .i64 n, .int .i64 1, .int .i64 4] wx fun e w' => e = .returned (.bool (waysB n)) ∧ w' = wx := fun wx => l1In_c n 1 4 wx
  cases hb : waysB n with
  | true =>
    rw [hb] at q
    rw [if_pos rfl]
    go_enter Try.func34, Try.ntmps34
    go_wp2_with fail
    refine (q _).mono ?_
    clear q
    rintro e w' ⟨rfl, hw⟩
    subst w'
    go_wp2
    refine bodyPost_ret (v := .tuple #[.agg #[.slice none 0 0, .int .i64 0, .int .i64 n], .bool true]) (by simp [results, Try.results34, go_sem]; try rfl) rfl ?_
    exact ⟨rfl, (balloc w _)⟩
  | false =>
    rw [hb] at q
    rw [if_neg (by simp)]
    go_enter Try.func34, Try.ntmps34
    go_wp2_with fail
    refine (q _).mono ?_
    clear q
    rintro e w' ⟨rfl, hw⟩
    subst w'
    go_wp2
    refine bodyPost_ret (v := .tuple #[.agg #[.slice none 0 0, .int .i64 0, .int .i64 0], .bool false]) (by simp [results, Try.results34, go_sem]; try rfl) rfl ?_
    exact ⟨rfl, (balloc w _)⟩

end Go.Proofs.Yteopaocomfepfaa
