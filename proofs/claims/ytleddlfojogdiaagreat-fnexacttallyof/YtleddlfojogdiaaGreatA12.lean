/- Chapter 12: small functions; GoodClaim, StateFor of both sides; lists of statements looked at. -/
import Derived.Test.YtleddlfojogdiaaGreatP12
import Derived.Test.YtleddlfojogdiaaGreatS12
namespace Go.Proofs.YtleddlfojogdiaaGreat
set_option linter.unusedVariables false
set_option maxRecDepth 1000000
set_option linter.unusedSimpArgs false
open Go.RowKit

theorem l1In_c (x lo hi : Int) (w : World) :
    Calls Tryz.prog 38 #[.int .i64 x, .int .i64 lo, .int .i64 hi] w fun e w' => e = .returned (.bool (inB x lo hi)) ∧ w' = w := by
  by_cases h1 : lo ≤ x
  · by_cases h2 : x ≤ hi
    · rw [show inB x lo hi = true from decide_eq_true ⟨h1, h2⟩]
      go_enter Tryz.func38, Tryz.ntmps38
      go_wp2
      go_ret
      exact ⟨rfl, rfl⟩
    · rw [show inB x lo hi = false from decide_eq_false (by omega)]
      go_enter Tryz.func38, Tryz.ntmps38
      go_wp2
      go_ret
      exact ⟨rfl, rfl⟩
  · rw [show inB x lo hi = false from decide_eq_false (by omega)]
    go_enter Tryz.func38, Tryz.ntmps38
    go_wp2
    go_ret
    exact ⟨rfl, rfl⟩

theorem isLetterNumber_c (x : Int) (w : World) : Calls Tryz.prog 59 #[.int .i64 x] w fun e w' => e = .returned (.bool (inB x 0 1000)) ∧ w' = w := by
  by_cases h1 : 0 ≤ x
  · by_cases h2 : x ≤ 1000
    · have h3 : x < 1001 := by omega
      rw [show inB x 0 1000 = true from decide_eq_true ⟨h1, h2⟩]
      go_enter Tryz.func59, Tryz.ntmps59
      go_wp2
      go_ret
      exact ⟨rfl, rfl⟩
    · have h3 : ¬ x < 1001 := by omega
      rw [show inB x 0 1000 = false from decide_eq_false (by omega)]
      go_enter Tryz.func59, Tryz.ntmps59
      go_wp2
      go_ret
      exact ⟨rfl, rfl⟩
  · rw [show inB x 0 1000 = false from decide_eq_false (by omega)]
    go_enter Tryz.func59, Tryz.ntmps59
    go_wp2
    go_ret
    exact ⟨rfl, rfl⟩

theorem isWitness_c (x : Int) (w : World) : Calls Tryz.prog 82 #[.int .i64 x] w fun e w' => e = .returned (.bool (inB x 0 6)) ∧ w' = w := by
  by_cases h1 : 0 ≤ x
  · by_cases h2 : x ≤ 6
    · have h3 : x < 7 := by omega
      rw [show inB x 0 6 = true from decide_eq_true ⟨h1, h2⟩]
      go_enter Tryz.func82, Tryz.ntmps82
      go_wp2
      go_ret
      exact ⟨rfl, rfl⟩
    · have h3 : ¬ x < 7 := by omega
      rw [show inB x 0 6 = false from decide_eq_false (by omega)]
      go_enter Tryz.func82, Tryz.ntmps82
      go_wp2
      go_ret
      exact ⟨rfl, rfl⟩
  · rw [show inB x 0 6 = false from decide_eq_false (by omega)]
    go_enter Tryz.func82, Tryz.ntmps82
    go_wp2
    go_ret
    exact ⟨rfl, rfl⟩

theorem isFaults_c (x : Int) (w : World) : Calls Tryz.prog 32 #[.int .i64 x] w fun e w' => e = .returned (.bool (inB x 0 2)) ∧ w' = w := by
  by_cases h1 : 0 ≤ x
  · by_cases h2 : x ≤ 2
    · have h3 : x < 3 := by omega
      rw [show inB x 0 2 = true from decide_eq_true ⟨h1, h2⟩]
      go_enter Tryz.func32, Tryz.ntmps32
      go_wp2
      go_ret
      exact ⟨rfl, rfl⟩
    · have h3 : ¬ x < 3 := by omega
      rw [show inB x 0 2 = false from decide_eq_false (by omega)]
      go_enter Tryz.func32, Tryz.ntmps32
      go_wp2
      go_ret
      exact ⟨rfl, rfl⟩
  · rw [show inB x 0 2 = false from decide_eq_false (by omega)]
    go_enter Tryz.func32, Tryz.ntmps32
    go_wp2
    go_ret
    exact ⟨rfl, rfl⟩

theorem l12Witness_c (x : Int) (w : World) : Calls Tryz.prog 66 #[.int .i64 x] w fun e w' => e = .returned (.bool (inB x 0 6)) ∧ w' = w := by
  have q := fun wx => l1In_c x 0 6 wx
  generalize inB x 0 6 = z at q
  go_enter Tryz.func66, Tryz.ntmps66
  go_wp2_with fail
  refine (q _).mono ?_
  rintro e w' ⟨rfl, hw⟩
  subst w'
  go_wp2
  go_ret
  exact ⟨rfl, rfl⟩

theorem specGood_c (a b c : Int) (w : World) : Calls Tryz.prog 40 #[.agg #[.int .i64 a, .int .i64 b, .int .i64 c]] w fun e w' => e = .returned (.bool (clB (a, b, c))) ∧ Below w.heap.size w w' := by
  have q1 := fun wx => l1In_c a 0 20 wx
  have q2 := fun wx => l1In_c b 0 1000 wx
  have q3 := fun wx => l1In_c c 0 100 wx
  rw [show clB (a, b, c) = (inB a 0 20 && (inB b 0 1000 && inB c 0 100)) from rfl]
  generalize inB a 0 20 = x at q1 ⊢
  generalize inB b 0 1000 = y at q2 ⊢
  generalize inB c 0 100 = z at q3 ⊢
  cases x
  · go_enter Tryz.func40, Tryz.ntmps40
    go_wp2_with fail
    refine (q1 _).mono ?_
    rintro e w' ⟨rfl, hw⟩
    subst w'
    go_wp2
    go_ret
    exact ⟨rfl, balloc w _⟩
  cases y
  · go_enter Tryz.func40, Tryz.ntmps40
    go_wp2_with fail
    refine (q1 _).mono ?_
    rintro e w' ⟨rfl, hw⟩
    subst w'
    go_wp2_with fail
    refine (q2 _).mono ?_
    rintro e w' ⟨rfl, hw⟩
    subst w'
    go_wp2
    go_ret
    exact ⟨rfl, balloc w _⟩
  go_enter Tryz.func40, Tryz.ntmps40
  go_wp2_with fail
  refine (q1 _).mono ?_
  rintro e w' ⟨rfl, hw⟩
  subst w'
  go_wp2_with fail
  refine (q2 _).mono ?_
  rintro e w' ⟨rfl, hw⟩
  subst w'
  go_wp2_with fail
  refine (q3 _).mono ?_
  rintro e w' ⟨rfl, hw⟩
  subst w'
  go_wp2
  go_ret
  exact ⟨rfl, balloc w _⟩

set_option maxHeartbeats 1000000 in
theorem implGood_c (a b c : Int) (w : World) : Calls Tryz.prog 34 #[.agg #[.int .i64 a, .int .i64 b, .int .i64 c]] w fun e w' => e = .returned (.bool (clB (a, b, c))) ∧ Below w.heap.size w w' := by
  have q2 := fun wx => isLetterNumber_c b wx
  rw [show clB (a, b, c) = (inB a 0 20 && (inB b 0 1000 && inB c 0 100)) from rfl]
  generalize inB b 0 1000 = y at q2 ⊢
  by_cases h1 : 0 ≤ a
  case neg =>
    rw [show inB a 0 20 = false from decide_eq_false (by omega), Bool.false_and]
    go_enter Tryz.func34, Tryz.ntmps34
    go_wp2
    go_ret
    exact ⟨rfl, balloc w _⟩
  by_cases h2 : a ≤ 20
  case neg =>
    rw [show inB a 0 20 = false from decide_eq_false (by omega), Bool.false_and]
    go_enter Tryz.func34, Tryz.ntmps34
    go_wp2
    go_ret
    exact ⟨rfl, balloc w _⟩
  rw [show inB a 0 20 = true from decide_eq_true ⟨h1, h2⟩, Bool.true_and]
  cases y
  · go_enter Tryz.func34, Tryz.ntmps34
    go_wp2_with fail
    refine (q2 _).mono ?_
    rintro e w' ⟨rfl, hw⟩
    subst w'
    go_wp2
    go_ret
    exact ⟨rfl, balloc w _⟩
  rw [Bool.true_and]
  by_cases h3 : 0 ≤ c
  case neg =>
    rw [show inB c 0 100 = false from decide_eq_false (by omega)]
    go_enter Tryz.func34, Tryz.ntmps34
    go_wp2_with fail
    refine (q2 _).mono ?_
    rintro e w' ⟨rfl, hw⟩
    subst w'
    go_wp2
    go_ret
    exact ⟨rfl, balloc w _⟩
  by_cases h4 : c ≤ 100
  case neg =>
    rw [show inB c 0 100 = false from decide_eq_false (by omega)]
    go_enter Tryz.func34, Tryz.ntmps34
    go_wp2_with fail
    refine (q2 _).mono ?_
    rintro e w' ⟨rfl, hw⟩
    subst w'
    go_wp2
    go_ret
    exact ⟨by simp [h4], balloc w _⟩
  rw [show inB c 0 100 = true from decide_eq_true ⟨h3, h4⟩]
  go_enter Tryz.func34, Tryz.ntmps34
  go_wp2_with fail
  refine (q2 _).mono ?_
  rintro e w' ⟨rfl, hw⟩
  subst w'
  go_wp2
  go_ret
  exact ⟨rfl, balloc w _⟩

theorem isStatement_c (s a b c : Int) (d : Bool) (w : World) : Calls Tryz.prog 61 #[.agg #[.int .i64 s, .int .i64 a, .int .i64 b, .int .i64 c, .bool d]] w fun e w' => e = .returned (.bool (stB (s, a, b, c, d))) ∧ Below w.heap.size w w' := by
  have q1 := fun wx => isWitness_c s wx
  have q2 := fun wx => implGood_c a b c wx
  rw [show stB (s, a, b, c, d) = (inB s 0 6 && clB (a, b, c)) from rfl]
  generalize inB s 0 6 = x at q1 ⊢
  generalize clB (a, b, c) = y at q2 ⊢
  cases x
  · go_enter Tryz.func61, Tryz.ntmps61
    go_wp2_with fail
    refine (q1 _).mono ?_
    rintro e w' ⟨rfl, hw⟩
    subst w'
    go_wp2
    go_ret
    exact ⟨rfl, balloc w _⟩
  go_enter Tryz.func61, Tryz.ntmps61
  go_wp2_with fail
  refine (q1 _).mono ?_
  rintro e w' ⟨rfl, hw⟩
  subst w'
  go_wp2_with fail
  refine (q2 _).mono ?_
  rintro e w' ⟨rfl, hb⟩
  have HB : Hid (Below w.heap.size w w') := (balloc w _).trans (hb.mono (balloc w _).size)
  clear hb
  go_wp2
  go_ret
  exact ⟨rfl, HB.out⟩

end Go.Proofs.YtleddlfojogdiaaGreat
