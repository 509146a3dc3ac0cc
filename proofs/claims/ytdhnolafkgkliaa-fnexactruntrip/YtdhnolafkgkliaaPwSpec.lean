/- Contracts of chapter 2 that hold for plain numbers: the specification's side. -/
import Derived.Test.YtdhnolafkgkliaaPw
import Derived.WalkKit
import Derived.WalkSpells
import Derived.WalkLawsBesides
import Derived.Deep.QuietTactic
import Derived.BigQuiet
namespace Go.Proofs.Ytdhnolafkgkliaa
set_option linter.unusedVariables false
set_option maxRecDepth 1000000
set_option linter.unusedSimpArgs false
open Go.RowKit

theorem ret_bool {a b : Bool} (h : a = b) : Ending.returned (.bool a) = .returned (.bool b) := by rw [h]
theorem ret_int {a b : Int} (h : a = b) : Ending.returned (.int .i64 a) = .returned (.int .i64 b) := by rw [h]

theorem l1In_c (x lo hi : Int) (w : World) : Calls Try.prog 17 #[.int .i64 x, .int .i64 lo, .int .i64 hi] w fun e w' => e = .returned (.bool (decide (lo ≤ x ∧ x ≤ hi))) ∧ w' = w := by
  by_cases h1 : lo ≤ x
  · by_cases h2 : x ≤ hi
    · go_enter Try.func17, Try.ntmps17
      go_wp2
      go_ret
      exact ⟨ret_bool (by simp [h1, h2]), rfl⟩
    · go_enter Try.func17, Try.ntmps17
      go_wp2
      go_ret
      exact ⟨ret_bool (by simp; omega), rfl⟩
  · go_enter Try.func17, Try.ntmps17
    go_wp2
    go_ret
    exact ⟨ret_bool (by simp; omega), rfl⟩

theorem l2Secret_c (x : Int) (w : World) : Calls Try.prog 16 #[.int .i64 x] w fun e w' => e = .returned (.bool (decide (1 ≤ x ∧ x ≤ 1498))) ∧ w' = w := by
  generalize hd : decide (1 ≤ x ∧ x ≤ 1498) = b
  go_enter Try.func16, Try.ntmps16
  go_wp2_with fail
  refine (l1In_c x 1 1498 _).mono ?_
  rw [hd]
  clear hd
  rintro e w' ⟨rfl, rfl⟩
  go_wp2
  go_ret
  exact ⟨rfl, rfl⟩

/-- A member. -/
def memB (a : Int) : Bool := decide (1 ≤ a ∧ a ≤ 2998) && (pw a 1499 == 1)

theorem memB_in {a : Int} (h : memB a = true) : 1 ≤ a ∧ a ≤ 2998 := by simp [memB] at h; omega

def powB (a k : Int) : Bool := decide (1 ≤ a ∧ a ≤ 2998) && decide (0 ≤ k ∧ k ≤ 1000000)

end Go.Proofs.Ytdhnolafkgkliaa
