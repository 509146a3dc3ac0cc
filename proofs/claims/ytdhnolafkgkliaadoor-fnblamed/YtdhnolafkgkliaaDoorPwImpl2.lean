/- Contracts of chapter 2, the program's side: members, powers, inverses, shared secrets, opening, products of sealed numbers. -/
import Derived.Test.YtdhnolafkgkliaaDoorPwImpl
namespace Go.Proofs.YtdhnolafkgkliaaDoor
set_option linter.unusedVariables false
set_option maxRecDepth 1000000
set_option linter.unusedSimpArgs false
open Go.RowKit

theorem implMember_c (a : Int) (w : World) : Calls Tryd.prog 58 #[.int .i64 a] w fun e w' => e = .returned (.bool (memB a)) ∧ w' = w := by
  by_cases h : 1 ≤ a ∧ a ≤ 2998
  · have hd : decide (1 ≤ a ∧ a ≤ 2998) = true := decide_eq_true h
    have hm : memB a = (pw a 1499 == 1) := by simp [memB, h]
    rw [hm]
    clear hm
    generalize hp : pw a 1499 = p
    go_enter Tryd.func58, Tryd.ntmps58
    go_wp2_with (first
      | (go_at_call 83; refine (isRest_c a _).mono ?_; rw [hd]; clear hd; rintro e w' ⟨rfl, rfl⟩)
      | (go_at_call 60; refine (powerOfRest_c a 1499 _ (by omega) (by omega) (by omega)).mono ?_; rw [hp]; clear hp; rintro e w' ⟨rfl, rfl⟩))
    go_ret
    exact ⟨rfl, rfl⟩
  · have hd : decide (1 ≤ a ∧ a ≤ 2998) = false := decide_eq_false h
    have hm : memB a = false := by simp only [memB, hd, Bool.false_and]
    rw [hm]
    go_enter Tryd.func58, Tryd.ntmps58
    go_wp2_with (go_at_call 83; refine (isRest_c a _).mono ?_; rw [hd]; clear hd; rintro e w' ⟨rfl, rfl⟩)
    go_ret
    exact ⟨rfl, rfl⟩

end Go.Proofs.YtdhnolafkgkliaaDoor
