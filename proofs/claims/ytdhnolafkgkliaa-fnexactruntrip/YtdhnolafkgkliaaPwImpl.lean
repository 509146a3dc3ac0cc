/- Contracts of chapter 2, the program's side: ranges, products, the power by a goto from bit to bit, members. -/
import Derived.Test.YtdhnolafkgkliaaPwSpec2
import Derived.WalkMore
import Derived.ScopeJumps
namespace Go.Proofs.Ytdhnolafkgkliaa
set_option linter.unusedVariables false
set_option maxRecDepth 1000000
set_option linter.unusedSimpArgs false
open Go.RowKit

theorem isSecret_c (x : Int) (w : World) : Calls Try.prog 20 #[.int .i64 x] w fun e w' => e = .returned (.bool (decide (1 ≤ x ∧ x ≤ 1498))) ∧ w' = w := by
  by_cases h1 : 1 ≤ x
  · by_cases h2 : x < 1499
    · go_enter Try.func20, Try.ntmps20
      go_wp2
      go_ret
      exact ⟨ret_bool (by simp [h1]; omega), rfl⟩
    · go_enter Try.func20, Try.ntmps20
      go_wp2
      go_ret
      exact ⟨ret_bool (by simp; omega), rfl⟩
  · go_enter Try.func20, Try.ntmps20
    go_wp2
    go_ret
    exact ⟨ret_bool (by simp; omega), rfl⟩

end Go.Proofs.Ytdhnolafkgkliaa
