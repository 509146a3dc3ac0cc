/- Chapter 12: MergeStatements of both sides, whole; the size of a list of statements. -/
import Derived.Test.YtleddlfojogdiaaGreatMG12
namespace Go.Proofs.YtleddlfojogdiaaGreat
set_option linter.unusedVariables false
set_option maxRecDepth 1000000
set_option linter.unusedSimpArgs false
open Go.RowKit

theorem szStatementS_c (ao : Option Addr) (n c : Nat) (left : Nat) (w : World) (hn : n ≤ 9223372036854775807) (hl : left ≤ 1048576) :
    Calls Tryz.prog 18 #[.slice ao n c, .int .i64 left] w fun e w' => ∃ r : Int, e = .returned (.int .i64 r) ∧ w' = w ∧ r ≤ left ∧ (0 ≤ r → n ≤ 1048576 ∧ r + n = left) := by
  by_cases h1 : left < n
  · have hlt : (left : Int) - n < 0 := by omega
    go_enter Tryz.func18, Tryz.ntmps18
    go_wp2
    go_ret
    exact ⟨-1, rfl, rfl, by omega, fun h => by omega⟩
  · have hge : 0 ≤ (left : Int) - n := by omega
    go_enter Tryz.func18, Tryz.ntmps18
    go_wp2
    go_ret
    exact ⟨(left : Int) - n, rfl, rfl, by omega, fun h => by omega⟩

theorem mergeV_len (xs ys : List St) : (mergeV xs ys).length ≤ 60 := by
  unfold mergeV
  split
  · rename_i h; unfold mergeB at h; rw [Bool.and_eq_true, Bool.and_eq_true] at h; exact of_decide_eq_true h.2.2
  · simp

end Go.Proofs.YtleddlfojogdiaaGreat
