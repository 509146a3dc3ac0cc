/- Chapter 14: ScoreOf of both sides; the size of a list of tallies. -/
import Derived.Test.YtleddlfojogdiaaGreatA14
namespace Go.Proofs.YtleddlfojogdiaaGreat
set_option linter.unusedVariables false
set_option maxRecDepth 1000000
set_option linter.unusedSimpArgs false
open Go.RowKit

def scoreV (t : Ta) : Int := if taB t = true then scoreT t else 0

theorem taB_is {a b c : Int} (h : taB (a, b, c) = true) : 0 ≤ b ∧ b ≤ 100 ∧ 0 ≤ c ∧ c ≤ 100 := by
  unfold taB inB at h
  simp only [Bool.and_eq_true, decide_eq_true_eq] at h
  exact ⟨h.2.1.1, h.2.1.2, h.2.2.1, h.2.2.2⟩

end Go.Proofs.YtleddlfojogdiaaGreat
