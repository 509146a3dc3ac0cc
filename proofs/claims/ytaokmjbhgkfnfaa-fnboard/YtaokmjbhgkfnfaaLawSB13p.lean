/- The law on StepBoard, walked: it answers true at every argument and turns nothing that was there. -/
import Derived.Test.YtaokmjbhgkfnfaaBX13p
import Derived.Test.YtaokmjbhgkfnfaaTR13p
namespace Go.Proofs.Ytaokmjbhgkfnfaa
set_option linter.unusedVariables false
set_option maxRecDepth 1000000
set_option linter.unusedSimpArgs false
open Go.RowKit

theorem good_small {b : BdV} (h : goodBd b = true) : SmallBd b := by
  have F := good_few h
  exact ⟨by have := F.s; omega, by have := F.l; omega, by have := F.t; omega, fun l hl => by have := F.z l hl; omega⟩
theorem zero_small : SmallBd zeroBd := ⟨by simp [zeroBd], by simp [zeroBd], by simp [zeroBd], fun l hl => by simp [zeroBd] at hl⟩
end Go.Proofs.Ytaokmjbhgkfnfaa
