/- Contracts of chapter 2, the specification's side: inverses, shared secrets, opening. -/
import Derived.Test.YtdhnolafkgkliaaDoorPwSpec
namespace Go.Proofs.YtdhnolafkgkliaaDoor
set_option linter.unusedVariables false
set_option maxRecDepth 1000000
set_option linter.unusedSimpArgs false
open Go.RowKit

/-- A number that has an inverse. -/
def unitB (a : Int) : Bool := decide (1 ≤ a ∧ a ≤ 2998)
def shareB (s p : Int) : Bool := decide (1 ≤ s ∧ s ≤ 1498) && memB p
def sealB (x y : Int) : Bool := memB x && memB y
def openB (s x y : Int) : Bool := decide (1 ≤ s ∧ s ≤ 1498) && sealB x y
theorem sealB_in {x y : Int} (h : sealB x y = true) : (1 ≤ x ∧ x ≤ 2998) ∧ (1 ≤ y ∧ y ≤ 2998) := by
  simp only [sealB, Bool.and_eq_true] at h; exact ⟨memB_in h.1, memB_in h.2⟩

end Go.Proofs.YtdhnolafkgkliaaDoor
