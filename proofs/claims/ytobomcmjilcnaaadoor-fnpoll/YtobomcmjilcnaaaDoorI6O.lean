/- Chapter 6, the program's side: a number opened by all. -/
import Derived.Test.YtobomcmjilcnaaaDoorI6E
namespace Go.Proofs.YtobomcmjilcnaaaDoor
set_option linter.unusedVariables false
set_option maxRecDepth 1000000
set_option linter.unusedSimpArgs false
open Go.RowKit

theorem partL_length (x : Int) (xs : List Int) : (partL x xs).length = xs.length := by simp [partL]

end Go.Proofs.YtobomcmjilcnaaaDoor
