/- Contracts of PublicFor on both sides, and the law on it, walked: where the table is laid it answers true at every argument and turns nothing. -/
import Derived.Test.YtobomcmjilcnaaaRoot
namespace Go.Proofs.Ytobomcmjilcnaaa
set_option linter.unusedVariables false
set_option maxRecDepth 1000000
set_option linter.unusedSimpArgs false
open Go.RowKit

def secB (s : Int) : Bool := decide (1 ≤ s ∧ s ≤ 1498)

end Go.Proofs.Ytobomcmjilcnaaa
