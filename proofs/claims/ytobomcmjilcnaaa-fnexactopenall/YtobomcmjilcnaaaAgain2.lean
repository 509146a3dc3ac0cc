/- Contracts of SealAgain and SealNumber on both sides. -/
import Derived.Test.YtobomcmjilcnaaaAgain
namespace Go.Proofs.Ytobomcmjilcnaaa
set_option linter.unusedVariables false
set_option maxRecDepth 1000000
set_option linter.unusedSimpArgs false
open Go.RowKit
attribute [local go_sem ↓] Go.wp_at_zero Go.wp_at_succ

def againB (p s x y : Int) : Bool := memB p && secB s && sealB x y

end Go.Proofs.Ytobomcmjilcnaaa
