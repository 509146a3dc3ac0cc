/- The contracts of the program's cutRow and limbsUp: their loops have a fixed number of rounds, walked one by one. -/
import Derived.Test.YtcklmgifboceaaaDoorImplTimes2
import Derived.Test.YtcklmgifboceaaaDoorImplLess2
namespace Go.Proofs.YtcklmgifboceaaaDoor
set_option linter.unusedVariables false
set_option maxRecDepth 1000000
set_option linter.unusedSimpArgs false
open Go.RowKit

end Go.Proofs.YtcklmgifboceaaaDoor
