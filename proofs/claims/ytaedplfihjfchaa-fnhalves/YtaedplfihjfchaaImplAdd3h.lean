/- The contract of the program AddBig, whole. -/
import Derived.Test.YtaedplfihjfchaaImplAdd2h
namespace Go.Proofs.Ytaedplfihjfchaa
set_option linter.unusedVariables false
set_option maxRecDepth 1000000
set_option linter.unusedSimpArgs false
open Go.RowKit


end Go.Proofs.Ytaedplfihjfchaa
