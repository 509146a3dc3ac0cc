/- Contracts of chapter 2, the program's side: members, powers, inverses, shared secrets, opening, products of sealed numbers. -/
import Derived.Test.YtdhnolafkgkliaaPwImpl
namespace Go.Proofs.Ytdhnolafkgkliaa
set_option linter.unusedVariables false
set_option maxRecDepth 1000000
set_option linter.unusedSimpArgs false
open Go.RowKit

end Go.Proofs.Ytdhnolafkgkliaa
