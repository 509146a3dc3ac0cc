/- Chapter 12: StateFor of both sides; lists of statements looked at. -/
import Derived.Test.YtleddlfojogdiaaGreatA12
namespace Go.Proofs.YtleddlfojogdiaaGreat
set_option linter.unusedVariables false
set_option maxRecDepth 1000000
set_option linter.unusedSimpArgs false
open Go.RowKit

def stateV (s a b c : Int) (d : Bool) : St := if stB (s, a, b, c, d) = true then (s, a, b, c, d) else (0, 0, 0, 0, false)

end Go.Proofs.YtleddlfojogdiaaGreat
