/- The law on StepBoard: what its regions want. -/
import Derived.Test.YtaokmjbhgkfnfaaSR13s
import Derived.Test.YtaokmjbhgkfnfaaTR13s
namespace Go.Proofs.Ytaokmjbhgkfnfaa
set_option linter.unusedVariables false
set_option maxRecDepth 1000000
set_option linter.unusedSimpArgs false
open Go.RowKit

def sndSeq4 : Code → Code | .seq _ b => b | c => c
def fstSeq4 : Code → Code | .seq a _ => a | c => c

end Go.Proofs.Ytaokmjbhgkfnfaa
