/- MixBlock and UnmixBlock of the specification. -/
import Derived.Test.YtlepejafednlfaaK4
namespace Go.Proofs.Ytlepejafednlfaa
set_option linter.unusedVariables false
set_option maxRecDepth 1000000
set_option linter.unusedSimpArgs false
open Go.RowKit

theorem blk_end {u l : Nat} (hu : u < 256) (hl : l < 256) : wrap64 (wrap64 (256 * (u : Int)) + l) = ((joinN (u, l) : Nat) : Int) := by
  rw [w64 (n := 256 * (u : Int)) (by omega), w64 (by omega)]; simp [joinN]
theorem blk_end2 {u l : Nat} : 256 * (u : Int) + l = ((joinN (u, l) : Nat) : Int) := by simp [joinN]

def mixF (xs : List Int) (x : Int) : Int × Bool := if keysB xs = true ∧ blockB x = true then ((mixN (nums xs) x.toNat : Nat), true) else (0, false)
def unmixF (xs : List Int) (x : Int) : Int × Bool := if keysB xs = true ∧ blockB x = true then ((unmixN (nums xs) x.toNat : Nat), true) else (0, false)

end Go.Proofs.Ytlepejafednlfaa
