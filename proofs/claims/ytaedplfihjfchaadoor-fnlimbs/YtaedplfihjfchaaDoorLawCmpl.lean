/- The law on CompareBig, walked: it answers true at every argument and turns nothing that was there. -/
import Derived.Test.YtaedplfihjfchaaDoorSpecCmpl
import Derived.Deep.RegionHeld3
import Derived.Deep.DrawnRows
namespace Go.Proofs.YtaedplfihjfchaaDoor
set_option linter.unusedVariables false
set_option maxRecDepth 1000000
set_option linter.unusedSimpArgs false
open Go.RowKit
attribute [local go_sem ↓] Go.wp_at_zero Go.wp_at_succ

/-- Two rows of the call's own that were made at different times lie in different blocks. -/
theorem own_sep {v u : Value} {l1 h1 l2 h2 : Nat} (I : ∀ k, v.ownBlock = some k → l1 ≤ k ∧ k < h1) (J : ∀ k, u.ownBlock = some k → l2 ≤ k ∧ k < h2) (h : h1 ≤ l2 ∨ h2 ≤ l1) : v.ownBlock = none ∨ v.ownBlock ≠ u.ownBlock := by
  cases hv : v.ownBlock with
  | none => exact Or.inl rfl
  | some k =>
    right
    intro e
    have := I k hv
    have := J k e.symm
    omega

end Go.Proofs.YtaedplfihjfchaaDoor
