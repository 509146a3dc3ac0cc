/- The contract of the specification's TimesBig. -/
import Derived.Test.YtcklmgifboceaaaDoorSpecTimes
namespace Go.Proofs.YtcklmgifboceaaaDoor
set_option linter.unusedVariables false
set_option maxRecDepth 1000000
set_option linter.unusedSimpArgs false
open Go.RowKit

def timesF (xs ys : List Int) : List Int × Bool := if goodB xs && goodB ys then tellF (val xs * val ys) else ([], false)

theorem val_mul_lt {xs ys : List Int} (dx : Digs xs) (dy : Digs ys) (lx : xs.length ≤ 6) (ly : ys.length ≤ 6) : val xs * val ys < 79228162514264337593543950336 * 79228162514264337593543950336 := by
  have h1 := val_lt6 dx lx
  have h2 := val_lt6 dy ly
  have h3 := val_nonneg dx
  have h4 := val_nonneg dy
  have e1 : val xs * val ys ≤ 79228162514264337593543950336 * val ys := Int.mul_le_mul_of_nonneg_right (by omega) h4
  omega

theorem timesF_short {xs ys zs : List Int} {fb : Bool} (h : timesF xs ys = (zs, fb)) : zs.length ≤ 6 := by
  cases hg : (goodB xs && goodB ys)
  · rw [timesF, hg] at h
    simp at h
    rw [h.1]; simp
  · rw [timesF, hg] at h
    simp only [if_true] at h
    simp at hg
    exact tellF_short (val_mul_nonneg (goodB_digs hg.1).2.1 (goodB_digs hg.2).2.1) h

end Go.Proofs.YtcklmgifboceaaaDoor
