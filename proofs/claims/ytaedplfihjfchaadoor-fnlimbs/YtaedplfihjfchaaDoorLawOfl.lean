/- The law on BigOf, walked. -/
import Derived.Test.YtaedplfihjfchaaDoorBigOfl
namespace Go.Proofs.YtaedplfihjfchaaDoor
set_option linter.unusedVariables false
set_option maxRecDepth 1000000
set_option linter.unusedSimpArgs false
open Go.RowKit

theorem ofF_short {n : Int} {zs : List Int} {fb : Bool} (h : ofF n = (zs, fb)) : zs.length ≤ 6 := by
  by_cases hn : n < 0
  · rw [ofF_neg hn] at h
    simp only [Prod.mk.injEq] at h
    rw [← h.1]; simp
  · rw [ofF, if_neg hn] at h
    exact tellF_short (by omega) h

end Go.Proofs.YtaedplfihjfchaaDoor
