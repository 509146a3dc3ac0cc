/- Chapter 16: PlayAll tells as many codes as there are numbers. -/
import Derived.Test.YtjpegbodhpnflaaDoorPC16
namespace Go.Proofs.YtjpegbodhpnflaaDoor
set_option linter.unusedVariables false
set_option maxRecDepth 1000000
set_option linter.unusedSimpArgs false
open Go.RowKit

theorem allV_len (l : List Int) : (allV l).length ≤ 60 := by
  unfold allV
  cases hok : playOk l
  · rw [if_neg (by decide)]; simp
  · rw [if_pos rfl, foldA_len]
    have := (playOk_all hok).1
    simp; omega

end Go.Proofs.YtjpegbodhpnflaaDoor
