/- The law on CommonHonest, walked: it answers true at every argument and turns nothing that was there. -/
import Derived.Test.YtaokmjbhgkfnfaaSC13q
import Derived.Test.YtaokmjbhgkfnfaaM13q
namespace Go.Proofs.Ytaokmjbhgkfnfaa
set_option linter.unusedVariables false
set_option maxRecDepth 1000000
set_option linter.unusedSimpArgs false
open Go.RowKit

theorem comV_len (b : BdV) (ep x y : Int) : (comV b ep x y).length ≤ 10 := by
 unfold comV
 split
 ·rename_i h
  have := upto_len (nOf b.f) fun m => !decide ((m : Int) ∈ b.li) && (hasS ep b.sg x m && hasS ep b.sg y m)
  unfold comB at h
  rw [Bool.and_eq_true] at h
  have G := good_is (f := b.f) (e := b.e) (sg := b.sg) (li := b.li) (ls := b.ls) h.1
  have := G.N7
  unfold comL
  unfold nOf at *
  omega
 ·simp

end Go.Proofs.Ytaokmjbhgkfnfaa
