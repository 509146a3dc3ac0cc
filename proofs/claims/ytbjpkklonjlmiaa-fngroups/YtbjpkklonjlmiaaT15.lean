/- Chapter 15: what of a table's copy is read, its bounds beside. -/
import Derived.Test.YtbjpkklonjlmiaaSG15B
namespace Go.Proofs.Ytbjpkklonjlmiaa
set_option linter.unusedVariables false
set_option maxRecDepth 1000000
set_option linter.unusedSimpArgs false
open Go.RowKit

theorem rdT_of {w : World} {sa : Option Addr} {sn sc : Nat} {la : Option Addr} {ln lc : Nat} {t : TbV} (hs : SmallTb t) (h : RdTb w sa sn sc la ln lc t) : RdT w sa sn sc la ln lc t :=
  ⟨h, by have := hs.s; rw [h.sl] at this; omega, by have := hs.l; rw [h.ll] at this; omega, fun l hl => by have := hs.r l hl; omega⟩

end Go.Proofs.Ytbjpkklonjlmiaa
