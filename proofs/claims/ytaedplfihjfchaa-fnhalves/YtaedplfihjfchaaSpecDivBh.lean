/- The specification's DivBig. -/
import Derived.Test.YtaedplfihjfchaaSpecDivh
import Derived.Deep.RegionHeld3
namespace Go.Proofs.Ytaedplfihjfchaa
set_option linter.unusedVariables false
set_option maxRecDepth 1000000
set_option linter.unusedSimpArgs false
open Go.RowKit

/-- Quotient, rest, and whether there are any. -/
def divF (xs ys : List Int) : List Int × List Int × Bool := if goodB xs && goodB ys then (if ys.length = 0 then ([], [], false) else (bigL (val xs / val ys), bigL (val xs % val ys), true)) else ([], [], false)

theorem takeB {P : Program} {ops : Array Oper} {Q : Exit → Act → World → Prop} {md : Region.Mode} {S : World → Prop} {i : Nat} {oi : Oper} {v : Value} {d : Option Tmp} {fuel : Nat} {listed : Array Bool} {a : Act} {w : World} (hi : ops[i]? = some oi) (hd : oi.dst = d)
    (hs : Region.noSelect ops = true) (hf : Region.free md ops listed i = true) (hr : (Region.ready md ops listed).contains i = true)
    (hQ : ∀ c a w, Q (.panic c) (a.put d v) w → Q (.panic c) a w) (hy : YieldsIf P ops S oi v a) (hS : S w)
    (h : wpAnyH P md ops Q S fuel (listed.setIfInBounds i true) (a.put d v) w) : wpAnyH P md ops Q S (fuel + 1) listed a w := by
  subst hd
  exact wpAnyH_take hi hs hf hr hQ hy hS h

theorem fz4 (w : World) (cs cs' cs'' cs3 : Array Value) (t t' t'' t3 : TypeId) : ((((w.alloc (.cells cs t)).alloc (.cells cs' t')).alloc (.cells cs'' t'')).alloc (.cells cs3 t3)).frozen? ⟨w.heap.size + 1 + 1 + 1, 0, none⟩ = false := by
  have := fz1 (((w.alloc (.cells cs t)).alloc (.cells cs' t')).alloc (.cells cs'' t'')) cs3 t3
  simpa using this

end Go.Proofs.Ytaedplfihjfchaa
