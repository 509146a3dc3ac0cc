/- Chapter 15: SumOf of both sides, as the law asks for it. -/
import Derived.Test.YtbjpkklonjlmiaaS15
namespace Go.Proofs.Ytbjpkklonjlmiaa
set_option linter.unusedVariables false
set_option maxRecDepth 1000000
set_option linter.unusedSimpArgs false
open Go.RowKit

def sumF (l : List Int) : Int × Bool := (sumV l, sumB l)
theorem implSumF_c (ao : Option Addr) (n c : Nat) (xs : List Int) (w : World) (hx : xs.length = n) (hn : n ≤ 17592186044416) (hr : Rd w ao xs) (r : Int) (fb : Bool) (hF : sumF xs = (r, fb)) :
    Calls Try.prog 11 #[.slice ao n c] w fun e w' => e = .returned (.tuple #[.int .i64 r, .bool fb]) ∧ Below w.heap.size w w' := by
  simp only [sumF, Prod.mk.injEq] at hF
  rw [← hF.1, ← hF.2]
  refine (implSum_c ao n c xs w hx hn hr).mono ?_
  rintro e w' ⟨rfl, hw⟩
  subst hw
  exact ⟨rfl, Below.refl _ _⟩
theorem specSumF_c (ao : Option Addr) (n c : Nat) (xs : List Int) (w : World) (hx : xs.length = n) (hn : n ≤ 17592186044416) (hr : Rd w ao xs) (r : Int) (fb : Bool) (hF : sumF xs = (r, fb)) :
    Calls Try.prog 30 #[.slice ao n c] w fun e w' => e = .returned (.tuple #[.int .i64 r, .bool fb]) ∧ Below w.heap.size w w' := by
  simp only [sumF, Prod.mk.injEq] at hF
  rw [← hF.1, ← hF.2]
  refine (specSum_c ao n c xs w hx hn hr).mono ?_
  rintro e w' ⟨rfl, hw⟩
  subst hw
  exact ⟨rfl, Below.refl _ _⟩

end Go.Proofs.Ytbjpkklonjlmiaa
