/- Chapter 9: whether a list is an order: both sides. -/
import Derived.Test.YtlepejafednlfaaP9
namespace Go.Proofs.Ytlepejafednlfaa
set_option linter.unusedVariables false
set_option maxRecDepth 1000000
set_option linter.unusedSimpArgs false
open Go.RowKit

theorem implIs_c (ao : Option Addr) (n c : Nat) (xs : List Int) (w : World) (hx : xs.length = n) (hn : n ≤ 17592186044416) (hcap : n ≤ c ∧ c ≤ maxLen) (hr : Rd w ao xs) (fb : Bool) (hF : ordB xs = fb) :
    Calls Try.prog 39 #[.slice ao n c] w fun e w' => e = .returned (.bool fb) ∧ Below w.heap.size w w' := by
  have q1 := isOrder_c ao n c xs w hx hn hcap hr
  rw [hF] at q1
  clear hF hr hx
  go_enter Try.func39, Try.ntmps39
  go_wp2_with fail
  refine q1.mono ?_
  clear q1
  rintro e w1 ⟨rfl, hb⟩
  have HB : Hid (Below w.heap.size w w1) := hb
  clear hb
  go_wp2
  go_ret
  exact ⟨rfl, HB.out⟩

theorem specIs_c (ao : Option Addr) (n c : Nat) (xs : List Int) (w : World) (hx : xs.length = n) (hn : n ≤ 17592186044416) (hcap : n ≤ c ∧ c ≤ maxLen) (hr : Rd w ao xs) (fb : Bool) (hF : ordB xs = fb) :
    Calls Try.prog 44 #[.slice ao n c] w fun e w' => e = .returned (.bool fb) ∧ Below w.heap.size w w' := by
  have q1 := l4Order_c ao n c xs w hx hn hcap hr
  rw [hF] at q1
  clear hF hr hx
  go_enter Try.func44, Try.ntmps44
  go_wp2_with fail
  refine q1.mono ?_
  clear q1
  rintro e w' ⟨rfl, hw⟩
  subst w'
  go_wp2
  go_ret
  exact ⟨rfl, Below.refl _ _⟩

end Go.Proofs.Ytlepejafednlfaa
