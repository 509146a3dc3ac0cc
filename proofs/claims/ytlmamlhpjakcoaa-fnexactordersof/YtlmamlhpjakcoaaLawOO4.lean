/- The law on FnExactOrdersOf, walked: it answers true at every argument and turns nothing that was there. -/
import Derived.Test.YtlmamlhpjakcoaaOO4
namespace Go.Proofs.Ytlmamlhpjakcoaa
set_option linter.unusedVariables false
set_option linter.unusedSimpArgs false
open Go.RowKit

set_option maxHeartbeats 8000000 in
set_option maxRecDepth 1000000 in
theorem lawOrders_c (i0 : Int) (w : World) (hw0 : -9223372036854775808 ≤ i0 ∧ i0 ≤ 9223372036854775807) :
    Calls Try.prog 13 #[.int .i64 i0] w fun e w' => e = .returned (.bool true) ∧ Below w.heap.size w w' := by
  obtain ⟨r, fb, hF⟩ : ∃ r fb, ordersF i0 = (r, fb) := ⟨_, _, rfl⟩
  have HF : Hid (ordersF i0 = (r, fb)) := hF
  have hrr : (r != r) = false := by simp
  have hfb : (fb != fb) = false := by simp
  clear hF
  go_enter Try.func13, Try.ntmps13
  have HB0 : Hid (Below w.heap.size w w) := Below.refl _ _
  go_wp2_with fail
  refine (specOrders_c i0 _ r fb HF.out).mono ?_
  rintro e w' ⟨rfl, hw⟩
  subst w'
  go_wp2_with fail
  refine (implOrders_c i0 _ r fb HF.out).mono ?_
  rintro e w' ⟨rfl, hw⟩
  subst w'
  go_wp2
  go_ret
  exact ⟨rfl, HB0.out⟩

end Go.Proofs.Ytlmamlhpjakcoaa
