/- The law on FnExactSwitchCount, walked: it answers true at every argument and turns nothing that was there. -/
import Derived.Test.YtlepejafednlfaaC9
namespace Go.Proofs.Ytlepejafednlfaa
set_option linter.unusedVariables false
set_option maxRecDepth 1000000
set_option linter.unusedSimpArgs false
open Go.RowKit

set_option maxHeartbeats 8000000 in
set_option maxRecDepth 1000000 in
theorem lawCount_c (i0 : Int) (w : World) (hw0 : -9223372036854775808 ≤ i0 ∧ i0 ≤ 9223372036854775807) :
    Calls Try.prog 12 #[.int .i64 i0] w fun e w' => e = .returned (.bool true) ∧ Below w.heap.size w w' := by
  obtain ⟨r, fb, hF⟩ : ∃ r fb, countF i0 = (r, fb) := ⟨_, _, rfl⟩
  have HF : Hid (countF i0 = (r, fb)) := hF
  have hrr : (r != r) = false := by simp
  have hfb : (fb != fb) = false := by simp
  clear hF
  go_enter Try.func12, Try.ntmps12
  have HB0 : Hid (Below w.heap.size w w) := Below.refl _ _
  go_wp2_with fail
  refine (specCount_c i0 _ r fb HF.out).mono ?_
  rintro e w' ⟨rfl, hw⟩
  subst w'
  go_wp2_with fail
  refine (implCount_c i0 _ r fb HF.out).mono ?_
  rintro e w' ⟨rfl, hw⟩
  subst w'
  go_wp2
  go_ret
  exact ⟨rfl, HB0.out⟩

end Go.Proofs.Ytlepejafednlfaa
