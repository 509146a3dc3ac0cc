/- The law on FnExactTagOf, walked: it answers true at every argument and turns nothing that was there. -/
import Derived.Test.YtelchkoplncmaaaA8
namespace Go.Proofs.Ytelchkoplncmaaa
set_option linter.unusedVariables false
set_option maxRecDepth 1000000
set_option linter.unusedSimpArgs false
open Go.RowKit

set_option maxHeartbeats 8000000 in
set_option maxRecDepth 1000000 in
theorem lawTag_c (s0 : ByteArray) (w : World) (hm0 : s0.size ≤ 9223372036854775807) :
    Calls Try.prog 10 #[.string s0] w fun e w' => e = .returned (.bool true) ∧ Below w.heap.size w w' := by
  by_cases hl0 : 1048576 < s0.size
  · have hi0 : (1048576 : Int) < ((s0.size : Nat) : Int) := by omega
    go_enter Try.func10, Try.ntmps10
    go_wp2
    go_ret
    exact ⟨rfl, Below.refl _ _⟩
  have hsz0 : s0.size ≤ 17592186044416 := by omega
  obtain ⟨r, fb, hF⟩ : ∃ r fb, tagF s0 = (r, fb) := ⟨_, _, rfl⟩
  have HF : Hid (tagF s0 = (r, fb)) := hF
  have hrr : (r != r) = false := by simp
  have hfb : (fb != fb) = false := by simp
  clear hF
  go_enter Try.func10, Try.ntmps10
  have HB0 : Hid (Below w.heap.size w w) := Below.refl _ _
  go_wp2_with fail
  refine (specTag_c s0 _ (by omega) r fb HF.out).mono ?_
  rintro e w' ⟨rfl, hw⟩
  subst w'
  go_wp2_with fail
  refine (implTag_c s0 _ (by omega) r fb HF.out).mono ?_
  rintro e w' ⟨rfl, hw⟩
  subst w'
  go_wp2
  go_ret
  exact ⟨rfl, HB0.out⟩

end Go.Proofs.Ytelchkoplncmaaa
