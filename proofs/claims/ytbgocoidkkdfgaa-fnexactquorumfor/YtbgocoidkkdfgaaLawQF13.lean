/- The law on QuorumFor, walked: it answers true at every argument and turns nothing that was there. -/
import Derived.Test.YtbgocoidkkdfgaaQ13
namespace Go.Proofs.Ytbgocoidkkdfgaa
set_option linter.unusedVariables false
set_option maxRecDepth 1000000
set_option linter.unusedSimpArgs false
open Go.RowKit

set_option maxHeartbeats 16000000 in
theorem lawQuo_c (f : Int) (w : World) :
    Calls Try.prog 9 #[.int .i64 f] w fun e w' => e = .returned (.bool true) ∧ Below w.heap.size w w' := by
  have qs := fun wx => specQuo_c f wx
  have qi := fun wx => implQuo_c f wx
  generalize (quoF f).1 = a at qs qi
  generalize (quoF f).2 = b at qs qi
  generalize inB f 0 2 = fb at qs qi
  have ha : (a != a) = false := by simp
  have hb : (b != b) = false := by simp
  have hfb : (fb != fb) = false := by simp
  have HB_0 : Hid (Below w.heap.size w w) := Below.refl _ _
  go_enter Try.func9, Try.ntmps9
  go_wp2_with fail
  refine (qs _).mono ?_
  rintro e w' ⟨rfl, hw⟩
  subst w'
  go_wp2_with fail
  refine (qi _).mono ?_
  rintro e w1 ⟨rfl, hb⟩
  have hB : Below w.heap.size w w1 := hb
  have HB_1 : Hid (Below w.heap.size w w1) := HB_0.out.trans (hB.mono HB_0.out.size)
  have z1 : w.heap.size ≤ w1.heap.size := hB.size
  clear hb hB HB_0 
  go_wp2
  go_ret
  exact ⟨rfl, HB_1.out⟩

end Go.Proofs.Ytbgocoidkkdfgaa
