/- What chapter 2 draws: secrets, members, and the Draw.. functions: numbers of which nothing is said. -/
import Derived.Test.YtdhnolafkgkliaaDoorD3
import Derived.Test.YtdhnolafkgkliaaDoorPwSpec
namespace Go.Proofs.YtdhnolafkgkliaaDoor
set_option linter.unusedVariables false
set_option maxRecDepth 1000000
set_option linter.unusedSimpArgs false
open Go.RowKit

set_option maxHeartbeats 2000000 in
theorem secret_c (g : Nat) (ao : Option Addr) (n c : Nat) (M : Int) (w : World) (hM : M ≤ 1000000) (h : Cur w g ao n c M) :
    Calls Tryd.prog 65 #[.pointer (some ⟨g, 0, none⟩)] w fun e w' => ∃ z : Int, e = .returned (.int .i64 z) ∧ Cur w' g ao n c (M + 20) ∧ GB g w w' := by
  have HC : Hid (Cur w g ao n c M) := h
  have HG : Hid (GB g w w) := GB.refl _ _
  clear h
  go_enter Tryd.func65, Tryd.ntmps65
  go_wp2_with (first | (go_at_call 42; refine (pick_c g ao n c _ _ _ (by omega) (by omega) HC.out).mono ?_; rintro e w1 ⟨z, rfl, hz0, hz1, hc1, hg1⟩; replace HC : Hid (Cur w1 g ao n c _) := hc1; replace HG : Hid (GB g w w1) := HG.out.trans hg1; clear hc1 hg1) | (go_at_call 41; refine (among_p (fun _ => True) g ao n c _ w1.heap.size 9 _ (by omega) (by omega) (lit_cells _ _ _ _ _ rfl (by simp [allP])) (by have := HC.out.lt; omega) (HC.out.alloc _)).mono ?_; rintro e w2 ⟨y, rfl, _, hc1, hg1⟩; replace HC : Hid (Cur w2 g ao n c _) := hc1; replace HG : Hid (GB g w w2) := (HG.out.alloc _).trans hg1; clear hc1 hg1))
  go_ret
  exact ⟨y, rfl, HC.out.mono (by omega), HG.out⟩

end Go.Proofs.YtdhnolafkgkliaaDoor
