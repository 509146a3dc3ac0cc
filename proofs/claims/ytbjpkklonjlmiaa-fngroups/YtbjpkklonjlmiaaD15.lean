/- Chapter 15: what is drawn: words. -/
import Derived.Test.YtbjpkklonjlmiaaD3
import Derived.Test.YtbjpkklonjlmiaaP15
namespace Go.Proofs.Ytbjpkklonjlmiaa
set_option linter.unusedVariables false
set_option maxRecDepth 1000000
set_option linter.unusedSimpArgs false
open Go.RowKit

/-- A drawn word: some number of the machine. -/
def W15 (x : Int) : Prop := -1 ≤ x ∧ x ≤ 256

set_option maxHeartbeats 1000000 in
theorem word15_c (g : Nat) (ao : Option Addr) (n c : Nat) (M : Int) (w : World) (hM : M ≤ 2000000000000000000) (h : Cur w g ao n c M) :
    Calls Try.prog 33 #[.pointer (some ⟨g, 0, none⟩)] w fun e w' => ∃ z : Int, e = .returned (.int .i64 z) ∧ W15 z ∧ Cur w' g ao n c (M + 4) ∧ GB g w w' := by
  have q := pick_c g ao n c M 256 w (by omega) (by omega) h
  clear h
  go_enter Try.func33, Try.ntmps33
  go_wp2_with fail
  refine q.mono ?_
  clear q
  rintro e w1 ⟨z, rfl, hz0, hz1, hc1, hg1⟩
  have HC1 : Hid (Cur w1 g ao n c (M + 2)) := hc1
  have HG1 : Hid (GB g w w1) := hg1
  have hgl := hc1.lt
  have hlit := lit_cells W15 w1 #[.int .i64 (-1), .int .i64 0, .int .i64 1, .int .i64 77, .int .i64 255, .int .i64 256, .int .i64 z] 3 7 rfl ⟨by unfold W15; omega, by unfold W15; omega, by unfold W15; omega, by unfold W15; omega, by unfold W15; omega, by unfold W15; omega, by unfold W15; omega, trivial⟩
  have HGA : Hid (GB g w (w1.alloc (.cells #[.int .i64 (-1), .int .i64 0, .int .i64 1, .int .i64 77, .int .i64 255, .int .i64 256, .int .i64 z] 3))) := hg1.trans (GB.of_below (balloc w1 _) (Nat.le_refl _))
  clear hc1 hg1 hz0 hz1
  go_wp2_with fail
  refine (among_p W15 g ao n c _ w1.heap.size 7 _ (by omega) (by omega) hlit (by omega) (HC1.out.alloc _)).mono ?_
  clear hlit
  rintro e w2 ⟨y, rfl, hy, hc2, hg2⟩
  have HY : Hid (W15 y) := hy
  have HC2 : Hid (Cur w2 g ao n c (M + 4)) := hc2.mono (by omega)
  have HG2 : Hid (GB g w w2) := HGA.out.trans hg2
  clear hy hc2 hg2
  go_wp2
  go_ret
  exact ⟨y, rfl, HY.out, HC2.out, HG2.out⟩

end Go.Proofs.Ytbjpkklonjlmiaa
