/- What chapter 2 draws: secrets, members, and the Draw.. functions: numbers of which nothing is said. -/
import Derived.Test.YtobomcmjilcnaaaD3
import Derived.Test.YtobomcmjilcnaaaPwSpec
namespace Go.Proofs.Ytobomcmjilcnaaa
set_option linter.unusedVariables false
set_option maxRecDepth 1000000
set_option linter.unusedSimpArgs false
open Go.RowKit

set_option maxHeartbeats 2000000 in
theorem secret_c (g : Nat) (ao : Option Addr) (n c : Nat) (M : Int) (w : World) (hM : M ≤ 1000000) (h : Cur w g ao n c M) :
    Calls Try.prog 76 #[.pointer (some ⟨g, 0, none⟩)] w fun e w' => ∃ z : Int, e = .returned (.int .i64 z) ∧ Cur w' g ao n c (M + 20) ∧ GB g w w' := by
  have HC : Hid (Cur w g ao n c M) := h
  have HG : Hid (GB g w w) := GB.refl _ _
  clear h
  go_enter Try.func76, Try.ntmps76
  go_wp2_with (first | (go_at_call 49; refine (pick_c g ao n c _ _ _ (by omega) (by omega) HC.out).mono ?_; rintro e w1 ⟨z, rfl, hz0, hz1, hc1, hg1⟩; replace HC : Hid (Cur w1 g ao n c _) := hc1; replace HG : Hid (GB g w w1) := HG.out.trans hg1; clear hc1 hg1) | (go_at_call 51; refine (among_p (fun _ => True) g ao n c _ w1.heap.size 9 _ (by omega) (by omega) (lit_cells _ _ _ _ _ rfl (by simp [allP])) (by have := HC.out.lt; omega) (HC.out.alloc _)).mono ?_; rintro e w2 ⟨y, rfl, _, hc1, hg1⟩; replace HC : Hid (Cur w2 g ao n c _) := hc1; replace HG : Hid (GB g w w2) := (HG.out.alloc _).trans hg1; clear hc1 hg1))
  go_ret
  exact ⟨y, rfl, HC.out.mono (by omega), HG.out⟩

set_option maxHeartbeats 2000000 in
theorem member_c (g : Nat) (ao : Option Addr) (n c : Nat) (M : Int) (w : World) (hM : M ≤ 1000000) (h : Cur w g ao n c M) :
    Calls Try.prog 66 #[.pointer (some ⟨g, 0, none⟩)] w fun e w' => ∃ z : Int, e = .returned (.int .i64 z) ∧ Cur w' g ao n c (M + 20) ∧ GB g w w' := by
  have HC : Hid (Cur w g ao n c M) := h
  have HG : Hid (GB g w w) := GB.refl _ _
  clear h
  go_enter Try.func66, Try.ntmps66
  go_wp2_with (first | (go_at_call 50; refine (one_c g ao n c _ _ _ (by omega) (by omega) HC.out).mono ?_; rintro e w1 ⟨zb, rfl, hc1, hg1⟩; replace HC : Hid (Cur w1 g ao n c _) := hc1; replace HG : Hid (GB g w w1) := HG.out.trans hg1; clear hc1 hg1) | (go_at_call 49; refine (pick_c g ao n c _ _ _ (by omega) (by omega) HC.out).mono ?_; rintro e w1 ⟨z, rfl, hz0, hz1, hc1, hg1⟩; replace HC : Hid (Cur w1 g ao n c _) := hc1; replace HG : Hid (GB g w w1) := HG.out.trans hg1; clear hc1 hg1) | (go_at_call 42; obtain ⟨q, hq⟩ : ∃ q : Nat, z * 6 = q := ⟨(z * 6).toNat, by omega⟩; rw [hq]; refine (l2Power_c 4 q _ (by omega) (by omega) (by omega)).mono ?_; rintro e w' ⟨rfl, hw⟩; subst w') | (go_at_call 51; refine (among_p (fun _ => True) g ao n c _ w1.heap.size 6 _ (by omega) (by omega) (lit_cells _ _ _ _ _ rfl (by simp [allP])) (by have := HC.out.lt; omega) (HC.out.alloc _)).mono ?_; rintro e w2 ⟨y, rfl, _, hc1, hg1⟩; replace HC : Hid (Cur w2 g ao n c _) := hc1; replace HG : Hid (GB g w w2) := (HG.out.alloc _).trans hg1; clear hc1 hg1))
  all_goals go_ret
  all_goals exact ⟨_, rfl, HC.out.mono (by omega), HG.out⟩

end Go.Proofs.Ytobomcmjilcnaaa
