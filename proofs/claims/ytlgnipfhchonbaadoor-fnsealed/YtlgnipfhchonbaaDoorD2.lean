/- What chapter 2 draws: secrets, members, and the Draw.. functions: numbers of which nothing is said. -/
import Derived.Test.YtlgnipfhchonbaaDoorD3
import Derived.Test.YtlgnipfhchonbaaDoorPwSpec
namespace Go.Proofs.YtlgnipfhchonbaaDoor
set_option linter.unusedVariables false
set_option linter.unusedSimpArgs false
open Go.RowKit

set_option maxHeartbeats 2000000 in
theorem secret_c (g : Nat) (ao : Option Addr) (n c : Nat) (M : Int) (w : World) (hM : M ≤ 1000000) (h : Cur w g ao n c M) :
    Calls Tryd.prog 37 #[.pointer (some ⟨g, 0, none⟩)] w fun e w' => ∃ z : Int, e = .returned (.int .i64 z) ∧ Cur w' g ao n c (M + 20) ∧ GB g w w' := by
  have HC : Hid (Cur w g ao n c M) := h
  have HG : Hid (GB g w w) := GB.refl _ _
  clear h
  go_enter Tryd.func37, Tryd.ntmps37
  go_wp2_with (first | (go_at_call 45; refine (pick_c g ao n c _ _ _ (by omega) (by omega) HC.out).mono ?_; rintro e w1 ⟨z, rfl, hz0, hz1, hc1, hg1⟩; replace HC : Hid (Cur w1 g ao n c _) := hc1; replace HG : Hid (GB g w w1) := HG.out.trans hg1; clear hc1 hg1) | (go_at_call 44; refine (among_p (fun _ => True) g ao n c _ w1.heap.size 9 _ (by omega) (by omega) (lit_cells _ _ _ _ _ rfl (by simp [allP])) (by have := HC.out.lt; omega) (HC.out.alloc _)).mono ?_; rintro e w2 ⟨y, rfl, _, hc1, hg1⟩; replace HC : Hid (Cur w2 g ao n c _) := hc1; replace HG : Hid (GB g w w2) := (HG.out.alloc _).trans hg1; clear hc1 hg1))
  go_ret
  exact ⟨y, rfl, HC.out.mono (by omega), HG.out⟩

set_option maxHeartbeats 2000000 in
theorem member_c (g : Nat) (ao : Option Addr) (n c : Nat) (M : Int) (w : World) (hM : M ≤ 1000000) (h : Cur w g ao n c M) :
    Calls Tryd.prog 50 #[.pointer (some ⟨g, 0, none⟩)] w fun e w' => ∃ z : Int, e = .returned (.int .i64 z) ∧ Cur w' g ao n c (M + 20) ∧ GB g w w' := by
  have HC : Hid (Cur w g ao n c M) := h
  have HG : Hid (GB g w w) := GB.refl _ _
  clear h
  go_enter Tryd.func50, Tryd.ntmps50
  go_wp2_with (first | (go_at_call 58; refine (one_c g ao n c _ _ _ (by omega) (by omega) HC.out).mono ?_; rintro e w1 ⟨zb, rfl, hc1, hg1⟩; replace HC : Hid (Cur w1 g ao n c _) := hc1; replace HG : Hid (GB g w w1) := HG.out.trans hg1; clear hc1 hg1) | (go_at_call 45; refine (pick_c g ao n c _ _ _ (by omega) (by omega) HC.out).mono ?_; rintro e w1 ⟨z, rfl, hz0, hz1, hc1, hg1⟩; replace HC : Hid (Cur w1 g ao n c _) := hc1; replace HG : Hid (GB g w w1) := HG.out.trans hg1; clear hc1 hg1) | (go_at_call 41; obtain ⟨q, hq⟩ : ∃ q : Nat, z * 6 = q := ⟨(z * 6).toNat, by omega⟩; rw [hq]; refine (l2Power_c 4 q _ (by omega) (by omega) (by omega)).mono ?_; rintro e w' ⟨rfl, hw⟩; subst w') | (go_at_call 44; refine (among_p (fun _ => True) g ao n c _ w1.heap.size 6 _ (by omega) (by omega) (lit_cells _ _ _ _ _ rfl (by simp [allP])) (by have := HC.out.lt; omega) (HC.out.alloc _)).mono ?_; rintro e w2 ⟨y, rfl, _, hc1, hg1⟩; replace HC : Hid (Cur w2 g ao n c _) := hc1; replace HG : Hid (GB g w w2) := (HG.out.alloc _).trans hg1; clear hc1 hg1))
  all_goals go_ret
  all_goals exact ⟨_, rfl, HC.out.mono (by omega), HG.out⟩

set_option maxHeartbeats 2000000 in
theorem drawPublicFor_c (ao : Option Addr) (n c : Nat) (w : World) (hn : n ≤ 9223372036854775807) (h : CodeOk w w.heap.size ao n) :
    Calls Tryd.prog 8 #[.slice ao n c] w fun e w' => ∃ x1 : Int, e = .returned (.int .i64 x1) ∧ Below w.heap.size w w' := by
  have HC : Hid (Cur (w.alloc (.cells #[.slice ao n c, .int .i64 0, .int .u64 0] 54)) w.heap.size ao n c 0) := cur_new _ hn h
  have HG : Hid (GB w.heap.size w (w.alloc (.cells #[.slice ao n c, .int .i64 0, .int .u64 0] 54))) := (GB.refl _ _).alloc _
  clear h
  go_enter Tryd.func8, Tryd.ntmps8
  go_wp2_with (first | (go_at_call 37; refine (secret_c w.heap.size ao n c _ _ (by omega) HC.out).mono ?_; rintro e w1 ⟨x1, rfl, hc1, hg1⟩; replace HC : Hid (Cur w1 w.heap.size ao n c _) := hc1; replace HG : Hid (GB w.heap.size w w1) := HG.out.trans hg1; clear hc1 hg1))
  go_ret
  exact ⟨x1, rfl, HG.out.below (Nat.le_refl _) (Nat.le_refl _)⟩

set_option maxHeartbeats 2000000 in
theorem drawIsMember_c (ao : Option Addr) (n c : Nat) (w : World) (hn : n ≤ 9223372036854775807) (h : CodeOk w w.heap.size ao n) :
    Calls Tryd.prog 20 #[.slice ao n c] w fun e w' => ∃ x1 : Int, e = .returned (.int .i64 x1) ∧ Below w.heap.size w w' := by
  have HC : Hid (Cur (w.alloc (.cells #[.slice ao n c, .int .i64 0, .int .u64 0] 54)) w.heap.size ao n c 0) := cur_new _ hn h
  have HG : Hid (GB w.heap.size w (w.alloc (.cells #[.slice ao n c, .int .i64 0, .int .u64 0] 54))) := (GB.refl _ _).alloc _
  clear h
  go_enter Tryd.func20, Tryd.ntmps20
  go_wp2_with (first | (go_at_call 50; refine (member_c w.heap.size ao n c _ _ (by omega) HC.out).mono ?_; rintro e w1 ⟨x1, rfl, hc1, hg1⟩; replace HC : Hid (Cur w1 w.heap.size ao n c _) := hc1; replace HG : Hid (GB w.heap.size w w1) := HG.out.trans hg1; clear hc1 hg1))
  go_ret
  exact ⟨x1, rfl, HG.out.below (Nat.le_refl _) (Nat.le_refl _)⟩

set_option maxHeartbeats 2000000 in
theorem drawSharedOf_c (ao : Option Addr) (n c : Nat) (w : World) (hn : n ≤ 9223372036854775807) (h : CodeOk w w.heap.size ao n) :
    Calls Tryd.prog 18 #[.slice ao n c] w fun e w' => ∃ x1 x2 : Int, e = .returned (.tuple #[.int .i64 x1, .int .i64 x2]) ∧ Below w.heap.size w w' := by
  have HC : Hid (Cur (w.alloc (.cells #[.slice ao n c, .int .i64 0, .int .u64 0] 54)) w.heap.size ao n c 0) := cur_new _ hn h
  have HG : Hid (GB w.heap.size w (w.alloc (.cells #[.slice ao n c, .int .i64 0, .int .u64 0] 54))) := (GB.refl _ _).alloc _
  clear h
  go_enter Tryd.func18, Tryd.ntmps18
  go_wp2_with (first | (go_at_call 37; refine (secret_c w.heap.size ao n c _ _ (by omega) HC.out).mono ?_; rintro e w1 ⟨x1, rfl, hc1, hg1⟩; replace HC : Hid (Cur w1 w.heap.size ao n c _) := hc1; replace HG : Hid (GB w.heap.size w w1) := HG.out.trans hg1; clear hc1 hg1) | (go_at_call 50; refine (member_c w.heap.size ao n c _ _ (by omega) HC.out).mono ?_; rintro e w1 ⟨x2, rfl, hc1, hg1⟩; replace HC : Hid (Cur w1 w.heap.size ao n c _) := hc1; replace HG : Hid (GB w.heap.size w w1) := HG.out.trans hg1; clear hc1 hg1))
  refine bodyPost_ret (v := .tuple #[.int .i64 x1, .int .i64 x2]) (by simp [results, Tryd.results18, go_sem]) rfl ⟨x1, x2, rfl, HG.out.below (Nat.le_refl _) (Nat.le_refl _)⟩

set_option maxHeartbeats 2000000 in
theorem drawPowerOf_c (ao : Option Addr) (n c : Nat) (w : World) (hn : n ≤ 9223372036854775807) (h : CodeOk w w.heap.size ao n) :
    Calls Tryd.prog 13 #[.slice ao n c] w fun e w' => ∃ x1 x2 : Int, e = .returned (.tuple #[.int .i64 x1, .int .i64 x2]) ∧ Below w.heap.size w w' := by
  have HC : Hid (Cur (w.alloc (.cells #[.slice ao n c, .int .i64 0, .int .u64 0] 54)) w.heap.size ao n c 0) := cur_new _ hn h
  have HG : Hid (GB w.heap.size w (w.alloc (.cells #[.slice ao n c, .int .i64 0, .int .u64 0] 54))) := (GB.refl _ _).alloc _
  clear h
  have tok1 : True := trivial
  go_enter Tryd.func13, Tryd.ntmps13
  go_wp2_with (first | (go_at_call 45; refine (pick_c w.heap.size ao n c _ _ _ (by omega) (by omega) HC.out).mono ?_; rintro e w1 ⟨z, rfl, hz0, hz1, hc1, hg1⟩; replace HC : Hid (Cur w1 w.heap.size ao n c _) := hc1; replace HG : Hid (GB w.heap.size w w1) := HG.out.trans hg1; clear hc1 hg1) | (go_at_call 44; have _t := tok1; refine (among_p (fun _ => True) w.heap.size ao n c _ w1.heap.size 7 _ (by omega) (by omega) (lit_cells _ _ _ _ _ rfl (by simp [allP])) (by have := HC.out.lt; omega) (HC.out.alloc _)).mono ?_; rintro e w1 ⟨x1, rfl, _, hc1, hg1⟩; replace HC : Hid (Cur w1 w.heap.size ao n c _) := hc1; replace HG : Hid (GB w.heap.size w w1) := (HG.out.alloc _).trans hg1; clear hc1 hg1 tok1 _t) | (go_at_call 44; refine (among_p (fun _ => True) w.heap.size ao n c _ w1.heap.size 8 _ (by omega) (by omega) (lit_cells _ _ _ _ _ rfl (by simp [allP])) (by have := HC.out.lt; omega) (HC.out.alloc _)).mono ?_; rintro e w1 ⟨x2, rfl, _, hc1, hg1⟩; replace HC : Hid (Cur w1 w.heap.size ao n c _) := hc1; replace HG : Hid (GB w.heap.size w w1) := (HG.out.alloc _).trans hg1; clear hc1 hg1))
  refine bodyPost_ret (v := .tuple #[.int .i64 x1, .int .i64 x2]) (by simp [results, Tryd.results13, go_sem]) rfl ⟨x1, x2, rfl, HG.out.below (Nat.le_refl _) (Nat.le_refl _)⟩

end Go.Proofs.YtlgnipfhchonbaaDoor
