/- Contracts of chapter 2, the program's side: members, powers, inverses, shared secrets, opening, products of sealed numbers. -/
import Derived.Test.YtobomcmjilcnaaaDoorPwImpl
namespace Go.Proofs.YtobomcmjilcnaaaDoor
set_option linter.unusedVariables false
set_option maxRecDepth 1000000
set_option linter.unusedSimpArgs false
open Go.RowKit

theorem inverseOfRest_c (a : Int) (w : World) (a0 : 0 ≤ a) (a1 : a < 2999) : Calls Tryd.prog 65 #[.int .i64 a] w fun e w' => e = .returned (.int .i64 (pw a 2997)) ∧ w' = w := by
  generalize hp : pw a 2997 = p
  go_enter Tryd.func65, Tryd.ntmps65
  go_wp2_with fail
  refine (powerOfRest_c a 2997 _ a0 a1 (by omega)).mono ?_
  rw [hp]
  clear hp
  rintro e w' ⟨rfl, rfl⟩
  go_wp2
  go_ret
  exact ⟨rfl, rfl⟩

theorem implMember_c (a : Int) (w : World) : Calls Tryd.prog 44 #[.int .i64 a] w fun e w' => e = .returned (.bool (memB a)) ∧ w' = w := by
  by_cases h : 1 ≤ a ∧ a ≤ 2998
  · have hd : decide (1 ≤ a ∧ a ≤ 2998) = true := decide_eq_true h
    have hm : memB a = (pw a 1499 == 1) := by simp [memB, h]
    rw [hm]
    clear hm
    generalize hp : pw a 1499 = p
    go_enter Tryd.func44, Tryd.ntmps44
    go_wp2_with (first
      | (go_at_call 64; refine (isRest_c a _).mono ?_; rw [hd]; clear hd; rintro e w' ⟨rfl, rfl⟩)
      | (go_at_call 55; refine (powerOfRest_c a 1499 _ (by omega) (by omega) (by omega)).mono ?_; rw [hp]; clear hp; rintro e w' ⟨rfl, rfl⟩))
    go_ret
    exact ⟨rfl, rfl⟩
  · have hd : decide (1 ≤ a ∧ a ≤ 2998) = false := decide_eq_false h
    have hm : memB a = false := by simp only [memB, hd, Bool.false_and]
    rw [hm]
    go_enter Tryd.func44, Tryd.ntmps44
    go_wp2_with (go_at_call 64; refine (isRest_c a _).mono ?_; rw [hd]; clear hd; rintro e w' ⟨rfl, rfl⟩)
    go_ret
    exact ⟨rfl, rfl⟩

theorem isSealed_c (x y : Int) (w : World) : Calls Tryd.prog 39 #[.agg #[.int .i64 x, .int .i64 y]] w fun e w' => e = .returned (.bool (sealB x y)) ∧ Below w.heap.size w w' := by
  have HB : Hid (Below w.heap.size w (w.alloc (Obj.cells #[Value.int .i64 x, Value.int .i64 y] 31))) := (Below.refl _ _).alloc (Nat.le_refl _) _
  unfold sealB
  cases hx : memB x
  · rw [Bool.false_and]
    go_enter Tryd.func39, Tryd.ntmps39
    go_wp2_with (go_at_call 44; refine (implMember_c _ _).mono ?_; rw [hx]; clear hx; rintro e w' ⟨rfl, rfl⟩)
    go_ret
    exact ⟨rfl, HB.out⟩
  · rw [Bool.true_and]
    generalize hy : memB y = b
    go_enter Tryd.func39, Tryd.ntmps39
    go_wp2_with (go_at_call 44; refine (implMember_c _ _).mono ?_; (first | (rw [hx]; clear hx) | (rw [hy]; clear hy)); rintro e w' ⟨rfl, rfl⟩)
    go_ret
    exact ⟨rfl, HB.out⟩

set_option maxHeartbeats 1000000 in
theorem implShared_c (s p : Int) (w : World) : Calls Tryd.prog 42 #[.int .i64 s, .int .i64 p] w fun e w' => e = .returned (.tuple #[.int .i64 (if shareB s p = true then pw p s.toNat else 0), .bool (shareB s p)]) ∧ w' = w := by
  cases g0 : decide (1 ≤ s ∧ s ≤ 1498)
  · have hb : shareB s p = false := by simp only [shareB, g0, Bool.false_and, Bool.and_false, Bool.true_and, Bool.and_true]
    rw [hb]; clear hb
    simp only [Bool.false_eq_true, if_false]
    go_enter Tryd.func42, Tryd.ntmps42
    go_wp2_with (first | (go_at_call 62; refine (isSecret_c _ _).mono ?_; rw [g0]; clear g0; rintro e w' ⟨rfl, rfl⟩))
    refine bodyPost_ret (v := .tuple #[.int .i64 0, .bool false]) (by simp [results, Tryd.results42, go_sem]) rfl ⟨rfl, rfl⟩
  ·
    cases g1 : memB p
    · have hb : shareB s p = false := by simp only [shareB, g0, g1, Bool.false_and, Bool.and_false, Bool.true_and, Bool.and_true]
      rw [hb]; clear hb
      simp only [Bool.false_eq_true, if_false]
      go_enter Tryd.func42, Tryd.ntmps42
      go_wp2_with (first | (go_at_call 62; refine (isSecret_c _ _).mono ?_; rw [g0]; clear g0; rintro e w' ⟨rfl, rfl⟩) | (go_at_call 44; refine (implMember_c p _).mono ?_; rw [g1]; clear g1; rintro e w' ⟨rfl, rfl⟩))
      refine bodyPost_ret (v := .tuple #[.int .i64 0, .bool false]) (by simp [results, Tryd.results42, go_sem]) rfl ⟨rfl, rfl⟩
    · have hb : shareB s p = true := by simp only [shareB, g0, g1, Bool.and_self]
      rw [hb]; clear hb
      simp only [if_true]
      have hs := of_decide_eq_true g0
      have hm := memB_in g1
      obtain ⟨q, rfl⟩ : ∃ q : Nat, s = q := ⟨s.toNat, by omega⟩
      rw [Int.toNat_natCast]
      generalize hp : pw p q = r
      go_enter Tryd.func42, Tryd.ntmps42
      go_wp2_with (first | (go_at_call 62; refine (isSecret_c _ _).mono ?_; rw [g0]; clear g0; rintro e w' ⟨rfl, rfl⟩) | (go_at_call 44; refine (implMember_c p _).mono ?_; rw [g1]; clear g1; rintro e w' ⟨rfl, rfl⟩) | (go_at_call 55; refine (powerOfRest_c p q _ (by omega) (by omega) (by omega)).mono ?_; rw [hp]; clear hp; rintro e w' ⟨rfl, rfl⟩))
      refine bodyPost_ret (v := .tuple #[.int .i64 r, .bool true]) (by simp [results, Tryd.results42, go_sem]) rfl ⟨rfl, rfl⟩

end Go.Proofs.YtobomcmjilcnaaaDoor
