/- Contracts of SealAgain and SealNumber on both sides. -/
import Derived.Test.YtobomcmjilcnaaaAgain2
namespace Go.Proofs.Ytobomcmjilcnaaa
set_option linter.unusedVariables false
set_option maxRecDepth 1000000
set_option linter.unusedSimpArgs false
open Go.RowKit
attribute [local go_sem ↓] Go.wp_at_zero Go.wp_at_succ

theorem memB_one : memB 1 = true := by simp [memB, pw, Int.one_pow]

set_option maxHeartbeats 2000000 in
theorem specNumber_c (p s m : Int) (w : World) : Calls Try.prog 73 #[.int .i64 p, .int .i64 s, .int .i64 m] w fun e w' => e = .returned (.tuple #[.agg #[.int .i64 (if againB p s 1 m = true then 1 * pw 4 s.toNat % 2999 else 0), .int .i64 (if againB p s 1 m = true then m * pw p s.toNat % 2999 else 0)], .bool (againB p s 1 m)]) ∧ Below w.heap.size w w' := by
  have T0 : Hid (C2 (w.alloc (Obj.cells #[Value.int .i64 0, Value.int .i64 0] 25)) w.heap.size 0 0) := c2_new _ _ _ _ _ rfl
  have HB0 : Hid (Below w.heap.size w (w.alloc (Obj.cells #[Value.int .i64 0, Value.int .i64 0] 25))) := below_one _ _
  cases g0 : memB p
  · have hb0 : againB p s 1 m = false := by simp only [againB, sealB, memB_one, g0, Bool.false_and, Bool.and_false, Bool.true_and]
    rw [hb0]; clear hb0
    simp only [Bool.false_eq_true, if_false]
    go_enter Try.func73, Try.ntmps73
    go_wp2_with (first | (go_at_call 54; refine (specMember_c _ _).mono ?_; rw [g0]; clear g0; rintro e w' ⟨rfl, rfl⟩))
    refine bodyPost_ret (v := .tuple #[.agg #[.int .i64 0, .int .i64 0], .bool false]) (by simp [results, Try.results73, go_sem]) rfl ⟨rfl, ?_⟩
    first | exact HB0.out | exact (HB0.out.setCell (by simp) _).setCell (by simp) _
  ·
    cases g1 : secB s
    · have hb0 : againB p s 1 m = false := by simp only [againB, sealB, memB_one, g0, g1, Bool.false_and, Bool.and_false, Bool.true_and]
      rw [hb0]; clear hb0
      simp only [Bool.false_eq_true, if_false]
      unfold secB at g1
      go_enter Try.func73, Try.ntmps73
      go_wp2_with (first | (go_at_call 54; refine (specMember_c _ _).mono ?_; rw [g0]; clear g0; rintro e w' ⟨rfl, rfl⟩) | (go_at_call 64; refine (l2Secret_c _ _).mono ?_; rw [g1]; clear g1; rintro e w' ⟨rfl, rfl⟩))
      refine bodyPost_ret (v := .tuple #[.agg #[.int .i64 0, .int .i64 0], .bool false]) (by simp [results, Try.results73, go_sem]) rfl ⟨rfl, ?_⟩
      first | exact HB0.out | exact (HB0.out.setCell (by simp) _).setCell (by simp) _
    ·
      cases g2 : memB m
      · have hb0 : againB p s 1 m = false := by simp only [againB, sealB, memB_one, g0, g1, g2, Bool.false_and, Bool.and_false, Bool.true_and]
        rw [hb0]; clear hb0
        simp only [Bool.false_eq_true, if_false]
        unfold secB at g1
        go_enter Try.func73, Try.ntmps73
        go_wp2_with (first | (go_at_call 54; refine (specMember_c _ _).mono ?_; rw [g0]; clear g0; rintro e w' ⟨rfl, rfl⟩) | (go_at_call 64; refine (l2Secret_c _ _).mono ?_; rw [g1]; clear g1; rintro e w' ⟨rfl, rfl⟩) | (go_at_call 54; refine (specMember_c _ _).mono ?_; rw [g2]; clear g2; rintro e w' ⟨rfl, rfl⟩))
        refine bodyPost_ret (v := .tuple #[.agg #[.int .i64 0, .int .i64 0], .bool false]) (by simp [results, Try.results73, go_sem]) rfl ⟨rfl, ?_⟩
        first | exact HB0.out | exact (HB0.out.setCell (by simp) _).setCell (by simp) _
      · have hb0 : againB p s 1 m = true := by simp only [againB, sealB, memB_one, g0, g1, g2, Bool.and_self]
        rw [hb0]; clear hb0
        simp only [if_true]
        have hm := memB_in g0
        have hmm := memB_in g2
        have hs : 1 ≤ s ∧ s ≤ 1498 := by unfold secB at g1; exact of_decide_eq_true g1
        unfold secB at g1
        obtain ⟨q, rfl⟩ : ∃ q : Nat, s = q := ⟨s.toNat, by omega⟩
        rw [Int.toNat_natCast]
        have hc := fun wx => l2Again_c p 1 m q wx (by omega) (by omega) (by omega) (by omega)
        generalize 1 * pw 4 q % 2999 = r1 at *
        generalize m * pw p q % 2999 = r2 at *
        have HC : Hid (∀ wx, Calls Try.prog 77 #[.int .i64 p, .int .i64 q, .agg #[.int .i64 1, .int .i64 m]] wx fun e w' => e = .returned (.agg #[.int .i64 r1, .int .i64 r2]) ∧ Below wx.heap.size wx w') := hc
        clear hc
        go_enter Try.func73, Try.ntmps73
        go_wp2_with (first | (go_at_call 54; refine (specMember_c _ _).mono ?_; rw [g0]; clear g0; rintro e w' ⟨rfl, rfl⟩) | (go_at_call 64; refine (l2Secret_c _ _).mono ?_; rw [g1]; clear g1; rintro e w' ⟨rfl, rfl⟩) | (go_at_call 54; refine (specMember_c _ _).mono ?_; rw [g2]; clear g2; rintro e w' ⟨rfl, rfl⟩) | fail)
        refine (HC.out _).mono ?_
        rintro e w1 ⟨rfl, hb⟩
        have T1 : Hid (C2 w1 w.heap.size 0 0) := T0.out.keep hb; have HB1 : Hid (Below w.heap.size w w1) := HB0.out.trans (hb.mono (by simp)); clear hb T0 HB0
        obtain ⟨ta, tb, tc, td⟩ := T1.out
        have lt := T1.out.lt
        go_wp2
        refine bodyPost_ret (v := .tuple #[.agg #[.int .i64 r1, .int .i64 r2], .bool true]) (by simp [results, Try.results73, go_sem, ta, tb]) rfl ⟨rfl, ?_⟩
        exact (HB1.out.setCell (by simp; try omega) _).setCell (by simp; try omega) _

end Go.Proofs.Ytobomcmjilcnaaa
