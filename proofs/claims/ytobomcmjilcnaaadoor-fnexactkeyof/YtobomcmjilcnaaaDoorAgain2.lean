/- Contracts of SealAgain and SealNumber on both sides. -/
import Derived.Test.YtobomcmjilcnaaaDoorAgain
namespace Go.Proofs.YtobomcmjilcnaaaDoor
set_option linter.unusedVariables false
set_option maxRecDepth 1000000
set_option linter.unusedSimpArgs false
open Go.RowKit
attribute [local go_sem ↓] Go.wp_at_zero Go.wp_at_succ

def againB (p s x y : Int) : Bool := memB p && secB s && sealB x y

set_option maxHeartbeats 2000000 in
theorem implAgain_c (p s x y : Int) (w : World) (ht : Tab w) : Calls Tryd.prog 63 #[.int .i64 p, .int .i64 s, .agg #[.int .i64 x, .int .i64 y]] w fun e w' => e = .returned (.tuple #[.agg #[.int .i64 (if againB p s x y = true then x * pw 4 s.toNat % 2999 else 0), .int .i64 (if againB p s x y = true then y * pw p s.toNat % 2999 else 0)], .bool (againB p s x y)]) ∧ Below w.heap.size w w' := by
  have X0 : Hid (C2 ((w.alloc (Obj.cells #[Value.int .i64 x, Value.int .i64 y] 31)).alloc (Obj.cells #[Value.int .i64 0, Value.int .i64 0] 31)) w.heap.size x y) := (c2_new _ _ _ _ _ rfl).alloc _
  have T0 : Hid (C2 ((w.alloc (Obj.cells #[Value.int .i64 x, Value.int .i64 y] 31)).alloc (Obj.cells #[Value.int .i64 0, Value.int .i64 0] 31)) (w.heap.size + 1) 0 0) := c2_new _ _ _ _ _ (by simp)
  have HB0 : Hid (Below w.heap.size w ((w.alloc (Obj.cells #[Value.int .i64 x, Value.int .i64 y] 31)).alloc (Obj.cells #[Value.int .i64 0, Value.int .i64 0] 31))) := below_two _ _ _
  have HT0 : Hid (Tab ((w.alloc (Obj.cells #[Value.int .i64 x, Value.int .i64 y] 31)).alloc (Obj.cells #[Value.int .i64 0, Value.int .i64 0] 31))) := Tab.keep ht (below_two _ _ _)
  clear ht
  cases g0 : memB p
  · have hb0 : againB p s x y = false := by simp only [againB, g0, Bool.false_and, Bool.and_false, Bool.true_and]
    rw [hb0]; clear hb0
    simp only [Bool.false_eq_true, if_false]
    go_enter Tryd.func63, Tryd.ntmps63
    go_wp2_with (first | (go_at_call 44; refine (implMember_c _ _).mono ?_; rw [g0]; clear g0; rintro e w' ⟨rfl, rfl⟩))
    refine bodyPost_ret (v := .tuple #[.agg #[.int .i64 0, .int .i64 0], .bool false]) (by simp [results, Tryd.results63, go_sem]) rfl ⟨rfl, ?_⟩
    first | exact HB0.out | exact (HB0.out.setCell (by simp) _).setCell (by simp) _
  ·
    cases g1 : secB s
    · have hb0 : againB p s x y = false := by simp only [againB, g0, g1, Bool.false_and, Bool.and_false, Bool.true_and]
      rw [hb0]; clear hb0
      simp only [Bool.false_eq_true, if_false]
      have g1' := g1
      unfold secB at g1
      go_enter Tryd.func63, Tryd.ntmps63
      go_wp2_with (first | (go_at_call 44; refine (implMember_c _ _).mono ?_; rw [g0]; clear g0; rintro e w' ⟨rfl, rfl⟩) | (go_at_call 62; refine (isSecret_c _ _).mono ?_; rw [g1]; clear g1; rintro e w' ⟨rfl, rfl⟩))
      refine bodyPost_ret (v := .tuple #[.agg #[.int .i64 0, .int .i64 0], .bool false]) (by simp [results, Tryd.results63, go_sem]) rfl ⟨rfl, ?_⟩
      first | exact HB0.out | exact (HB0.out.setCell (by simp) _).setCell (by simp) _
    ·
      cases g2 : sealB x y
      · have hb0 : againB p s x y = false := by simp only [againB, g0, g1, g2, Bool.false_and, Bool.and_false, Bool.true_and]
        rw [hb0]; clear hb0
        simp only [Bool.false_eq_true, if_false]
        have g1' := g1
        unfold secB at g1
        go_enter Tryd.func63, Tryd.ntmps63
        go_wp2_with (first | (go_at_call 44; refine (implMember_c _ _).mono ?_; rw [g0]; clear g0; rintro e w' ⟨rfl, rfl⟩) | (go_at_call 62; refine (isSecret_c _ _).mono ?_; rw [g1]; clear g1; rintro e w' ⟨rfl, rfl⟩) | fail)
        refine (isSealed_c _ _ _).mono ?_
        rw [g2]; clear g2
        rintro e w1 ⟨rfl, hb⟩
        have X1 : Hid (C2 w1 w.heap.size x y) := X0.out.keep hb; have T1 : Hid (C2 w1 (w.heap.size + 1) 0 0) := T0.out.keep hb; have HB1 : Hid (Below w.heap.size w w1) := HB0.out.trans (hb.mono (by have := X0.out.lt; omega)); have HT1 : Hid (Tab w1) := HT0.out.keep hb; clear hb X0 T0 HB0 HT0
        obtain ⟨xa, xb, xc, xd⟩ := X1.out; obtain ⟨ta, tb, tc, td⟩ := T1.out; have lt := X1.out.lt; have lt2 := T1.out.lt
        go_wp2
        refine bodyPost_ret (v := .tuple #[.agg #[.int .i64 0, .int .i64 0], .bool false]) (by simp [results, Tryd.results63, go_sem, ta, tb]) rfl ⟨rfl, ?_⟩
        exact (HB1.out.setCell (by simp; try omega) _).setCell (by simp; try omega) _
      · have hb0 : againB p s x y = true := by simp only [againB, g0, g1, g2, Bool.and_self]
        rw [hb0]; clear hb0
        simp only [if_true]
        have hm := memB_in g0
        have hxy := sealB_in g2
        have hs : 1 ≤ s ∧ s ≤ 1498 := by unfold secB at g1; exact of_decide_eq_true g1
        unfold secB at g1
        obtain ⟨q, rfl⟩ : ∃ q : Nat, s = q := ⟨s.toNat, by omega⟩
        rw [Int.toNat_natCast]
        have l1 := pw_lo 4 q
        have l2 := pw_hi 4 q
        have l3 := pw_lo p q
        have l4 := pw_hi p q
        go_enter Tryd.func63, Tryd.ntmps63
        go_wp2_with (first | (go_at_call 44; refine (implMember_c _ _).mono ?_; rw [g0]; clear g0; rintro e w' ⟨rfl, rfl⟩) | (go_at_call 62; refine (isSecret_c _ _).mono ?_; rw [g1]; clear g1; rintro e w' ⟨rfl, rfl⟩) | fail)
        refine (isSealed_c _ _ _).mono ?_
        rw [g2]; clear g2
        rintro e w1 ⟨rfl, hb⟩
        have X1 : Hid (C2 w1 w.heap.size x y) := X0.out.keep hb; have T1 : Hid (C2 w1 (w.heap.size + 1) 0 0) := T0.out.keep hb; have HB1 : Hid (Below w.heap.size w w1) := HB0.out.trans (hb.mono (by have := X0.out.lt; omega)); have HT1 : Hid (Tab w1) := HT0.out.keep hb; clear hb X0 T0 HB0 HT0
        obtain ⟨xa, xb, xc, xd⟩ := X1.out; obtain ⟨ta, tb, tc, td⟩ := T1.out; have lt := X1.out.lt; have lt2 := T1.out.lt
        go_wp2_with fail
        go_region_held3 (fun w' => w'.cell? ⟨w.heap.size, 0, none⟩ = some (.int .i64 x) ∧ w'.cell? ⟨w.heap.size, 1, none⟩ = some (.int .i64 y)) (first | go_keep | exact ⟨((X2.out.other (by omega) _ _).other (by omega) _ _).1, ((X2.out.other (by omega) _ _).other (by omega) _ _).2.1⟩ | exact ⟨(X2.out.other (by omega) _ _).1, (X2.out.other (by omega) _ _).2.1⟩) (first | (go_at_call 35; refine (rootTo_c q _ (by omega) (HT1.out.keep (by repeat (first | with_reducible exact Below.refl _ _ | refine Below.drew ?_)))).mono ?_; rintro e w' ⟨rfl, rfl⟩) | (go_at_call 55; refine (powerOfRest_c p q _ (by omega) (by omega) (by omega)).mono ?_; rintro e w' ⟨rfl, rfl⟩) | (go_at_call 41; refine (timesBoth_c x y (pw 4 q) (pw p q) _ (by omega) (by omega) (by omega) (by omega)).mono ?_; rintro e w2 ⟨rfl, hb⟩; clear xa xb xc xd ta tb tc td lt lt2; have X2 : Hid (C2 w2 w.heap.size x y) := (by show C2 _ _ _ _; refine C2.keep ?_ hb; repeat (first | with_reducible exact X1.out | refine C2.drew ?_)); have T2 : Hid (C2 w2 (w.heap.size + 1) 0 0) := (by show C2 _ _ _ _; refine C2.keep ?_ hb; repeat (first | with_reducible exact T1.out | refine C2.drew ?_)); have HB2 : Hid (Below w.heap.size w w2) := (by show Below _ _ _; refine Below.trans ?_ (hb.mono (by have := X1.out.lt; simp; omega)); repeat (first | with_reducible exact HB1.out | refine Below.drew ?_)); clear hb; obtain ⟨xa, xb, xc, xd⟩ := X2.out; obtain ⟨ta, tb, tc, td⟩ := T2.out; have lt := X2.out.lt; have lt2 := T2.out.lt))
        all_goals go_wp2
        all_goals refine bodyPost_ret (v := .tuple #[.agg #[.int .i64 (x * pw 4 q % 2999), .int .i64 (y * pw p q % 2999)], .bool true]) (by simp [results, Tryd.results63, go_sem, ta, tb]) rfl ⟨rfl, ?_⟩
        all_goals (repeat (first | with_reducible exact HB2.out | refine Below.drew ?_ | refine Below.setCell ?_ (by first | omega | (simp; done) | (simp; omega)) _))

end Go.Proofs.YtobomcmjilcnaaaDoor
