/- Chapter 11: CheckReceipt of the program. -/
import Derived.Test.YtdhnolafkgkliaaDoorE11
namespace Go.Proofs.YtdhnolafkgkliaaDoor
set_option linter.unusedVariables false
set_option maxRecDepth 1000000
set_option linter.unusedSimpArgs false
open Go.RowKit

set_option maxHeartbeats 400000 in
theorem implCheck_c (p a b c d : Int) (w : World) (ht : Tab w) : Calls Tryd.prog 19 #[.int .i64 p, .agg #[.int .i64 a, .int .i64 b, .int .i64 c, .int .i64 d]] w fun e w' => e = .returned (.tuple #[.bool (rightB p (a, b, c, d)), .bool (checkB p (a, b, c, d))]) ∧ Below w.heap.size w w' := by
  have c1 := fun wx => implMember_c p wx
  have c2 := fun wx => isReceipt_c a b c d wx
  by_cases h1 : memB p = true
  case neg =>
    rw [Bool.not_eq_true] at h1
    have hc : checkB p (a, b, c, d) = false := by unfold checkB; rw [h1]; rfl
    rw [right_no hc, hc]
    rw [h1] at c1
    clear hc h1 c2
    have HX0 : Hid (X4 (w.alloc (.cells #[.int .i64 a, .int .i64 b, .int .i64 c, .int .i64 d] 43)) w.heap.size (.int .i64 a) (.int .i64 b) (.int .i64 c) (.int .i64 d)) := x4_new w _ _ _ _ _ _ rfl
    have HB0 : Hid (Below w.heap.size w (w.alloc (.cells #[.int .i64 a, .int .i64 b, .int .i64 c, .int .i64 d] 43))) := balloc w _
    obtain ⟨V0, hV0⟩ : ∃ V, w.alloc (.cells #[.int .i64 a, .int .i64 b, .int .i64 c, .int .i64 d] 43) = V := ⟨_, rfl⟩
    rw [hV0] at HX0 HB0
    obtain ⟨⟨q0, q1, q2, q3⟩, qf⟩ := id HX0.out
    clear qf
    go_enter Tryd.func19, Tryd.ntmps19
    go_wp2_with fail
    refine (c1 _).mono ?_
    rintro e w' ⟨rfl, hw⟩
    subst w'
    go_wp2
    refine bodyPost_ret (v := .tuple #[.bool false, .bool false]) (by simp [results, Tryd.results19, go_sem]; try rfl) rfl ?_
    exact ⟨rfl, HB0.out⟩
  by_cases h2 : recB (a, b, c, d) = true
  case neg =>
    rw [Bool.not_eq_true] at h2
    have hc : checkB p (a, b, c, d) = false := by unfold checkB; rw [h2]; simp
    rw [right_no hc, hc]
    rw [h1] at c1
    rw [h2] at c2
    clear hc h1 h2
    have HX0 : Hid (X4 (w.alloc (.cells #[.int .i64 a, .int .i64 b, .int .i64 c, .int .i64 d] 43)) w.heap.size (.int .i64 a) (.int .i64 b) (.int .i64 c) (.int .i64 d)) := x4_new w _ _ _ _ _ _ rfl
    have HB0 : Hid (Below w.heap.size w (w.alloc (.cells #[.int .i64 a, .int .i64 b, .int .i64 c, .int .i64 d] 43))) := balloc w _
    obtain ⟨V0, hV0⟩ : ∃ V, w.alloc (.cells #[.int .i64 a, .int .i64 b, .int .i64 c, .int .i64 d] 43) = V := ⟨_, rfl⟩
    rw [hV0] at HX0 HB0
    obtain ⟨⟨q0, q1, q2, q3⟩, qf⟩ := id HX0.out
    clear qf
    go_enter Tryd.func19, Tryd.ntmps19
    go_wp2_with fail
    refine (c1 _).mono ?_
    rintro e w' ⟨rfl, hw⟩
    subst w'
    go_wp2_with fail
    refine (c2 _).mono ?_
    rintro e w1 ⟨rfl, hb⟩
    have HB1 : Hid (Below w.heap.size w w1) := HB0.out.trans (hb.mono HB0.out.size)
    clear hb
    go_wp2
    refine bodyPost_ret (v := .tuple #[.bool false, .bool false]) (by simp [results, Tryd.results19, go_sem]; try rfl) rfl ?_
    exact ⟨rfl, HB1.out⟩
  have hc : checkB p (a, b, c, d) = true := by unfold checkB; rw [h1, h2]; rfl
  have hp := memB_in h1
  have hrp := rec_parts h2
  rw [right_yes hc, hc]
  rw [h1] at c1
  rw [h2] at c2
  obtain ⟨ha, hba, hcc, hd⟩ := hrp
  clear hba
  have hn := numR_bd (f := a) (l := c)
  obtain ⟨k, hk⟩ : ∃ k : Nat, numR a c = k := ⟨(numR a c).toNat, by omega⟩
  obtain ⟨m, hm⟩ : ∃ m : Nat, d = m := ⟨d.toNat, by omega⟩
  have hx : chkR p (a, b, c, d) = (pw 4 m == pw p k) := by unfold chkR; rw [hm]; simp only [hk]; simp
  have c3 : Hid (∀ wx, Tab wx → Calls Tryd.prog 53 #[.int .i64 d] wx fun e w' => e = .returned (.int .i64 (pw 4 m)) ∧ w' = wx) := fun wx h => by rw [hm]; exact rootTo_c m wx (by omega) h
  have c4 := fun wx => signedNumber_c a b c d wx (by omega) hcc
  have c5 := fun wx => powerOfRest_c p k wx (by omega) (by omega) (by omega)
  rw [hk] at c4
  rw [hx]
  generalize pw 4 m = u at c3 ⊢
  generalize pw p k = v at c5 ⊢
  have HT0 : Hid (Tab w) := ht
  clear hc h1 h2 hp hx hk hn ht hm
  have HX0 : Hid (X4 (w.alloc (.cells #[.int .i64 a, .int .i64 b, .int .i64 c, .int .i64 d] 43)) w.heap.size (.int .i64 a) (.int .i64 b) (.int .i64 c) (.int .i64 d)) := x4_new w _ _ _ _ _ _ rfl
  have HB0 : Hid (Below w.heap.size w (w.alloc (.cells #[.int .i64 a, .int .i64 b, .int .i64 c, .int .i64 d] 43))) := balloc w _
  obtain ⟨V0, hV0⟩ : ∃ V, w.alloc (.cells #[.int .i64 a, .int .i64 b, .int .i64 c, .int .i64 d] 43) = V := ⟨_, rfl⟩
  rw [hV0] at HX0 HB0
  obtain ⟨⟨q0, q1, q2, q3⟩, qf⟩ := id HX0.out
  clear qf
  go_enter Tryd.func19, Tryd.ntmps19
  go_wp2_with fail
  refine (c1 _).mono ?_
  rintro e w' ⟨rfl, hw⟩
  subst w'
  go_wp2_with fail
  refine (c2 _).mono ?_
  rintro e w1 ⟨rfl, hb⟩
  have HB1 : Hid (Below w.heap.size w w1) := HB0.out.trans (hb.mono HB0.out.size)
  have HX1 : Hid (X4 w1 w.heap.size (.int .i64 a) (.int .i64 b) (.int .i64 c) (.int .i64 d)) := HX0.out.later hb
  clear hb q0 q1 q2 q3 hV0
  obtain ⟨⟨q0, q1, q2, q3⟩, qf⟩ := id HX1.out
  clear qf
  have HT1 : Hid (Tab w1) := HT0.out.keep HB1.out
  go_wp2
  go_region_with (first
    | (go_at_call 53; refine (c3.out _ (by first | exact HT2.out | exact HT1.out)).mono ?_; rintro e w' ⟨rfl, hw⟩; subst w')
    | (go_at_call 61; refine (c4 _).mono ?_; rintro e w2 ⟨rfl, hb⟩; have hb2 : Below w1.heap.size w1 w2 := (by first | exact hb | exact ((Below.refl w1.heap.size w1).drew).trans hb); have HT2 : Hid (Tab w2) := HT1.out.keep hb2; have HB2 : Hid (Below w.heap.size w w2) := HB1.out.trans (hb2.mono HB1.out.size); obtain ⟨⟨s0, s1, s2, s3⟩, _⟩ := HX1.out.later hb2; clear hb hb2)
    | (go_at_call 60; refine (c5 _).mono ?_; rintro e w' ⟨rfl, hw⟩; subst w'))
  all_goals go_wp2
  all_goals refine bodyPost_ret (v := .tuple #[.bool (u == v), .bool true]) (by simp [results, Tryd.results19, go_sem]; try rfl) rfl ?_
  all_goals exact ⟨rfl, HB2.out⟩

end Go.Proofs.YtdhnolafkgkliaaDoor
