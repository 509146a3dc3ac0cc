/- Chapter 11: receipts signed, of both sides. -/
import Derived.Test.YtdhnolafkgkliaaDoorA11
import Derived.Deep.DeepCutAuto
import Derived.Deep.Light
namespace Go.Proofs.YtdhnolafkgkliaaDoor
set_option linter.unusedVariables false
set_option maxRecDepth 1000000
set_option linter.unusedSimpArgs false
open Go.RowKit

set_option maxHeartbeats 1000000 in
theorem l11Sign_c (s f l : Int) (w : World) (hs : 1 ≤ s ∧ s ≤ 1498) (hf : -1 ≤ f ∧ f ≤ 4) (hl : 0 ≤ l ∧ l ≤ 1000) :
    Calls Tryd.prog 51 #[.int .i64 s, .int .i64 f, .int .i64 l] w fun e w' => e = .returned (.agg #[.int .i64 f, .int .i64 (f + 1), .int .i64 l, .int .i64 (signN s f l)]) ∧ Below w.heap.size w w' := by
  have c1 := fun wx => l11Number_c f l wx (by omega) hl
  have hn := numR_bd (f := f) (l := l)
  have he : signN s f l = numR f l * s % 1499 := rfl
  have ht := times_lt (x := numR f l) (y := s) hn.1 hn.2 (by omega) (by omega)
  generalize signN s f l = v at he ⊢
  generalize numR f l = m at *
  go_enter Tryd.func51, Tryd.ntmps51
  go_wp2_with fail
  refine (c1 _).mono ?_
  rintro e w' ⟨rfl, hw⟩
  subst w'
  go_wp2
  refine bodyPost_ret (v := .agg #[.int .i64 f, .int .i64 (f + 1), .int .i64 l, .int .i64 v]) (by simp [results, Tryd.results51, go_sem, he]) rfl ⟨rfl, ?_⟩
  first | exact Below.refl _ _ | exact balloc w _ | exact below_two w _ _

set_option maxHeartbeats 1000000 in
theorem signedBy_c (s h l : Int) (w : World) (hs : 1 ≤ s ∧ s ≤ 1498) (hh : 0 ≤ h ∧ h ≤ 5) (hl : 0 ≤ l ∧ l ≤ 1000) :
    Calls Tryd.prog 47 #[.int .i64 s, .int .i64 h, .int .i64 l] w fun e w' => e = .returned (.agg #[.int .i64 (h - 1), .int .i64 h, .int .i64 l, .int .i64 (signN s (h - 1) l)]) ∧ Below w.heap.size w w' := by
  have c1 := fun wx => unsignedFor_c h l wx (by omega)
  have c2 := fun wx => signedNumber_c (h - 1) h l 0 wx (by omega) hl
  have hn := numR_bd (f := h - 1) (l := l)
  have c3 := fun wx => timesSmall_c (numR (h - 1) l) s wx hn.1 hn.2 (by omega) (by omega)
  have he : numR (h - 1) l * s % 1499 = signN s (h - 1) l := rfl
  rw [he] at c3
  generalize signN s (h - 1) l = v at c3 ⊢
  generalize numR (h - 1) l = m at c2 c3
  generalize h - 1 = z at c1 c2 ⊢
  clear hn he hs
  have hZ := x4_new w (.int .i64 0) (.int .i64 0) (.int .i64 0) (.int .i64 0) 43 (w.heap.size) (by simp)
  have hB_V0 : Below w.heap.size w (w.alloc (.cells #[.int .i64 0, .int .i64 0, .int .i64 0, .int .i64 0] 43)) := balloc w (.cells #[.int .i64 0, .int .i64 0, .int .i64 0, .int .i64 0] 43)
  have hS_V0 : ((w.alloc (.cells #[.int .i64 0, .int .i64 0, .int .i64 0, .int .i64 0] 43))).heap.size = w.heap.size + 1 := by simp
  obtain ⟨V0, hV0⟩ : ∃ V, (w.alloc (.cells #[.int .i64 0, .int .i64 0, .int .i64 0, .int .i64 0] 43)) = V := ⟨_, rfl⟩
  rw [hV0] at hZ hB_V0 hS_V0
  have HZ : Hid (X4 V0 (w.heap.size) (.int .i64 0) (.int .i64 0) (.int .i64 0) (.int .i64 0)) := hZ
  have HB_V0 : Hid (Below w.heap.size w V0) := hB_V0
  have HS_V0 : Hid (V0.heap.size = w.heap.size + 1) := hS_V0
  clear hB_V0 hS_V0 hZ
  go_enter Tryd.func47, Tryd.ntmps47
  go_wp2_with fail
  clear hV0
  refine (c1 _).mono ?_
  rintro e w1 ⟨rfl, hb⟩
  have HZ1 : Hid (X4 w1 w.heap.size (.int .i64 0) (.int .i64 0) (.int .i64 0) (.int .i64 0)) := HZ.out.later hb
  have HB1 : Hid (Below w.heap.size w w1) := HB_V0.out.trans (hb.mono HB_V0.out.size)
  have HLT : Hid (w.heap.size < w1.heap.size) := HZ1.out.lt
  clear hb HZ
  have HR : Hid (X4 (w1.alloc (.cells #[.int .i64 z, .int .i64 h, .int .i64 l, .int .i64 0] 43)) w1.heap.size (.int .i64 z) (.int .i64 h) (.int .i64 l) (.int .i64 0)) := x4_new w1 _ _ _ _ _ _ rfl
  have HZ2 : Hid (X4 (w1.alloc (.cells #[.int .i64 z, .int .i64 h, .int .i64 l, .int .i64 0] 43)) w.heap.size (.int .i64 0) (.int .i64 0) (.int .i64 0) (.int .i64 0)) := HZ1.out.later (balloc w1 _)
  have HB2 : Hid (Below w.heap.size w (w1.alloc (.cells #[.int .i64 z, .int .i64 h, .int .i64 l, .int .i64 0] 43))) := HB1.out.alloc HB1.out.size _
  go_wp2_with fail
  refine (c2 _).mono ?_
  rintro e w3 ⟨rfl, hb⟩
  have HZ3 : Hid (X4 w3 w.heap.size (.int .i64 0) (.int .i64 0) (.int .i64 0) (.int .i64 0)) := HZ2.out.later hb
  have HR3 : Hid (X4 w3 w1.heap.size (.int .i64 z) (.int .i64 h) (.int .i64 l) (.int .i64 0)) := HR.out.later hb
  have HB3 : Hid (Below w.heap.size w w3) := HB2.out.trans (hb.mono HB2.out.size)
  clear hb HZ1 HZ2 HR
  go_wp2_with fail
  refine (c3 _).mono ?_
  rintro e w' ⟨rfl, hw⟩
  subst w'
  have hne : w.heap.size ≠ w1.heap.size := by have := HLT.out; omega
  have HR4 : Hid (X4 (w3.setCell ⟨w1.heap.size, 3, none⟩ (.int .i64 v)) w1.heap.size (.int .i64 z) (.int .i64 h) (.int .i64 l) (.int .i64 v)) := HR3.out.set3 _
  have HZ4 : Hid (X4 (w3.setCell ⟨w1.heap.size, 3, none⟩ (.int .i64 v)) w.heap.size (.int .i64 0) (.int .i64 0) (.int .i64 0) (.int .i64 0)) := HZ3.out.other hne
  have HB4 : Hid (Below w.heap.size w (w3.setCell ⟨w1.heap.size, 3, none⟩ (.int .i64 v))) := HB3.out.setCell (by have := HB1.out.size; omega) _
  obtain ⟨⟨r0, r1, r2, r3⟩, rf⟩ := id (HR3.out)
  have rf3 := rf 3
  clear rf
  obtain ⟨V4, hV4⟩ : ∃ V, w3.setCell ⟨w1.heap.size, 3, none⟩ (.int .i64 v) = V := ⟨_, rfl⟩
  rw [hV4] at HR4 HZ4 HB4
  obtain ⟨⟨s0, s1, s2, s3⟩, sf⟩ := id (HR4.out)
  clear sf
  obtain ⟨⟨q0, q1, q2, q3⟩, qf⟩ := id (HZ4.out)
  have qf0 := qf 0
  have qf1 := qf 1
  have qf2 := qf 2
  have qf3 := qf 3
  clear qf
  have HZ5 := (((HZ4.out.set0 (.int .i64 z)).set1 (.int .i64 h)).set2 (.int .i64 l)).set3 (.int .i64 v)
  obtain ⟨⟨t0, t1, t2, t3⟩, _⟩ := HZ5
  go_wp2
  refine bodyPost_ret (v := .agg #[.int .i64 z, .int .i64 h, .int .i64 l, .int .i64 v]) (by simp [results, Tryd.results47, go_sem, t0, t1, t2, t3]; try rfl) rfl ?_
  exact ⟨rfl, (((HB4.out.setCell (Nat.le_refl _) _).setCell (Nat.le_refl _) _).setCell (Nat.le_refl _) _).setCell (Nat.le_refl _) _⟩

def signV (s f t l : Int) : Rc := if signOk s f t l = true then signR s f l else (0, 0, 0, 0)

theorem signV_no {s f t l : Int} (h : signOk s f t l = false) : signV s f t l = (0, 0, 0, 0) := by unfold signV; rw [h]; rfl

theorem signV_yes {s f t l : Int} (h : signOk s f t l = true) : signV s f t l = (f, f + 1, l, signN s f l) := by unfold signV; rw [h]; rfl

theorem signOk_parts {s f t l : Int} (h : signOk s f t l = true) : (1 ≤ s ∧ s ≤ 1498) ∧ (-1 ≤ f ∧ f ≤ 4) ∧ t = f + 1 ∧ 0 ≤ l ∧ l ≤ 1000 := by simpa [signOk, secB6, letB] using h

set_option maxHeartbeats 4000000 in
theorem implSign_c (s f t l : Int) (w : World) (hf0 : -9223372036854775808 ≤ f ∧ f ≤ 9223372036854775807) (ht0 : -9223372036854775808 ≤ t ∧ t ≤ 9223372036854775807) :
    Calls Tryd.prog 24 #[.int .i64 s, .int .i64 f, .int .i64 t, .int .i64 l] w fun e w' => e = .returned (.tuple #[.agg #[.int .i64 (signV s f t l).1, .int .i64 (signV s f t l).2.1, .int .i64 (signV s f t l).2.2.1, .int .i64 (signV s f t l).2.2.2], .bool (signOk s f t l)]) ∧ Below w.heap.size w w' := by
  by_cases h0 : 1 ≤ s ∧ s ≤ 1498
  case neg =>
    have hn : signOk s f t l = false := by
      rw [Bool.eq_false_iff]; intro g; have := signOk_parts g; omega
    rw [signV_no hn, hn]
    clear hn
    have c0 := fun wx => isSecret_c s wx
    rw [decide_eq_false h0] at c0
    go_enter Tryd.func24, Tryd.ntmps24
    go_wp2_with fail
    refine (c0 _).mono ?_
    rintro e w' ⟨rfl, hw⟩
    subst w'
    go_wp2
    refine bodyPost_ret (v := .tuple #[.agg #[.int .i64 0, .int .i64 0, .int .i64 0, .int .i64 0], .bool false]) (by simp [results, Tryd.results24, go_sem]; try rfl) rfl ?_
    exact ⟨rfl, by first | exact Below.refl _ _ | exact balloc w _ | exact below_two w _ _⟩
  by_cases h1 : 0 ≤ t ∧ t ≤ 5
  case neg =>
    have hn : signOk s f t l = false := by
      rw [Bool.eq_false_iff]; intro g; have := signOk_parts g; omega
    rw [signV_no hn, hn]
    clear hn
    have c0 := fun wx => isSecret_c s wx
    rw [decide_eq_true h0] at c0
    have c1 := fun wx => isHand_c t wx
    rw [decide_eq_false h1] at c1
    go_enter Tryd.func24, Tryd.ntmps24
    go_wp2_with fail
    refine (c0 _).mono ?_
    rintro e w' ⟨rfl, hw⟩
    subst w'
    go_wp2_with fail
    refine (c1 _).mono ?_
    rintro e w' ⟨rfl, hw⟩
    subst w'
    go_wp2
    refine bodyPost_ret (v := .tuple #[.agg #[.int .i64 0, .int .i64 0, .int .i64 0, .int .i64 0], .bool false]) (by simp [results, Tryd.results24, go_sem]; try rfl) rfl ?_
    exact ⟨rfl, by first | exact Below.refl _ _ | exact balloc w _ | exact below_two w _ _⟩
  by_cases h2 : f = t - 1
  case neg =>
    have hn : signOk s f t l = false := by
      rw [Bool.eq_false_iff]; intro g; have := signOk_parts g; omega
    rw [signV_no hn, hn]
    clear hn
    have c0 := fun wx => isSecret_c s wx
    rw [decide_eq_true h0] at c0
    have c1 := fun wx => isHand_c t wx
    rw [decide_eq_true h1] at c1
    have e2 : (f != t - 1) = true := by rw [bne_iff_ne]; exact h2
    go_enter Tryd.func24, Tryd.ntmps24
    go_wp2_with fail
    refine (c0 _).mono ?_
    rintro e w' ⟨rfl, hw⟩
    subst w'
    go_wp2_with fail
    refine (c1 _).mono ?_
    rintro e w' ⟨rfl, hw⟩
    subst w'
    go_wp2
    refine bodyPost_ret (v := .tuple #[.agg #[.int .i64 0, .int .i64 0, .int .i64 0, .int .i64 0], .bool false]) (by simp [results, Tryd.results24, go_sem]; try rfl) rfl ?_
    exact ⟨rfl, by first | exact Below.refl _ _ | exact balloc w _ | exact below_two w _ _⟩
  by_cases h3 : 0 ≤ l ∧ l ≤ 1000
  case neg =>
    have hn : signOk s f t l = false := by
      rw [Bool.eq_false_iff]; intro g; have := signOk_parts g; omega
    rw [signV_no hn, hn]
    clear hn
    have c0 := fun wx => isSecret_c s wx
    rw [decide_eq_true h0] at c0
    have c1 := fun wx => isHand_c t wx
    rw [decide_eq_true h1] at c1
    have e2 : (f != t - 1) = false := by simpa using h2
    have c3 := fun wx => isLetterNumber_c l wx
    unfold letB at c3
    rw [decide_eq_false h3] at c3
    go_enter Tryd.func24, Tryd.ntmps24
    go_wp2_with fail
    refine (c0 _).mono ?_
    rintro e w' ⟨rfl, hw⟩
    subst w'
    go_wp2_with fail
    refine (c1 _).mono ?_
    rintro e w' ⟨rfl, hw⟩
    subst w'
    go_wp2_with fail
    refine (c3 _).mono ?_
    rintro e w' ⟨rfl, hw⟩
    subst w'
    go_wp2
    refine bodyPost_ret (v := .tuple #[.agg #[.int .i64 0, .int .i64 0, .int .i64 0, .int .i64 0], .bool false]) (by simp [results, Tryd.results24, go_sem]; try rfl) rfl ?_
    exact ⟨rfl, by first | exact Below.refl _ _ | exact balloc w _ | exact below_two w _ _⟩
  have hn : signOk s f t l = true := by simp [signOk, secB6, letB]; omega
  rw [signV_yes hn, hn]
  clear hn
  have c0 := fun wx => isSecret_c s wx
  rw [decide_eq_true h0] at c0
  have c1 := fun wx => isHand_c t wx
  rw [decide_eq_true h1] at c1
  have e2 : (f != t - 1) = false := by simpa using h2
  have c3 := fun wx => isLetterNumber_c l wx
  unfold letB at c3
  rw [decide_eq_true h3] at c3
  have q := fun wx => signedBy_c s t l wx h0 h1 h3
  rw [show t - 1 = f by omega] at q
  rw [show f + 1 = t by omega]
  generalize signN s f l = v at q ⊢
  clear h2
  go_enter Tryd.func24, Tryd.ntmps24
  go_wp2_with fail
  refine (c0 _).mono ?_
  rintro e w' ⟨rfl, hw⟩
  subst w'
  go_wp2_with fail
  refine (c1 _).mono ?_
  rintro e w' ⟨rfl, hw⟩
  subst w'
  go_wp2_with fail
  refine (c3 _).mono ?_
  rintro e w' ⟨rfl, hw⟩
  subst w'
  have HZ : Hid (X4 (w.alloc (.cells #[.int .i64 0, .int .i64 0, .int .i64 0, .int .i64 0] 43)) w.heap.size (.int .i64 0) (.int .i64 0) (.int .i64 0) (.int .i64 0)) := x4_new w _ _ _ _ _ _ rfl
  go_wp2_with fail
  refine (q _).mono ?_
  rintro e w1 ⟨rfl, hb⟩
  have HB1 : Hid (Below w.heap.size w w1) := (balloc w _).trans (hb.mono (balloc w _).size)
  have HZ1 : Hid (X4 w1 w.heap.size (.int .i64 0) (.int .i64 0) (.int .i64 0) (.int .i64 0)) := HZ.out.later hb
  have HZ5 := (((HZ1.out.set0 (.int .i64 f)).set1 (.int .i64 t)).set2 (.int .i64 l)).set3 (.int .i64 v)
  obtain ⟨⟨q0, q1, q2, q3⟩, qf⟩ := id HZ1.out
  have qf0 := qf 0
  have qf1 := qf 1
  have qf2 := qf 2
  have qf3 := qf 3
  obtain ⟨⟨t0, t1, t2, t3⟩, _⟩ := HZ5
  clear qf hb HZ
  go_wp2
  refine bodyPost_ret (v := .tuple #[.agg #[.int .i64 f, .int .i64 t, .int .i64 l, .int .i64 v], .bool true]) (by simp [results, Tryd.results24, go_sem, t0, t1, t2, t3]; try rfl) rfl ?_
  exact ⟨rfl, (((HB1.out.setCell (Nat.le_refl _) _).setCell (Nat.le_refl _) _).setCell (Nat.le_refl _) _).setCell (Nat.le_refl _) _⟩

set_option maxHeartbeats 4000000 in
theorem specSign_c (s f t l : Int) (w : World) (hf0 : -9223372036854775808 ≤ f ∧ f ≤ 9223372036854775807) (ht0 : -9223372036854775808 ≤ t ∧ t ≤ 9223372036854775807) :
    Calls Tryd.prog 25 #[.int .i64 s, .int .i64 f, .int .i64 t, .int .i64 l] w fun e w' => e = .returned (.tuple #[.agg #[.int .i64 (signV s f t l).1, .int .i64 (signV s f t l).2.1, .int .i64 (signV s f t l).2.2.1, .int .i64 (signV s f t l).2.2.2], .bool (signOk s f t l)]) ∧ Below w.heap.size w w' := by
  by_cases h0 : 1 ≤ s ∧ s ≤ 1498
  case neg =>
    have hn : signOk s f t l = false := by
      rw [Bool.eq_false_iff]; intro g; have := signOk_parts g; omega
    rw [signV_no hn, hn]
    clear hn
    have c0 := fun wx => l2Secret_c s wx
    rw [decide_eq_false h0] at c0
    go_enter Tryd.func25, Tryd.ntmps25
    go_wp2_with fail
    refine (c0 _).mono ?_
    rintro e w' ⟨rfl, hw⟩
    subst w'
    go_wp2
    refine bodyPost_ret (v := .tuple #[.agg #[.int .i64 0, .int .i64 0, .int .i64 0, .int .i64 0], .bool false]) (by simp [results, Tryd.results25, go_sem]; try rfl) rfl ?_
    exact ⟨rfl, by first | exact Below.refl _ _ | exact balloc w _ | exact below_two w _ _⟩
  by_cases h1 : -1 ≤ f ∧ f ≤ 4
  case neg =>
    have hn : signOk s f t l = false := by
      rw [Bool.eq_false_iff]; intro g; have := signOk_parts g; omega
    rw [signV_no hn, hn]
    clear hn
    have c0 := fun wx => l2Secret_c s wx
    rw [decide_eq_true h0] at c0
    have c1 := fun wx => l1In_c f (-1) 4 wx
    rw [decide_eq_false h1] at c1
    go_enter Tryd.func25, Tryd.ntmps25
    go_wp2_with fail
    refine (c0 _).mono ?_
    rintro e w' ⟨rfl, hw⟩
    subst w'
    go_wp2_with fail
    refine (c1 _).mono ?_
    rintro e w' ⟨rfl, hw⟩
    subst w'
    go_wp2
    refine bodyPost_ret (v := .tuple #[.agg #[.int .i64 0, .int .i64 0, .int .i64 0, .int .i64 0], .bool false]) (by simp [results, Tryd.results25, go_sem]; try rfl) rfl ?_
    exact ⟨rfl, by first | exact Below.refl _ _ | exact balloc w _ | exact below_two w _ _⟩
  by_cases h2 : t = f + 1
  case neg =>
    have hn : signOk s f t l = false := by
      rw [Bool.eq_false_iff]; intro g; have := signOk_parts g; omega
    rw [signV_no hn, hn]
    clear hn
    have c0 := fun wx => l2Secret_c s wx
    rw [decide_eq_true h0] at c0
    have c1 := fun wx => l1In_c f (-1) 4 wx
    rw [decide_eq_true h1] at c1
    have e2 : (t != f + 1) = true := by rw [bne_iff_ne]; exact h2
    go_enter Tryd.func25, Tryd.ntmps25
    go_wp2_with fail
    refine (c0 _).mono ?_
    rintro e w' ⟨rfl, hw⟩
    subst w'
    go_wp2_with fail
    refine (c1 _).mono ?_
    rintro e w' ⟨rfl, hw⟩
    subst w'
    go_wp2
    refine bodyPost_ret (v := .tuple #[.agg #[.int .i64 0, .int .i64 0, .int .i64 0, .int .i64 0], .bool false]) (by simp [results, Tryd.results25, go_sem]; try rfl) rfl ?_
    exact ⟨rfl, by first | exact Below.refl _ _ | exact balloc w _ | exact below_two w _ _⟩
  by_cases h3 : 0 ≤ l ∧ l ≤ 1000
  case neg =>
    have hn : signOk s f t l = false := by
      rw [Bool.eq_false_iff]; intro g; have := signOk_parts g; omega
    rw [signV_no hn, hn]
    clear hn
    have c0 := fun wx => l2Secret_c s wx
    rw [decide_eq_true h0] at c0
    have c1 := fun wx => l1In_c f (-1) 4 wx
    rw [decide_eq_true h1] at c1
    have e2 : (t != f + 1) = false := by simpa using h2
    have c3 := fun wx => l11Letter_c l wx
    unfold letB at c3
    rw [decide_eq_false h3] at c3
    go_enter Tryd.func25, Tryd.ntmps25
    go_wp2_with fail
    refine (c0 _).mono ?_
    rintro e w' ⟨rfl, hw⟩
    subst w'
    go_wp2_with fail
    refine (c1 _).mono ?_
    rintro e w' ⟨rfl, hw⟩
    subst w'
    go_wp2_with fail
    refine (c3 _).mono ?_
    rintro e w' ⟨rfl, hw⟩
    subst w'
    go_wp2
    refine bodyPost_ret (v := .tuple #[.agg #[.int .i64 0, .int .i64 0, .int .i64 0, .int .i64 0], .bool false]) (by simp [results, Tryd.results25, go_sem]; try rfl) rfl ?_
    exact ⟨rfl, by first | exact Below.refl _ _ | exact balloc w _ | exact below_two w _ _⟩
  have hn : signOk s f t l = true := by simp [signOk, secB6, letB]; omega
  rw [signV_yes hn, hn]
  clear hn
  have c0 := fun wx => l2Secret_c s wx
  rw [decide_eq_true h0] at c0
  have c1 := fun wx => l1In_c f (-1) 4 wx
  rw [decide_eq_true h1] at c1
  have e2 : (t != f + 1) = false := by simpa using h2
  have c3 := fun wx => l11Letter_c l wx
  unfold letB at c3
  rw [decide_eq_true h3] at c3
  have q := fun wx => l11Sign_c s f l wx h0 h1 h3
  generalize signN s f l = v at q ⊢
  clear h2
  go_enter Tryd.func25, Tryd.ntmps25
  go_wp2_with fail
  refine (c0 _).mono ?_
  rintro e w' ⟨rfl, hw⟩
  subst w'
  go_wp2_with fail
  refine (c1 _).mono ?_
  rintro e w' ⟨rfl, hw⟩
  subst w'
  go_wp2_with fail
  refine (c3 _).mono ?_
  rintro e w' ⟨rfl, hw⟩
  subst w'
  have HZ : Hid (X4 (w.alloc (.cells #[.int .i64 0, .int .i64 0, .int .i64 0, .int .i64 0] 43)) w.heap.size (.int .i64 0) (.int .i64 0) (.int .i64 0) (.int .i64 0)) := x4_new w _ _ _ _ _ _ rfl
  go_wp2_with fail
  refine (q _).mono ?_
  rintro e w1 ⟨rfl, hb⟩
  have HB1 : Hid (Below w.heap.size w w1) := (balloc w _).trans (hb.mono (balloc w _).size)
  have HZ1 : Hid (X4 w1 w.heap.size (.int .i64 0) (.int .i64 0) (.int .i64 0) (.int .i64 0)) := HZ.out.later hb
  have HZ5 := (((HZ1.out.set0 (.int .i64 f)).set1 (.int .i64 (f + 1))).set2 (.int .i64 l)).set3 (.int .i64 v)
  obtain ⟨⟨q0, q1, q2, q3⟩, qf⟩ := id HZ1.out
  have qf0 := qf 0
  have qf1 := qf 1
  have qf2 := qf 2
  have qf3 := qf 3
  obtain ⟨⟨t0, t1, t2, t3⟩, _⟩ := HZ5
  clear qf hb HZ
  go_wp2
  refine bodyPost_ret (v := .tuple #[.agg #[.int .i64 f, .int .i64 (f + 1), .int .i64 l, .int .i64 v], .bool true]) (by simp [results, Tryd.results25, go_sem, t0, t1, t2, t3]; try rfl) rfl ?_
  exact ⟨rfl, (((HB1.out.setCell (Nat.le_refl _) _).setCell (Nat.le_refl _) _).setCell (Nat.le_refl _) _).setCell (Nat.le_refl _) _⟩

end Go.Proofs.YtdhnolafkgkliaaDoor
