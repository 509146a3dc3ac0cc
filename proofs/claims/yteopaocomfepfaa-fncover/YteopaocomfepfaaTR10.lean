/- Chapter 10: TraceOf, both sides. -/
import Derived.Test.YteopaocomfepfaaAP10
namespace Go.Proofs.Yteopaocomfepfaa
set_option linter.unusedVariables false
set_option maxRecDepth 1000000
set_option linter.unusedSimpArgs false
open Go.RowKit

theorem OwnE.nilq (w : World) (base : Nat) : OwnE w base (.slice none 0 0) [] := World.ownsRow_nil _ _ _ _
theorem OwnK.nilq (w : World) (base : Nat) : OwnK w base (.slice none 0 0) [] := World.ownsRow_nil _ _ _ _
theorem traceF_no {y k : Int} (h : ¬ (waysB y = true ∧ 0 ≤ k ∧ k ≤ 80)) : traceF y k = ([], false) := by unfold traceF; rw [if_neg h]
theorem traceF_yes {y k : Int} (h : waysB y = true ∧ 0 ≤ k ∧ k ≤ 80) : traceF y k = (traceL y k.toNat, true) := by unfold traceF; rw [if_pos h]

set_option maxHeartbeats 4000000 in
theorem implTrace_no (y k : Int) (w : World) (h : ¬ (waysB y = true ∧ 0 ≤ k ∧ k ≤ 80)) :
    Calls Try.prog 19 #[.int .i64 y, .int .i64 k] w fun e w' => ∃ a' c', e = .returned (.tuple #[.slice a' 0 c', .bool false]) ∧ OwnE w' w.heap.size (.slice a' 0 c') [] ∧ Below w.heap.size w w' := by
  have qw := isWays_c y
  cases hb : waysB y with
  | false =>
    simp only [hb] at qw
    go_enter Try.func19, Try.ntmps19
    go_wp2_with fail
    refine (qw _).mono ?_
    clear qw
    rintro e w' ⟨rfl, hw⟩
    subst w'
    go_wp2
    refine bodyPost_ret (v := .tuple #[.slice none 0 0, .bool false]) (by simp [results, Try.results19, go_sem]; try rfl) rfl ?_
    exact ⟨none, 0, rfl, OwnE.nilq _ _, Below.refl _ _⟩
  | true =>
    simp only [hb] at qw
    have hk : ¬ (0 ≤ k ∧ k ≤ 80) := fun e => h ⟨hb, e⟩
    by_cases h0 : k < 0
    · go_enter Try.func19, Try.ntmps19
      go_wp2_with fail
      refine (qw _).mono ?_
      clear qw
      rintro e w' ⟨rfl, hw⟩
      subst w'
      go_wp2
      refine bodyPost_ret (v := .tuple #[.slice none 0 0, .bool false]) (by simp [results, Try.results19, go_sem]; try rfl) rfl ?_
      exact ⟨none, 0, rfl, OwnE.nilq _ _, Below.refl _ _⟩
    · have h8 : 80 < k := by omega
      go_enter Try.func19, Try.ntmps19
      go_wp2_with fail
      refine (qw _).mono ?_
      clear qw
      rintro e w' ⟨rfl, hw⟩
      subst w'
      go_wp2
      refine bodyPost_ret (v := .tuple #[.slice none 0 0, .bool false]) (by simp [results, Try.results19, go_sem]; try rfl) rfl ?_
      exact ⟨none, 0, rfl, OwnE.nilq _ _, Below.refl _ _⟩

set_option maxHeartbeats 4000000 in
theorem implTrace_yes (y : Int) (n : Nat) (w : World) (hb : waysB y = true) (hn : n ≤ 80) :
    Calls Try.prog 19 #[.int .i64 y, .int .i64 (n : Int)] w fun e w' => ∃ a' c', e = .returned (.tuple #[.slice a' n c', .bool true]) ∧ OwnE w' w.heap.size (.slice a' n c') (traceL y n) ∧ Below w.heap.size w w' := by
  have qw := isWays_c y
  simp only [hb] at qw
  have hy : 1 ≤ y ∧ y ≤ 4 := by simpa [waysB] using hb
  clear hb
  go_enter Try.func19, Try.ntmps19
  go_wp2_with fail
  refine (qw _).mono ?_
  clear qw
  rintro e w' ⟨rfl, hw⟩
  subst w'
  go_wp2
  go_loopw [6, 20] (fun v iv wr => ∃ j : Nat, j ≤ n ∧ iv = .int .i64 j ∧ Hid (OwnE wr w.heap.size v (traceL y j)) ∧ Hid (Below w.heap.size w wr)) (fun _ iv _ => n - (intOf iv).toNat)
  case atStart => exact ⟨0, Nat.zero_le _, rfl, OwnE.nilq _ _, Below.refl _ _⟩
  case round =>
    obtain ⟨j, hj, rfl, hO, hB⟩ := hrel
    by_cases hlt : j < n
    · have qe := fun wx => emitAt_c (j : Int) y wx (by omega) (by omega) hy.1 hy.2
      have HT : Hid (traceL y (j + 1) = traceL y j ++ [((j : Int), (j : Int) % y, 24)]) := traceL_succ y j
      have HL : Hid ((traceL y j).length = j) := traceL_length y j
      generalize (j : Int) % y = r at qe HT
      generalize traceL y j = out at hO HL HT
      go_wp2_with fail
      refine (qe _).mono ?_
      clear qe
      rintro e w1 ⟨rfl, hb⟩
      have bA := balloc w1 (.cells #[.int .i64 (j : Int), .int .i64 r, .int .i64 24] 52)
      have hB1 := hB.out.trans (hb.mono hB.out.size)
      have hO1 := (hO.out.later hb).later bA
      obtain ⟨v', w2, r1, o2, g2, b2⟩ := appendE_run (w1.alloc (.cells #[.int .i64 (j : Int), .int .i64 r, .int .i64 24] 52)) w.heap.size u6 out [((j : Int), r, 24)] (some ⟨w1.heap.size, 0, none⟩) 1 1 hO1 (litE w1 _ _ _) rfl (fun e => by cases e) (by rw [HL.out]; omega) (Nat.le_trans hB1.size bA.size)
      have HO2 : Hid (OwnE w2 w.heap.size v' (out ++ [((j : Int), r, 24)])) := o2
      have HB2 : Hid (Below w.heap.size w w2) := (hB1.alloc hB1.size _).trans b2
      clear hb bA hB1 hO1 o2 g2 b2 hO hB
      go_wp2_with (at_builtin; refine Lib.wpList_append_run _ rfl _ _ _ _ rfl _ _ rfl rfl _ _ (r1 _) ?_; clear r1)
      go_roundw
      case rel => exact ⟨j + 1, by omega, by go_num, by show OwnE _ _ _ _; rw [HT.out]; exact HO2.out, HB2⟩
      case measure => simp [intOf]; omega
    · obtain rfl : j = n := by omega
      obtain ⟨a', c', hv⟩ := hO.out.shape
      rw [traceL_length] at hv
      subst hv
      go_wp2
      refine bodyPost_ret (v := .tuple #[.slice a' j c', .bool true]) (by simp [results, Try.results19, go_sem]; try rfl) rfl ?_
      exact ⟨a', c', rfl, hO.out, hB.out⟩

theorem implTrace_c (y k : Int) (w : World) (l : List (Int × Int × Int)) (fb : Bool) (hF : traceF y k = (l, fb)) (p : Nat) (hp : l.length = p) :
    Calls Try.prog 19 #[.int .i64 y, .int .i64 k] w fun e w' => ∃ a' c', e = .returned (.tuple #[.slice a' p c', .bool fb]) ∧ OwnE w' w.heap.size (.slice a' p c') l ∧ Below w.heap.size w w' := by
  by_cases h : waysB y = true ∧ 0 ≤ k ∧ k ≤ 80
  · rw [traceF_yes h] at hF
    simp only [Prod.mk.injEq] at hF
    obtain ⟨rfl, rfl⟩ := hF
    rw [traceL_length] at hp
    have e : k = (p : Int) := by omega
    rw [hp, e]
    exact implTrace_yes y p w h.1 (by omega)
  · rw [traceF_no h] at hF
    simp only [Prod.mk.injEq] at hF
    obtain ⟨rfl, rfl⟩ := hF
    subst hp
    exact implTrace_no y k w h

set_option maxHeartbeats 4000000 in
theorem specTrace_no (y k : Int) (w : World) (h : ¬ (waysB y = true ∧ 0 ≤ k ∧ k ≤ 80)) :
    Calls Try.prog 23 #[.int .i64 y, .int .i64 k] w fun e w' => ∃ a' c', e = .returned (.tuple #[.slice a' 0 c', .bool false]) ∧ OwnE w' w.heap.size (.slice a' 0 c') [] ∧ Below w.heap.size w w' := by
  have qw : ∀ wx, Calls Try.prog 67 #[.int .i64 y, .int .i64 1, .int .i64 4] wx fun e w' => e = .returned (.bool (waysB y)) ∧ w' = wx := fun wx => l1In_c y 1 4 wx
  have qk := l1In_c k 0 80
  cases hb : waysB y with
  | false =>
    simp only [hb] at qw
    clear qk
    go_enter Try.func23, Try.ntmps23
    go_wp2_with fail
    refine (qw _).mono ?_
    clear qw
    rintro e w' ⟨rfl, hw⟩
    subst w'
    go_wp2
    refine bodyPost_ret (v := .tuple #[.slice none 0 0, .bool false]) (by simp [results, Try.results23, go_sem]; try rfl) rfl ?_
    exact ⟨none, 0, rfl, OwnE.nilq _ _, Below.refl _ _⟩
  | true =>
    simp only [hb] at qw
    have hk : ¬ (0 ≤ k ∧ k ≤ 80) := fun e => h ⟨hb, e⟩
    rw [decide_eq_false hk] at qk
    go_enter Try.func23, Try.ntmps23
    go_wp2_with fail
    refine (qw _).mono ?_
    clear qw
    rintro e w' ⟨rfl, hw⟩
    subst w'
    go_wp2_with fail
    refine (qk _).mono ?_
    clear qk
    rintro e w' ⟨rfl, hw⟩
    subst w'
    go_wp2
    refine bodyPost_ret (v := .tuple #[.slice none 0 0, .bool false]) (by simp [results, Try.results23, go_sem]; try rfl) rfl ?_
    exact ⟨none, 0, rfl, OwnE.nilq _ _, Below.refl _ _⟩

set_option maxHeartbeats 4000000 in
theorem specTrace_yes (y : Int) (n : Nat) (w : World) (hb : waysB y = true) (hn : n ≤ 80) :
    Calls Try.prog 23 #[.int .i64 y, .int .i64 (n : Int)] w fun e w' => ∃ a' c', e = .returned (.tuple #[.slice a' n c', .bool true]) ∧ OwnE w' w.heap.size (.slice a' n c') (traceL y n) ∧ Below w.heap.size w w' := by
  have qw : ∀ wx, Calls Try.prog 67 #[.int .i64 y, .int .i64 1, .int .i64 4] wx fun e w' => e = .returned (.bool (waysB y)) ∧ w' = wx := fun wx => l1In_c y 1 4 wx
  have qk := l1In_c (n : Int) 0 80
  simp only [hb] at qw
  have hy : 1 ≤ y ∧ y ≤ 4 := by simpa [waysB] using hb
  rw [decide_eq_true (by omega)] at qk
  clear hb
  go_enter Try.func23, Try.ntmps23
  go_wp2_with fail
  refine (qw _).mono ?_
  clear qw
  rintro e w' ⟨rfl, hw⟩
  subst w'
  go_wp2_with fail
  refine (qk _).mono ?_
  clear qk
  rintro e w' ⟨rfl, hw⟩
  subst w'
  go_wp2
  go_loopw [6, 7] (fun v iv wr => ∃ j : Nat, j ≤ n ∧ iv = .int .i64 j ∧ Hid (OwnE wr w.heap.size v (traceL y j)) ∧ Hid (Below w.heap.size w wr)) (fun _ iv _ => n - (intOf iv).toNat)
  case atStart => exact ⟨0, Nat.zero_le _, rfl, OwnE.nilq _ _, Below.refl _ _⟩
  case round =>
    obtain ⟨j, hj, rfl, hO, hB⟩ := hrel
    by_cases hlt : j < n
    · have qe := fun wx => l10Emit_c (j : Int) y wx (by omega) (by omega) hy.1 hy.2
      have HT : Hid (traceL y (j + 1) = traceL y j ++ [((j : Int), (j : Int) % y, 24)]) := traceL_succ y j
      have HL : Hid ((traceL y j).length = j) := traceL_length y j
      generalize (j : Int) % y = r at qe HT
      generalize traceL y j = out at hO HL HT
      go_wp2_with fail
      refine (qe _).mono ?_
      clear qe
      rintro e w1 ⟨rfl, hb⟩
      have bA := balloc w1 (.cells #[.int .i64 (j : Int), .int .i64 r, .int .i64 24] 52)
      have hB1 := hB.out.trans (hb.mono hB.out.size)
      have hO1 := (hO.out.later hb).later bA
      obtain ⟨v', w2, r1, o2, g2, b2⟩ := appendE_run (w1.alloc (.cells #[.int .i64 (j : Int), .int .i64 r, .int .i64 24] 52)) w.heap.size u6 out [((j : Int), r, 24)] (some ⟨w1.heap.size, 0, none⟩) 1 1 hO1 (litE w1 _ _ _) rfl (fun e => by cases e) (by rw [HL.out]; omega) (Nat.le_trans hB1.size bA.size)
      have HO2 : Hid (OwnE w2 w.heap.size v' (out ++ [((j : Int), r, 24)])) := o2
      have HB2 : Hid (Below w.heap.size w w2) := (hB1.alloc hB1.size _).trans b2
      clear hb bA hB1 hO1 o2 g2 b2 hO hB
      go_wp2_with (at_builtin; refine Lib.wpList_append_run _ rfl _ _ _ _ rfl _ _ rfl rfl _ _ (r1 _) ?_; clear r1)
      go_roundw
      case rel => exact ⟨j + 1, by omega, by go_num, by show OwnE _ _ _ _; rw [HT.out]; exact HO2.out, HB2⟩
      case measure => simp [intOf]; omega
    · obtain rfl : j = n := by omega
      obtain ⟨a', c', hv⟩ := hO.out.shape
      rw [traceL_length] at hv
      subst hv
      go_wp2
      refine bodyPost_ret (v := .tuple #[.slice a' j c', .bool true]) (by simp [results, Try.results23, go_sem]; try rfl) rfl ?_
      exact ⟨a', c', rfl, hO.out, hB.out⟩

theorem specTrace_c (y k : Int) (w : World) (l : List (Int × Int × Int)) (fb : Bool) (hF : traceF y k = (l, fb)) (p : Nat) (hp : l.length = p) :
    Calls Try.prog 23 #[.int .i64 y, .int .i64 k] w fun e w' => ∃ a' c', e = .returned (.tuple #[.slice a' p c', .bool fb]) ∧ OwnE w' w.heap.size (.slice a' p c') l ∧ Below w.heap.size w w' := by
  by_cases h : waysB y = true ∧ 0 ≤ k ∧ k ≤ 80
  · rw [traceF_yes h] at hF
    simp only [Prod.mk.injEq] at hF
    obtain ⟨rfl, rfl⟩ := hF
    rw [traceL_length] at hp
    have e : k = (p : Int) := by omega
    rw [hp, e]
    exact specTrace_yes y p w h.1 (by omega)
  · rw [traceF_no h] at hF
    simp only [Prod.mk.injEq] at hF
    obtain ⟨rfl, rfl⟩ := hF
    subst hp
    exact specTrace_no y k w h

end Go.Proofs.Yteopaocomfepfaa
