/- Contracts of chapter 2, the program's side: members, powers, inverses, shared secrets, opening, products of sealed numbers. -/
import Derived.Test.YtobomcmjilcnaaaPwImpl
namespace Go.Proofs.Ytobomcmjilcnaaa
set_option linter.unusedVariables false
set_option maxRecDepth 1000000
set_option linter.unusedSimpArgs false
open Go.RowKit

theorem inverseOfRest_c (a : Int) (w : World) (a0 : 0 ≤ a) (a1 : a < 2999) : Calls Try.prog 45 #[.int .i64 a] w fun e w' => e = .returned (.int .i64 (pw a 2997)) ∧ w' = w := by
  generalize hp : pw a 2997 = p
  go_enter Try.func45, Try.ntmps45
  go_wp2_with fail
  refine (powerOfRest_c a 2997 _ a0 a1 (by omega)).mono ?_
  rw [hp]
  clear hp
  rintro e w' ⟨rfl, rfl⟩
  go_wp2
  go_ret
  exact ⟨rfl, rfl⟩

theorem implMember_c (a : Int) (w : World) : Calls Try.prog 53 #[.int .i64 a] w fun e w' => e = .returned (.bool (memB a)) ∧ w' = w := by
  by_cases h : 1 ≤ a ∧ a ≤ 2998
  · have hd : decide (1 ≤ a ∧ a ≤ 2998) = true := decide_eq_true h
    have hm : memB a = (pw a 1499 == 1) := by simp [memB, h]
    rw [hm]
    clear hm
    generalize hp : pw a 1499 = p
    go_enter Try.func53, Try.ntmps53
    go_wp2_with (first
      | (go_at_call 65; refine (isRest_c a _).mono ?_; rw [hd]; clear hd; rintro e w' ⟨rfl, rfl⟩)
      | (go_at_call 46; refine (powerOfRest_c a 1499 _ (by omega) (by omega) (by omega)).mono ?_; rw [hp]; clear hp; rintro e w' ⟨rfl, rfl⟩))
    go_ret
    exact ⟨rfl, rfl⟩
  · have hd : decide (1 ≤ a ∧ a ≤ 2998) = false := decide_eq_false h
    have hm : memB a = false := by simp only [memB, hd, Bool.false_and]
    rw [hm]
    go_enter Try.func53, Try.ntmps53
    go_wp2_with (go_at_call 65; refine (isRest_c a _).mono ?_; rw [hd]; clear hd; rintro e w' ⟨rfl, rfl⟩)
    go_ret
    exact ⟨rfl, rfl⟩

theorem isSealed_c (x y : Int) (w : World) : Calls Try.prog 36 #[.agg #[.int .i64 x, .int .i64 y]] w fun e w' => e = .returned (.bool (sealB x y)) ∧ Below w.heap.size w w' := by
  have HB : Hid (Below w.heap.size w (w.alloc (Obj.cells #[Value.int .i64 x, Value.int .i64 y] 25))) := (Below.refl _ _).alloc (Nat.le_refl _) _
  unfold sealB
  cases hx : memB x
  · rw [Bool.false_and]
    go_enter Try.func36, Try.ntmps36
    go_wp2_with (go_at_call 53; refine (implMember_c _ _).mono ?_; rw [hx]; clear hx; rintro e w' ⟨rfl, rfl⟩)
    go_ret
    exact ⟨rfl, HB.out⟩
  · rw [Bool.true_and]
    generalize hy : memB y = b
    go_enter Try.func36, Try.ntmps36
    go_wp2_with (go_at_call 53; refine (implMember_c _ _).mono ?_; (first | (rw [hx]; clear hx) | (rw [hy]; clear hy)); rintro e w' ⟨rfl, rfl⟩)
    go_ret
    exact ⟨rfl, HB.out⟩

theorem implPower_c (a k : Int) (w : World) : Calls Try.prog 25 #[.int .i64 a, .int .i64 k] w fun e w' => e = .returned (.tuple #[.int .i64 (if powB a k = true then pw a k.toNat else 0), .bool (powB a k)]) ∧ w' = w := by
  by_cases h : 1 ≤ a ∧ a ≤ 2998
  · have hd : decide (1 ≤ a ∧ a ≤ 2998) = true := decide_eq_true h
    by_cases hk0 : k < 0
    · have hb : powB a k = false := by simp [powB]; omega
      rw [hb, if_neg (by simp)]
      clear hb
      go_enter Try.func25, Try.ntmps25
      go_wp2_with (go_at_call 65; refine (isRest_c a _).mono ?_; rw [hd]; clear hd; rintro e w' ⟨rfl, rfl⟩)
      refine bodyPost_ret (v := .tuple #[.int .i64 0, .bool false]) (by simp [results, Try.results25, go_sem]) rfl ⟨rfl, rfl⟩
    · by_cases hk1 : 1000000 < k
      · have hb : powB a k = false := by simp [powB]; omega
        rw [hb, if_neg (by simp)]
        clear hb
        go_enter Try.func25, Try.ntmps25
        go_wp2_with (go_at_call 65; refine (isRest_c a _).mono ?_; rw [hd]; clear hd; rintro e w' ⟨rfl, rfl⟩)
        refine bodyPost_ret (v := .tuple #[.int .i64 0, .bool false]) (by simp [results, Try.results25, go_sem]) rfl ⟨rfl, rfl⟩
      · have hb : powB a k = true := by simp [powB]; omega
        rw [hb, if_pos rfl]
        clear hb
        obtain ⟨q, rfl⟩ : ∃ q : Nat, k = q := ⟨k.toNat, by omega⟩
        rw [Int.toNat_natCast]
        generalize hp : pw a q = p
        go_enter Try.func25, Try.ntmps25
        go_wp2_with (first
          | (go_at_call 65; refine (isRest_c a _).mono ?_; rw [hd]; clear hd; rintro e w' ⟨rfl, rfl⟩)
          | (go_at_call 46; refine (powerOfRest_c a q _ (by omega) (by omega) (by omega)).mono ?_; rw [hp]; clear hp; rintro e w' ⟨rfl, rfl⟩))
        refine bodyPost_ret (v := .tuple #[.int .i64 p, .bool true]) (by simp [results, Try.results25, go_sem]) rfl ⟨rfl, rfl⟩
  · have hd : decide (1 ≤ a ∧ a ≤ 2998) = false := decide_eq_false h
    have hb : powB a k = false := by simp only [powB, hd, Bool.false_and]
    rw [hb, if_neg (by simp)]
    clear hb
    go_enter Try.func25, Try.ntmps25
    go_wp2_with (go_at_call 65; refine (isRest_c a _).mono ?_; rw [hd]; clear hd; rintro e w' ⟨rfl, rfl⟩)
    refine bodyPost_ret (v := .tuple #[.int .i64 0, .bool false]) (by simp [results, Try.results25, go_sem]) rfl ⟨rfl, rfl⟩

set_option maxHeartbeats 1000000 in
theorem implShared_c (s p : Int) (w : World) : Calls Try.prog 63 #[.int .i64 s, .int .i64 p] w fun e w' => e = .returned (.tuple #[.int .i64 (if shareB s p = true then pw p s.toNat else 0), .bool (shareB s p)]) ∧ w' = w := by
  cases g0 : decide (1 ≤ s ∧ s ≤ 1498)
  · have hb : shareB s p = false := by simp only [shareB, g0, Bool.false_and, Bool.and_false, Bool.true_and, Bool.and_true]
    rw [hb]; clear hb
    simp only [Bool.false_eq_true, if_false]
    go_enter Try.func63, Try.ntmps63
    go_wp2_with (first | (go_at_call 43; refine (isSecret_c _ _).mono ?_; rw [g0]; clear g0; rintro e w' ⟨rfl, rfl⟩))
    refine bodyPost_ret (v := .tuple #[.int .i64 0, .bool false]) (by simp [results, Try.results63, go_sem]) rfl ⟨rfl, rfl⟩
  ·
    cases g1 : memB p
    · have hb : shareB s p = false := by simp only [shareB, g0, g1, Bool.false_and, Bool.and_false, Bool.true_and, Bool.and_true]
      rw [hb]; clear hb
      simp only [Bool.false_eq_true, if_false]
      go_enter Try.func63, Try.ntmps63
      go_wp2_with (first | (go_at_call 43; refine (isSecret_c _ _).mono ?_; rw [g0]; clear g0; rintro e w' ⟨rfl, rfl⟩) | (go_at_call 53; refine (implMember_c p _).mono ?_; rw [g1]; clear g1; rintro e w' ⟨rfl, rfl⟩))
      refine bodyPost_ret (v := .tuple #[.int .i64 0, .bool false]) (by simp [results, Try.results63, go_sem]) rfl ⟨rfl, rfl⟩
    · have hb : shareB s p = true := by simp only [shareB, g0, g1, Bool.and_self]
      rw [hb]; clear hb
      simp only [if_true]
      have hs := of_decide_eq_true g0
      have hm := memB_in g1
      obtain ⟨q, rfl⟩ : ∃ q : Nat, s = q := ⟨s.toNat, by omega⟩
      rw [Int.toNat_natCast]
      generalize hp : pw p q = r
      go_enter Try.func63, Try.ntmps63
      go_wp2_with (first | (go_at_call 43; refine (isSecret_c _ _).mono ?_; rw [g0]; clear g0; rintro e w' ⟨rfl, rfl⟩) | (go_at_call 53; refine (implMember_c p _).mono ?_; rw [g1]; clear g1; rintro e w' ⟨rfl, rfl⟩) | (go_at_call 46; refine (powerOfRest_c p q _ (by omega) (by omega) (by omega)).mono ?_; rw [hp]; clear hp; rintro e w' ⟨rfl, rfl⟩))
      refine bodyPost_ret (v := .tuple #[.int .i64 r, .bool true]) (by simp [results, Try.results63, go_sem]) rfl ⟨rfl, rfl⟩

set_option maxHeartbeats 1000000 in
theorem implOpen_c (s x y : Int) (w : World) : Calls Try.prog 12 #[.int .i64 s, .agg #[.int .i64 x, .int .i64 y]] w fun e w' => e = .returned (.tuple #[.int .i64 (if openB s x y = true then (y * pw (pw x s.toNat) 2997 % 2999) else 0), .bool (openB s x y)]) ∧ Below w.heap.size w w' := by
  cases g0 : decide (1 ≤ s ∧ s ≤ 1498)
  · have hb : openB s x y = false := by simp only [openB, g0, Bool.false_and, Bool.and_false, Bool.true_and, Bool.and_true]
    rw [hb]; clear hb
    simp only [Bool.false_eq_true, if_false]
    have HB : Hid (Below w.heap.size w (w.alloc (Obj.cells #[Value.int .i64 x, Value.int .i64 y] 25))) := (Below.refl _ _).alloc (Nat.le_refl _) _
    go_enter Try.func12, Try.ntmps12
    go_wp2_with (first | (go_at_call 43; refine (isSecret_c _ _).mono ?_; rw [g0]; clear g0; rintro e w' ⟨rfl, rfl⟩))
    refine bodyPost_ret (v := .tuple #[.int .i64 0, .bool false]) (by simp [results, Try.results12, go_sem]) rfl ⟨rfl, HB.out⟩
  ·
    cases g1 : sealB x y
    · have hb : openB s x y = false := by simp only [openB, g0, g1, Bool.false_and, Bool.and_false, Bool.true_and, Bool.and_true]
      rw [hb]; clear hb
      simp only [Bool.false_eq_true, if_false]
      have HB : Hid (Below w.heap.size w (w.alloc (Obj.cells #[Value.int .i64 x, Value.int .i64 y] 25))) := (Below.refl _ _).alloc (Nat.le_refl _) _
      go_enter Try.func12, Try.ntmps12
      go_wp2_with (first | (go_at_call 43; refine (isSecret_c _ _).mono ?_; rw [g0]; clear g0; rintro e w' ⟨rfl, rfl⟩) | (go_at_call 36; refine (isSealed_c x y _).mono ?_; rw [g1]; clear g1; rintro e w' ⟨rfl, hb⟩; have HB1 : Hid (Below w.heap.size w w') := HB.out.trans (hb.mono (by simp)); have c0 : w'.cell? ⟨w.heap.size, 0, none⟩ = some (.int .i64 x) := (by rw [hb.cell (p := ⟨w.heap.size, 0, none⟩) (by simp)]; simp); have c1 : w'.cell? ⟨w.heap.size, 1, none⟩ = some (.int .i64 y) := (by rw [hb.cell (p := ⟨w.heap.size, 1, none⟩) (by simp)]; simp); clear hb))
      refine bodyPost_ret (v := .tuple #[.int .i64 0, .bool false]) (by simp [results, Try.results12, go_sem]) rfl ⟨rfl, HB1.out⟩
    · have hb : openB s x y = true := by simp only [openB, g0, g1, Bool.and_self]
      rw [hb]; clear hb
      simp only [if_true]
      have HB : Hid (Below w.heap.size w (w.alloc (Obj.cells #[Value.int .i64 x, Value.int .i64 y] 25))) := (Below.refl _ _).alloc (Nat.le_refl _) _
      have hs := of_decide_eq_true g0
      have hm := sealB_in g1
      obtain ⟨q, rfl⟩ : ∃ q : Nat, s = q := ⟨s.toNat, by omega⟩
      rw [Int.toNat_natCast]
      have l1 := pw_lo x q
      have l2 := pw_hi x q
      generalize hp : pw x q = r at *
      have l3 := pw_lo r 2997
      have l4 := pw_hi r 2997
      generalize hi : pw r 2997 = v at *
      have l5 := prod_lt (x := y) (y := v) (by omega) (by omega) (by omega) (by omega)
      have HQ1 : Hid (∀ wx, Calls Try.prog 46 #[.int .i64 x, .int .i64 (q : Int)] wx fun e w' => e = .returned (.int .i64 r) ∧ w' = wx) := fun wx => by have := powerOfRest_c x q wx (by omega) (by omega) (by omega); rw [hp] at this; exact this
      have HQ2 : Hid (∀ wx, Calls Try.prog 45 #[.int .i64 r] wx fun e w' => e = .returned (.int .i64 v) ∧ w' = wx) := fun wx => by have := inverseOfRest_c r wx (by omega) (by omega); rw [hi] at this; exact this
      clear hp hi
      have HQ3 : Hid (∀ wx, Calls Try.prog 44 #[.int .i64 y, .int .i64 v] wx fun e w' => e = .returned (.int .i64 (y * v % 2999)) ∧ w' = wx) := fun wx => timesRests_c y v wx (by omega) (by omega) (by omega) (by omega)
      go_enter Try.func12, Try.ntmps12
      go_wp2_with (first | (go_at_call 43; refine (isSecret_c _ _).mono ?_; rw [g0]; clear g0; rintro e w' ⟨rfl, rfl⟩) | (go_at_call 36; refine (isSealed_c x y _).mono ?_; rw [g1]; clear g1; rintro e w' ⟨rfl, hb⟩; have HB1 : Hid (Below w.heap.size w w') := HB.out.trans (hb.mono (by simp)); have c0 : w'.cell? ⟨w.heap.size, 0, none⟩ = some (.int .i64 x) := (by rw [hb.cell (p := ⟨w.heap.size, 0, none⟩) (by simp)]; simp); have c1 : w'.cell? ⟨w.heap.size, 1, none⟩ = some (.int .i64 y) := (by rw [hb.cell (p := ⟨w.heap.size, 1, none⟩) (by simp)]; simp); clear hb))
      go_quiet (first | (go_at_call 46; exact Calls.quiet_of_same (HQ1.out _)) | (go_at_call 45; exact Calls.quiet_of_same (HQ2.out _)) | (go_at_call 44; exact Calls.quiet_of_same (HQ3.out _)))
      go_wp2
      refine bodyPost_ret (v := .tuple #[.int .i64 (y * v % 2999), .bool true]) (by simp [results, Try.results12, go_sem]) rfl ⟨rfl, below_drewN HB1.out _⟩

end Go.Proofs.Ytobomcmjilcnaaa
