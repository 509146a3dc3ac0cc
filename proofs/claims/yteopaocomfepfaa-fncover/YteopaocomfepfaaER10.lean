/- Chapter 10: EraseSays, both sides. -/
import Derived.Test.YteopaocomfepfaaTR10
namespace Go.Proofs.Yteopaocomfepfaa
set_option linter.unusedVariables false
set_option maxRecDepth 1000000
set_option linter.unusedSimpArgs false
open Go.RowKit

set_option maxHeartbeats 4000000 in
theorem implErase_no (ao : Option Addr) (n c : Nat) (w : World) (hn : n ≤ 17592186044416) (h : 80 < n) :
    Calls Try.prog 18 #[.slice ao n c] w fun e w' => ∃ a' c', e = .returned (.tuple #[.slice a' 0 c', .bool false]) ∧ OwnK w' w.heap.size (.slice a' 0 c') [] ∧ Below w.heap.size w w' := by
  have h8 : (80 : Int) < (n : Int) := by omega
  go_enter Try.func18, Try.ntmps18
  go_wp2
  refine bodyPost_ret (v := .tuple #[.slice none 0 0, .bool false]) (by simp [results, Try.results18, go_sem]; try rfl) rfl ?_
  exact ⟨none, 0, rfl, OwnK.nilq _ _, Below.refl _ _⟩

set_option maxHeartbeats 8000000 in
theorem implErase_yes (ao : Option Addr) (n c : Nat) (xs : List (Int × ByteArray)) (w : World) (hx : xs.length = n) (h : n ≤ 80) (hr : RdK w ao xs) :
    Calls Try.prog 18 #[.slice ao n c] w fun e w' => ∃ a' c', e = .returned (.tuple #[.slice a' (ticksL xs).length c', .bool true]) ∧ OwnK w' w.heap.size (.slice a' (ticksL xs).length c') (ticksL xs) ∧ Below w.heap.size w w' := by
  have h8 : ¬ (80 : Int) < (n : Int) := by omega
  have HX : Hid (xs.length = n) := hx
  have HR : Hid (RdK w ao xs) := hr
  have HE : Hid (ticksL (xs.take n) = ticksL xs) := by show _ = _; rw [List.take_of_length_le (by omega)]
  obtain ⟨p, hp⟩ : ∃ p, (ticksL xs).length = p := ⟨_, rfl⟩
  rw [hp]
  have HP : Hid ((ticksL xs).length = p) := hp
  clear hx hr hp
  go_enter Try.func18, Try.ntmps18
  go_wp2
  go_loopw [4, 12] (fun v iv wr => ∃ j : Nat, j ≤ n ∧ iv = .int .i64 j ∧ Hid (OwnK wr w.heap.size v (ticksL (xs.take j))) ∧ Hid ((ticksL (xs.take j)).length ≤ j) ∧ Hid (Below w.heap.size w wr)) (fun _ iv _ => n - (intOf iv).toNat)
  case atStart => exact ⟨0, Nat.zero_le _, rfl, OwnK.nilq _ _, Nat.le_refl _, Below.refl _ _⟩
  case round =>
    obtain ⟨j, hj, rfl, hO, hLe, hB⟩ := hrel
    by_cases hlt : j < n
    · have hjl : j < xs.length := by rw [HX.out]; exact hlt
      obtain ⟨b, o, rfl, g0, g1⟩ := (HR.out.later hB.out).get hjl
      have HT := ticksL_succ hjl
      generalize (xs.getD j (0, ByteArray.empty)) = x at g0 g1 HT
      obtain ⟨k, s⟩ := x
      dsimp only at g0 g1 HT
      have k0 : (0 : Int) ≤ (j : Int) := by omega
      have k1 : (j : Int) < (n : Int) := by omega
      cases ht : tickB k s with
      | true =>
        obtain ⟨rfl, rfl⟩ := tickB_val ht
        rw [if_pos ht] at HT
        have HT2 : Hid (ticksL (xs.take (j + 1)) = ticksL (xs.take j) ++ [(2, ByteArray.empty)]) := HT
        clear HT hjl
        generalize ticksL (xs.take j) = out at hO hLe HT2
        have qt := fun wx => isPlainTick_c 2 ByteArray.empty wx
        rw [ht] at qt
        go_wp2_with fail
        refine (qt _).mono ?_
        clear qt ht g0 g1
        rintro e w1 ⟨rfl, hb⟩
        have hB1 : Below w.heap.size w w1 := (hB.out.alloc hB.out.size (.cells #[.int .i64 2, .string ByteArray.empty] 39)).trans (hb.mono (by have := hB.out.size; simp; omega))
        have hO0 : OwnK w1 w.heap.size u4 out := (hO.out.later (balloc wr (.cells #[.int .i64 2, .string ByteArray.empty] 39))).later hb
        have bA := balloc w1 (.cells #[.int .i64 2, .string ByteArray.empty] 39)
        obtain ⟨v', w2, r1, o2, g2, b2⟩ := appendK_run (w1.alloc (.cells #[.int .i64 2, .string ByteArray.empty] 39)) w.heap.size u4 out [(2, ByteArray.empty)] (some ⟨w1.heap.size, 0, none⟩) 1 1 (hO0.later bA) (litK w1 _ _) rfl (fun e => by cases e) (by have := hLe.out; omega) (Nat.le_trans hB1.size bA.size)
        have HO2 : Hid (OwnK w2 w.heap.size v' (out ++ [(2, ByteArray.empty)])) := o2
        have HB2 : Hid (Below w.heap.size w w2) := (hB1.alloc hB1.size _).trans b2
        clear hb bA hB1 hO0 o2 g2 b2 hO hB
        go_wp2_with (at_builtin; refine Lib.wpList_append_run _ rfl _ _ _ _ rfl _ _ rfl rfl _ _ (r1 _) ?_; clear r1)
        go_roundw
        case rel => exact ⟨j + 1, by omega, by go_num, by show OwnK _ _ _ _; rw [HT2.out]; exact HO2.out, by show _ ≤ _; rw [HT2.out, List.length_append]; have := hLe.out; simp; omega, HB2⟩
        case measure => simp [intOf]; omega
      | false =>
        rw [if_neg (by rw [ht]; simp)] at HT
        have HT2 : Hid (ticksL (xs.take (j + 1)) = ticksL (xs.take j)) := HT
        clear HT hjl
        generalize ticksL (xs.take j) = out at hO hLe HT2
        have qt := fun wx => isPlainTick_c k s wx
        rw [ht] at qt
        go_wp2_with fail
        refine (qt _).mono ?_
        clear qt ht g0 g1
        rintro e w1 ⟨rfl, hb⟩
        have HB1 : Hid (Below w.heap.size w w1) := (hB.out.alloc hB.out.size (.cells #[.int .i64 k, .string s] 39)).trans (hb.mono (by have := hB.out.size; simp; omega))
        have HO1 : Hid (OwnK w1 w.heap.size u4 out) := (hO.out.later (balloc wr (.cells #[.int .i64 k, .string s] 39))).later hb
        clear hb hO hB
        go_wp2
        go_roundw
        case rel => exact ⟨j + 1, by omega, by go_num, by show OwnK _ _ _ _; rw [HT2.out]; exact HO1.out, by show _ ≤ _; rw [HT2.out]; have := hLe.out; omega, HB1⟩
        case measure => simp [intOf]; omega
    · obtain rfl : j = n := by omega
      have hO' := hO.out
      rw [HE.out] at hO'
      obtain ⟨a', c', hv⟩ := hO'.shape
      rw [HP.out] at hv
      subst hv
      have HO1 : Hid (OwnK wr w.heap.size (.slice a' p c') (ticksL xs)) := hO'
      clear hO' hO
      go_wp2
      refine bodyPost_ret (v := .tuple #[.slice a' p c', .bool true]) (by simp [results, Try.results18, go_sem]; try rfl) rfl ?_
      exact ⟨a', c', rfl, HO1.out, hB.out⟩

theorem implErase_c (ao : Option Addr) (n c : Nat) (xs : List (Int × ByteArray)) (w : World) (hx : xs.length = n) (hn : n ≤ 17592186044416) (hr : RdK w ao xs) (l : List (Int × ByteArray)) (fb : Bool) (hF : eraseF xs = (l, fb)) (p : Nat) (hp : l.length = p) :
    Calls Try.prog 18 #[.slice ao n c] w fun e w' => ∃ a' c', e = .returned (.tuple #[.slice a' p c', .bool fb]) ∧ OwnK w' w.heap.size (.slice a' p c') l ∧ Below w.heap.size w w' := by
  unfold eraseF at hF
  by_cases h : xs.length ≤ 80
  · rw [if_pos h] at hF
    simp only [Prod.mk.injEq] at hF
    obtain ⟨rfl, rfl⟩ := hF
    subst hp
    exact implErase_yes ao n c xs w hx (by omega) hr
  · rw [if_neg h] at hF
    simp only [Prod.mk.injEq] at hF
    obtain ⟨rfl, rfl⟩ := hF
    subst hp
    exact implErase_no ao n c w hn (by omega)

set_option maxHeartbeats 4000000 in
theorem specErase_no (ao : Option Addr) (n c : Nat) (w : World) (hn : n ≤ 17592186044416) (h : 80 < n) :
    Calls Try.prog 21 #[.slice ao n c] w fun e w' => ∃ a' c', e = .returned (.tuple #[.slice a' 0 c', .bool false]) ∧ OwnK w' w.heap.size (.slice a' 0 c') [] ∧ Below w.heap.size w w' := by
  have h8 : (80 : Int) < (n : Int) := by omega
  go_enter Try.func21, Try.ntmps21
  go_wp2
  refine bodyPost_ret (v := .tuple #[.slice none 0 0, .bool false]) (by simp [results, Try.results21, go_sem]; try rfl) rfl ?_
  exact ⟨none, 0, rfl, OwnK.nilq _ _, Below.refl _ _⟩

set_option maxHeartbeats 8000000 in
theorem specErase_yes (ao : Option Addr) (n c : Nat) (xs : List (Int × ByteArray)) (w : World) (hx : xs.length = n) (h : n ≤ 80) (hr : RdK w ao xs) :
    Calls Try.prog 21 #[.slice ao n c] w fun e w' => ∃ a' c', e = .returned (.tuple #[.slice a' (ticksL xs).length c', .bool true]) ∧ OwnK w' w.heap.size (.slice a' (ticksL xs).length c') (ticksL xs) ∧ Below w.heap.size w w' := by
  have h8 : ¬ (80 : Int) < (n : Int) := by omega
  have HX : Hid (xs.length = n) := hx
  have HR : Hid (RdK w ao xs) := hr
  have HE : Hid (ticksL (xs.take n) = ticksL xs) := by show _ = _; rw [List.take_of_length_le (by omega)]
  obtain ⟨p, hp⟩ : ∃ p, (ticksL xs).length = p := ⟨_, rfl⟩
  rw [hp]
  have HP : Hid ((ticksL xs).length = p) := hp
  clear hx hr hp
  go_enter Try.func21, Try.ntmps21
  go_wp2
  go_loopw [4, 12] (fun v iv wr => ∃ j : Nat, j ≤ n ∧ iv = .int .i64 j ∧ Hid (OwnK wr w.heap.size v (ticksL (xs.take j))) ∧ Hid ((ticksL (xs.take j)).length ≤ j) ∧ Hid (Below w.heap.size w wr)) (fun _ iv _ => n - (intOf iv).toNat)
  case atStart => exact ⟨0, Nat.zero_le _, rfl, OwnK.nilq _ _, Nat.le_refl _, Below.refl _ _⟩
  case round =>
    obtain ⟨j, hj, rfl, hO, hLe, hB⟩ := hrel
    by_cases hlt : j < n
    · have hjl : j < xs.length := by rw [HX.out]; exact hlt
      obtain ⟨b, o, rfl, g0, g1⟩ := (HR.out.later hB.out).get hjl
      have HT := ticksL_succ hjl
      generalize (xs.getD j (0, ByteArray.empty)) = x at g0 g1 HT
      obtain ⟨k, s⟩ := x
      dsimp only at g0 g1 HT
      have k0 : (0 : Int) ≤ (j : Int) := by omega
      have k1 : (j : Int) < (n : Int) := by omega
      cases ht : tickB k s with
      | true =>
        obtain ⟨rfl, rfl⟩ := tickB_val ht
        rw [if_pos ht] at HT
        have HT2 : Hid (ticksL (xs.take (j + 1)) = ticksL (xs.take j) ++ [(2, ByteArray.empty)]) := HT
        clear HT hjl
        generalize ticksL (xs.take j) = out at hO hLe HT2
        have e1 := text_is (s := ByteArray.empty) rfl
        have bX := balloc wr (.cells #[.int .i64 2, .string ByteArray.empty] 39)
        have cX := x2_new wr (.int .i64 2) (.string ByteArray.empty) 39 wr.heap.size rfl
        have hO0 := hO.out.later bX
        have hB1 := hB.out.alloc hB.out.size (.cells #[.int .i64 2, .string ByteArray.empty] 39)
        obtain ⟨w1, hw1⟩ : ∃ V, wr.alloc (.cells #[.int .i64 2, .string ByteArray.empty] 39) = V := ⟨_, rfl⟩
        rw [hw1] at bX cX hO0 hB1
        have bA := balloc w1 (.cells #[.int .i64 2, .string ByteArray.empty] 39)
        obtain ⟨v', w2, r1, o2, g2, b2⟩ := appendK_run (w1.alloc (.cells #[.int .i64 2, .string ByteArray.empty] 39)) w.heap.size u4 out [(2, ByteArray.empty)] (some ⟨w1.heap.size, 0, none⟩) 1 1 (hO0.later bA) (litK w1 _ _) rfl (fun e => by cases e) (by have := hLe.out; omega) (Nat.le_trans hB1.size bA.size)
        have HO2 : Hid (OwnK w2 w.heap.size v' (out ++ [(2, ByteArray.empty)])) := o2
        have HB2 : Hid (Below w.heap.size w w2) := (hB1.alloc hB1.size _).trans b2
        obtain ⟨⟨x0, x1⟩, xf⟩ := cX
        clear bX bA hB1 hO0 o2 g2 b2 hO hB xf ht
        go_wp2_with (at_builtin; refine Lib.wpList_append_run _ rfl _ _ _ _ rfl _ _ rfl rfl _ _ (r1 _) ?_; clear r1)
        go_roundw
        case rel => exact ⟨j + 1, by omega, by go_num, by show OwnK _ _ _ _; rw [HT2.out]; exact HO2.out, by show _ ≤ _; rw [HT2.out, List.length_append]; have := hLe.out; simp; omega, HB2⟩
        case measure => simp [intOf]; omega
      | false =>
        rw [if_neg (by rw [ht]; simp)] at HT
        have HT2 : Hid (ticksL (xs.take (j + 1)) = ticksL (xs.take j)) := HT
        clear HT hjl
        generalize ticksL (xs.take j) = out at hO hLe HT2
        have HB1 : Hid (Below w.heap.size w (wr.alloc (.cells #[.int .i64 k, .string s] 39))) := hB.out.alloc hB.out.size _
        have HO1 : Hid (OwnK (wr.alloc (.cells #[.int .i64 k, .string s] 39)) w.heap.size u4 out) := hO.out.later (balloc wr _)
        clear hO hB
        by_cases hk2 : k = 2
        · subst hk2
          have e1 := text_not (s := s) (fun e => by subst e; simp [tickB] at ht)
          clear ht
          go_wp2
          go_roundw
          case rel => exact ⟨j + 1, by omega, by go_num, by show OwnK _ _ _ _; rw [HT2.out]; exact HO1.out, by show _ ≤ _; rw [HT2.out]; have := hLe.out; omega, HB1⟩
          case measure => simp [intOf]; omega
        · have e1 : (k == 2) = false := by rw [beq_eq_false_iff_ne]; exact hk2
          clear ht hk2
          go_wp2
          go_roundw
          case rel => exact ⟨j + 1, by omega, by go_num, by show OwnK _ _ _ _; rw [HT2.out]; exact HO1.out, by show _ ≤ _; rw [HT2.out]; have := hLe.out; omega, HB1⟩
          case measure => simp [intOf]; omega
    · obtain rfl : j = n := by omega
      have hO' := hO.out
      rw [HE.out] at hO'
      obtain ⟨a', c', hv⟩ := hO'.shape
      rw [HP.out] at hv
      subst hv
      have HO1 : Hid (OwnK wr w.heap.size (.slice a' p c') (ticksL xs)) := hO'
      clear hO' hO
      go_wp2
      refine bodyPost_ret (v := .tuple #[.slice a' p c', .bool true]) (by simp [results, Try.results21, go_sem]; try rfl) rfl ?_
      exact ⟨a', c', rfl, HO1.out, hB.out⟩

theorem specErase_c (ao : Option Addr) (n c : Nat) (xs : List (Int × ByteArray)) (w : World) (hx : xs.length = n) (hn : n ≤ 17592186044416) (hr : RdK w ao xs) (l : List (Int × ByteArray)) (fb : Bool) (hF : eraseF xs = (l, fb)) (p : Nat) (hp : l.length = p) :
    Calls Try.prog 21 #[.slice ao n c] w fun e w' => ∃ a' c', e = .returned (.tuple #[.slice a' p c', .bool fb]) ∧ OwnK w' w.heap.size (.slice a' p c') l ∧ Below w.heap.size w w' := by
  unfold eraseF at hF
  by_cases h : xs.length ≤ 80
  · rw [if_pos h] at hF
    simp only [Prod.mk.injEq] at hF
    obtain ⟨rfl, rfl⟩ := hF
    subst hp
    exact specErase_yes ao n c xs w hx (by omega) hr
  · rw [if_neg h] at hF
    simp only [Prod.mk.injEq] at hF
    obtain ⟨rfl, rfl⟩ := hF
    subst hp
    exact specErase_no ao n c w hn (by omega)

end Go.Proofs.Yteopaocomfepfaa
