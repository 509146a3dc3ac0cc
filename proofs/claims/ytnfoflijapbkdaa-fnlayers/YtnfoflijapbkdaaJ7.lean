/- Chapter 7: pads of both sides. -/
import Derived.Test.YtnfoflijapbkdaaI7
import Derived.Test.YtnfoflijapbkdaaTI4
import Derived.Test.YtnfoflijapbkdaaTU4
namespace Go.Proofs.Ytnfoflijapbkdaa
set_option linter.unusedVariables false
set_option maxRecDepth 1000000
set_option linter.unusedSimpArgs false
open Go.RowKit

/-- A row that was just made: bytes 0. -/
theorem make_run (n : Nat) (hn : n ≤ 1000) : ∃ M : Array Value, (∀ W : World, (Instr.makeSlice 22 (.int .i64 (n : Int)) (.int .i64 (n : Int))).run Try.prog W = .ok (.slice (some ⟨W.heap.size, 0, none⟩) n n) (W.alloc (.cells M 5))) ∧
    (∀ W : World, RowB (W.alloc (.cells M 5)) W.heap.size (zeros n)) := by
  obtain ⟨i0, hi, hz0, hz1, hz2⟩ := info_parts Try.infoByte
  have hM : (madeCells (Value.int .u8 0).cells (((n : Nat) : Int).toNat * i0.size)).toList = List.replicate n (Value.int .u8 0) := by
    rw [hz1, Nat.mul_one, Int.toNat_natCast]
    exact toList_madeCells_one _ _
  refine ⟨madeCells (Value.int .u8 0).cells (((n : Nat) : Int).toNat * i0.size), fun W => ?_, fun W => ⟨fun j hj => ?_, fun j hj => ?_⟩⟩
  · have h := run_make (P := Try.prog) W 22 5 i0 (.int .u8 0) Try.underlying22 hi hz0 .i64 .i64 (n : Int) (n : Int) (by omega) (by omega) (by rw [hz2]; omega) (by omega)
    simpa using h
  · have hj' : j < n := by simpa [zeros] using hj
    rw [World.cell?_alloc_mark, ← Array.getElem?_toList, hM]
    simp [bN, zeros, List.getD, List.getElem?_replicate, hj']
  · rw [World.frozen?_alloc_mark, decide_eq_false (show ¬ j < 0 by omega), Bool.and_false]

/-- The pad of a key, and whether there is one. -/
def padK (k : Int) (n : Nat) : ByteArray := (mixTF [k, k, k] k (tx (zeros n))).1
def padG (k many : Int) : Bool := blockB k && decide (0 ≤ many ∧ many ≤ 40) && decide (many % 2 = 0)
def padF (k many : Int) : ByteArray × Bool := if padG k many = true then (padK k many.toNat, true) else (ByteArray.empty, false)
theorem keys3 (k : Int) : keysB [k, k, k] = blockB k := by
  simp [keysB, allIn, inB, blockB]
theorem zeros_size (n : Nat) : (tx (zeros n)).size = n := by rw [tx_size]; simp [zeros]
theorem textG_pad (k : Int) (n : Nat) : textG [k, k, k] k (tx (zeros n)) = (blockB k && decide (n ≤ 40) && decide (n % 2 = 0)) := by
  unfold textG pairsB
  rw [keys3, zeros_size, Bool.and_self, Bool.and_assoc]
  congr 1
  rw [← Bool.decide_and]
theorem padK_size {k : Int} {n : Nat} (hk : blockB k = true) (hn : n ≤ 40) (he : n % 2 = 0) : (padK k n).size = n := by
  unfold padK mixTF
  rw [if_pos (by rw [textG_pad, hk, decide_eq_true hn, decide_eq_true he]; rfl)]
  show (strOfNums _).size = n
  rw [strOfNums_size, mixO_length, zeros_size]; omega
theorem padK_ok {k : Int} {n : Nat} (hk : blockB k = true) (hn : n ≤ 40) (he : n % 2 = 0) : mixTF [k, k, k] k (tx (zeros n)) = (padK k n, true) := by
  have h : textG [k, k, k] k (tx (zeros n)) = true := by rw [textG_pad, hk, decide_eq_true hn, decide_eq_true he]; rfl
  unfold padK mixTF
  rw [if_pos h]
/-- The pad of an onion. -/
def padU (k : Int) : Bs := bl (padK k 24)
theorem padU_length {k : Int} (hk : blockB k = true) : (padU k).length = 24 := by
  unfold padU; rw [bl_length, padK_size hk (by omega) (by omega)]
theorem padF_mix (k : Int) (n : Nat) (hn : n ≤ 40) : padF k n = mixTF [k, k, k] k (tx (zeros n)) := by
  unfold padF
  by_cases h : padG k n = true
  · rw [if_pos h]
    unfold padG at h
    simp only [Bool.and_eq_true, decide_eq_true_eq] at h
    rw [padK_ok h.1.1 hn (by omega)]; rfl
  · rw [if_neg h]
    unfold mixTF
    rw [if_neg]
    rw [textG_pad]
    intro h2
    apply h
    unfold padG
    simp only [Bool.and_eq_true, decide_eq_true_eq] at h2 ⊢
    exact ⟨⟨h2.1.1, by omega, by omega⟩, by omega⟩

theorem rd_three (w : World) (k : Int) : Rd (w.alloc (.cells #[.int .i64 k, .int .i64 k, .int .i64 k] 3)) (some ⟨w.heap.size, 0, none⟩) [k, k, k] := by
  refine Or.inr ⟨_, _, rfl, fun j hj => ?_⟩
  match j, hj with
  | 0, _ => simp
  | 1, _ => simp
  | 2, _ => simp

set_option maxHeartbeats 1000000 in
theorem implPadFor_in (k : Int) (n : Nat) (w : World) (hn : n ≤ 40) (t : ByteArray) (fb : Bool) (hF : mixTF [k, k, k] k (tx (zeros n)) = (t, fb)) :
    Calls Try.prog 33 #[.int .i64 k, .int .i64 n] w fun e w' => e = .returned (.tuple #[.string t, .bool fb]) ∧ Below w.heap.size w w' := by
  obtain ⟨M, hmk, hrow⟩ := make_run n (by omega)
  have hcv : (convert 22 9 (.slice (some ⟨w.heap.size + 1, 0, none⟩) n n)).run Try.prog ((w.alloc (.cells #[.int .i64 k, .int .i64 k, .int .i64 k] 3)).alloc (.cells M 5)) = .ok (.string (tx (zeros n))) ((w.alloc (.cells #[.int .i64 k, .int .i64 k, .int .i64 k] 3)).alloc (.cells M 5)) := by
    have := (hrow (w.alloc (.cells #[.int .i64 k, .int .i64 k, .int .i64 k] 3))).text n n (by simp [zeros])
    simpa using this
  have HM : Hid (∀ W : World, Rd W (some ⟨w.heap.size, 0, none⟩) [k, k, k] → Calls Try.prog 69 #[.slice (some ⟨w.heap.size, 0, none⟩) 3 3, .int .i64 k, .string (tx (zeros n))] W fun e w' => e = .returned (.tuple #[.string t, .bool fb]) ∧ Below W.heap.size W w') := fun W h =>
    implMixT_c _ 3 3 k (tx (zeros n)) [k, k, k] W rfl (by omega) (by rw [zeros_size]; omega) h t fb hF
  have HR : Hid (Rd ((w.alloc (.cells #[.int .i64 k, .int .i64 k, .int .i64 k] 3)).alloc (.cells M 5)) (some ⟨w.heap.size, 0, none⟩) [k, k, k]) := (rd_three w k).later (balloc _ _)
  have HB : Hid (Below w.heap.size w ((w.alloc (.cells #[.int .i64 k, .int .i64 k, .int .i64 k] 3)).alloc (.cells M 5))) := (balloc _ _).alloc (by simp) _
  have h1 : ¬ (n : Int) < 0 := by omega
  have h2 : ¬ (40 : Int) < (n : Int) := by omega
  generalize tx (zeros n) = zt at hcv HM
  clear hF hrow
  go_enter Try.func33, Try.ntmps33
  go_wp2_with fail
  refine (HM.out _ HR.out).mono ?_
  rintro e w' ⟨rfl, hb⟩
  have HB2 : Hid (Below w.heap.size w w') := HB.out.trans (hb.mono HB.out.size)
  clear hb HM HR HB hcv hmk
  go_wp2
  refine bodyPost_ret (v := .tuple #[.string t, .bool fb]) (by simp [results, Try.results33, go_sem]; try rfl) rfl ?_
  exact ⟨rfl, HB2.out⟩

set_option maxHeartbeats 1000000 in
theorem implPadFor_c (k many : Int) (w : World) (t : ByteArray) (fb : Bool) (hF : padF k many = (t, fb)) :
    Calls Try.prog 33 #[.int .i64 k, .int .i64 many] w fun e w' => e = .returned (.tuple #[.string t, .bool fb]) ∧ Below w.heap.size w w' := by
  by_cases h1 : many < 0
  · rw [show padF k many = (ByteArray.empty, false) by unfold padF padG; rw [decide_eq_false (show ¬ (0 ≤ many ∧ many ≤ 40) by omega)]; simp] at hF
    simp only [Prod.mk.injEq] at hF
    obtain ⟨rfl, rfl⟩ := hF
    go_enter Try.func33, Try.ntmps33
    go_wp2
    refine bodyPost_ret (v := .tuple #[.string ByteArray.empty, .bool false]) (by simp [results, Try.results33, go_sem]; try rfl) rfl ?_
    exact ⟨rfl, Below.refl _ _⟩
  · by_cases h2 : 40 < many
    · rw [show padF k many = (ByteArray.empty, false) by unfold padF padG; rw [decide_eq_false (show ¬ (0 ≤ many ∧ many ≤ 40) by omega)]; simp] at hF
      simp only [Prod.mk.injEq] at hF
      obtain ⟨rfl, rfl⟩ := hF
      go_enter Try.func33, Try.ntmps33
      go_wp2
      refine bodyPost_ret (v := .tuple #[.string ByteArray.empty, .bool false]) (by simp [results, Try.results33, go_sem]; try rfl) rfl ?_
      exact ⟨rfl, Below.refl _ _⟩
    · obtain ⟨n, rfl⟩ : ∃ n : Nat, many = n := ⟨many.toNat, by omega⟩
      rw [padF_mix k n (by omega)] at hF
      exact implPadFor_in k n w (by omega) t fb hF

set_option maxHeartbeats 1000000 in
theorem l7Pad_c (k : Int) (n : Nat) (w : World) (hk : blockB k = true) (hn : n ≤ 40) (he : n % 2 = 0) :
    Calls Try.prog 56 #[.int .i64 k, .int .i64 n] w fun e w' => e = .returned (.string (padK k n)) ∧ Below w.heap.size w w' := by
  obtain ⟨M, hmk, hrow⟩ := make_run n (by omega)
  have hcv : (convert 22 9 (.slice (some ⟨w.heap.size + 1, 0, none⟩) n n)).run Try.prog ((w.alloc (.cells #[.int .i64 k, .int .i64 k, .int .i64 k] 3)).alloc (.cells M 5)) = .ok (.string (tx (zeros n))) ((w.alloc (.cells #[.int .i64 k, .int .i64 k, .int .i64 k] 3)).alloc (.cells M 5)) := by
    have := (hrow (w.alloc (.cells #[.int .i64 k, .int .i64 k, .int .i64 k] 3))).text n n (by simp [zeros])
    simpa using this
  have HM : Hid (∀ W : World, Rd W (some ⟨w.heap.size, 0, none⟩) [k, k, k] → Calls Try.prog 73 #[.slice (some ⟨w.heap.size, 0, none⟩) 3 3, .int .i64 k, .string (tx (zeros n))] W fun e w' => e = .returned (.tuple #[.string (padK k n), .bool true]) ∧ Below W.heap.size W w') := fun W h =>
    specMixT_c _ 3 3 k (tx (zeros n)) [k, k, k] W rfl (by omega) (by rw [zeros_size]; omega) h _ true (padK_ok hk hn he)
  have HR : Hid (Rd ((w.alloc (.cells #[.int .i64 k, .int .i64 k, .int .i64 k] 3)).alloc (.cells M 5)) (some ⟨w.heap.size, 0, none⟩) [k, k, k]) := (rd_three w k).later (balloc _ _)
  have HB : Hid (Below w.heap.size w ((w.alloc (.cells #[.int .i64 k, .int .i64 k, .int .i64 k] 3)).alloc (.cells M 5))) := (balloc _ _).alloc (by simp) _
  generalize tx (zeros n) = zt at hcv HM
  generalize padK k n = t at HM ⊢
  clear hrow hk hn he
  go_enter Try.func56, Try.ntmps56
  go_wp2_with fail
  refine (HM.out _ HR.out).mono ?_
  rintro e w' ⟨rfl, hb⟩
  have HB2 : Hid (Below w.heap.size w w') := HB.out.trans (hb.mono HB.out.size)
  clear hb HM HR HB hcv hmk
  go_wp2
  go_ret
  exact ⟨rfl, HB2.out⟩

set_option maxHeartbeats 1000000 in
theorem specPadFor_c (k many : Int) (w : World) (t : ByteArray) (fb : Bool) (hF : padF k many = (t, fb)) :
    Calls Try.prog 34 #[.int .i64 k, .int .i64 many] w fun e w' => e = .returned (.tuple #[.string t, .bool fb]) ∧ Below w.heap.size w w' := by
  have HK : Hid (∀ wx, Calls Try.prog 63 #[.int .i64 k] wx fun e w' => e = .returned (.bool (blockB k)) ∧ w' = wx) := fun wx => l4Key_c k wx
  have HI : Hid (∀ wx, Calls Try.prog 50 #[.int .i64 many, .int .i64 0, .int .i64 40] wx fun e w' => e = .returned (.bool (decide (0 ≤ many ∧ many ≤ 40))) ∧ w' = wx) := fun wx => l1In_c many 0 40 wx
  unfold padF padG at hF
  cases hb : blockB k with
  | false =>
    rw [hb] at HK hF
    simp only [Bool.false_and] at hF
    rw [if_neg (by decide)] at hF
    simp only [Prod.mk.injEq] at hF
    obtain ⟨rfl, rfl⟩ := hF
    clear hb
    go_enter Try.func34, Try.ntmps34
    go_wp2_with (go_at_call 63; refine (HK.out _).mono ?_; clear HK; rintro e w' ⟨rfl, hw⟩; subst w')
    refine bodyPost_ret (v := .tuple #[.string ByteArray.empty, .bool false]) (by simp [results, Try.results34, go_sem]; try rfl) rfl ?_
    exact ⟨rfl, Below.refl _ _⟩
  | true =>
    rw [hb] at HK hF
    by_cases h2 : 0 ≤ many ∧ many ≤ 40
    · rw [decide_eq_true h2] at HI hF
      obtain ⟨n, rfl⟩ : ∃ n : Nat, many = n := ⟨many.toNat, by omega⟩
      by_cases h3 : (n : Int) % 2 = 0
      · rw [decide_eq_true h3, if_pos (by rfl)] at hF
        simp only [Prod.mk.injEq, Int.toNat_natCast] at hF
        obtain ⟨rfl, rfl⟩ := hF
        have h3'' : ((n : Int) % 2 != 0) = false := by rw [bne_eq_false_iff_eq]; exact h3
        have HP : Hid (∀ wx, Calls Try.prog 56 #[.int .i64 k, .int .i64 n] wx fun e w' => e = .returned (.string (padK k n)) ∧ Below wx.heap.size wx w') := fun wx => l7Pad_c k n wx hb (by omega) (by omega)
        generalize padK k n = t at HP ⊢
        clear hb h2 h3
        go_enter Try.func34, Try.ntmps34
        go_wp2_with (first | (go_at_call 63; refine (HK.out _).mono ?_; clear HK; rintro e w' ⟨rfl, hw⟩; subst w') | (go_at_call 50; refine (HI.out _).mono ?_; clear HI; rintro e w' ⟨rfl, hw⟩; subst w') | (go_at_call 56; refine (HP.out _).mono ?_; clear HP; rintro e w' ⟨rfl, hb⟩; have HB2 : Hid (Below w.heap.size w w') := hb; clear hb))
        refine bodyPost_ret (v := .tuple #[.string t, .bool true]) (by simp [results, Try.results34, go_sem]; try rfl) rfl ?_
        exact ⟨rfl, HB2.out⟩
      · rw [decide_eq_false h3, if_neg (by simp)] at hF
        simp only [Prod.mk.injEq] at hF
        obtain ⟨rfl, rfl⟩ := hF
        have h3'' : ((n : Int) % 2 != 0) = true := by rw [bne_iff_ne]; exact h3
        clear hb h2 h3
        go_enter Try.func34, Try.ntmps34
        go_wp2_with (first | (go_at_call 63; refine (HK.out _).mono ?_; clear HK; rintro e w' ⟨rfl, hw⟩; subst w') | (go_at_call 50; refine (HI.out _).mono ?_; clear HI; rintro e w' ⟨rfl, hw⟩; subst w'))
        refine bodyPost_ret (v := .tuple #[.string ByteArray.empty, .bool false]) (by simp [results, Try.results34, go_sem]; try rfl) rfl ?_
        exact ⟨rfl, Below.refl _ _⟩
    · rw [decide_eq_false h2] at HI hF
      rw [if_neg (by simp)] at hF
      simp only [Prod.mk.injEq] at hF
      obtain ⟨rfl, rfl⟩ := hF
      clear hb h2
      go_enter Try.func34, Try.ntmps34
      go_wp2_with (first | (go_at_call 63; refine (HK.out _).mono ?_; clear HK; rintro e w' ⟨rfl, hw⟩; subst w') | (go_at_call 50; refine (HI.out _).mono ?_; clear HI; rintro e w' ⟨rfl, hw⟩; subst w'))
      refine bodyPost_ret (v := .tuple #[.string ByteArray.empty, .bool false]) (by simp [results, Try.results34, go_sem]; try rfl) rfl ?_
      exact ⟨rfl, Below.refl _ _⟩

end Go.Proofs.Ytnfoflijapbkdaa
