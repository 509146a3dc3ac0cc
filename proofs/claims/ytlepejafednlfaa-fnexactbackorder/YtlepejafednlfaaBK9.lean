/- Chapter 9: the order that undoes one: both sides. -/
import Derived.Test.YtlepejafednlfaaP9
namespace Go.Proofs.Ytlepejafednlfaa
set_option linter.unusedVariables false
set_option maxRecDepth 1000000
set_option linter.unusedSimpArgs false
open Go.RowKit

set_option maxHeartbeats 4000000 in
theorem l9Back_c (ao : Option Addr) (n c : Nat) (xs : List Int) (w : World) (hx : xs.length = n) (hn : n ≤ 9) (ho : ordB xs = true) (hr : Rd w ao xs) :
    Calls Try.prog 89 #[.slice ao n c] w fun e w' => ∃ a' c', e = .returned (.slice a' n c') ∧ Own w' w.heap.size (.slice a' n c') (backL xs n) ∧ Below w.heap.size w w' := by
  obtain ⟨i0, hi, hz0, hz1, hz2⟩ := info_parts Try.infoInt
  have HX : Hid (xs.length = n) := hx
  have HR : Hid (Rd w ao xs) := hr
  have HIN : Hid (∀ k, k < n → 0 ≤ xs.getD k 0 ∧ xs.getD k 0 < (n : Int)) := fun k hk => by rw [← hx]; exact ord_in ho (by rw [hx]; exact hk)
  clear hx hr ho
  have HB0 : Hid (Below w.heap.size w w) := Below.refl _ _
  go_enter Try.func89, Try.ntmps89
  go_wp2_with (at_make; refine wpList_make_full _ rfl _ _ 23 rfl w.heap.size 3 i0 (.int .i64 0) 1 Try.underlying23 hi hz0 hz1 _ _ _ _ n rfl rfl rfl rfl (by rw [hz2]; omega) (by unfold maxLen; omega) (Nat.le_refl _) ?_; intro w0 hown0 hgrow0)
  have HB1 : Hid (Below w.heap.size w w0) := HB0.out.grown hgrow0 HB0.out.size (fun k h => by cases h)
  have HO : Hid (w0.ownsRow w.heap.size 3 1 (.slice (some ⟨w.heap.size, 0, none⟩) n n) n (cellsI (backL xs 0))) := by
    have e : (madeCells (Value.int .i64 0).cells (n * 1)).toList = cellsI (backL xs 0) := by
      rw [Nat.mul_one, backL, HX.out]
      exact (toList_madeCells_one _ _).trans (by simp [cellsI])
    have h9 : Own w0 w.heap.size (.slice (some ⟨w.heap.size, 0, none⟩) n n) (backL xs 0) := by
      unfold Own; rw [backL_length, HX.out, ← e]; exact hown0
    have h8 := h9.mono HB0.out.size
    unfold Own at h8
    rw [backL_length, HX.out] at h8
    exact h8
  have hge : w.heap.size ≤ w.heap.size := HB0.out.size
  clear hown0 hgrow0
  go_wp2
  go_loopw [11] (fun i wr => ∃ k : Nat, k ≤ n ∧ i = .int .i64 k ∧ Hid (wr.ownsRow w.heap.size 3 1 (.slice (some ⟨w.heap.size, 0, none⟩) n n) n (cellsI (backL xs k))) ∧ Hid (Below w.heap.size w wr)) (fun i _ => n - (intOf i).toNat)
  case atStart => exact ⟨0, Nat.zero_le _, rfl, HO, HB1⟩
  case round =>
    clear HO HB1
    obtain ⟨k, hk, rfl, hO, hB⟩ := hrel
    by_cases hlt : k < n
    · have hkl : k < xs.length := by rw [HX.out]; exact hlt
      obtain ⟨b, o, rfl, g1⟩ := (HR.out.later hB.out).get9 hkl
      have hin := HIN.out k hlt
      have hst := World.ownsRow.stored hO.out (xs.getD k 0).toNat (.int .i64 (k : Int))
      rw [cellsI_set] at hst
      have g2 : wr.cell? ⟨w.heap.size, (xs.getD k 0).toNat, none⟩ = some (.int .i64 ((backL xs k).getD (xs.getD k 0).toNat 0)) := by
        rw [World.ownsRow.cellAt hO.out (xs.getD k 0).toNat (by omega)]; exact getD_map_int _ _ (by rw [backL_length, HX.out]; omega)
      have g3 : wr.frozen? ⟨w.heap.size, (xs.getD k 0).toNat, none⟩ = false := World.ownsRow.frozenAt hO.out _
      have HS : Hid ((wr.setCell ⟨w.heap.size, (xs.getD k 0).toNat, none⟩ (.int .i64 (k : Int))).ownsRow w.heap.size 3 1 (.slice (some ⟨w.heap.size, 0, none⟩) n n) n (cellsI (backL xs (k + 1)))) := hst.1
      have HB' : Hid (Below w.heap.size w (wr.setCell ⟨w.heap.size, (xs.getD k 0).toNat, none⟩ (.int .i64 (k : Int)))) := hB.out.setCell (p := ⟨w.heap.size, (xs.getD k 0).toNat, none⟩) hge _
      clear hst hO hkl
      have hin0 : 0 ≤ xs.getD k 0 := hin.1
      have hin1 : xs.getD k 0 < (n : Int) := hin.2
      generalize (backL xs k).getD (xs.getD k 0).toNat 0 = old at g2
      generalize xs.getD k 0 = y at g1 g2 g3 hin0 hin1 HS HB'
      obtain ⟨q, rfl⟩ : ∃ q : Nat, y = (q : Int) := ⟨y.toNat, by omega⟩
      rw [Int.toNat_natCast] at g2 g3 HS HB'
      clear hin hB
      go_wp2
      go_roundw
      case rel => exact ⟨k + 1, by omega, by go_num, HS, HB'⟩
      case measure => simp [intOf]; omega
    · obtain rfl : k = n := by omega
      have HF : Hid (Own wr w.heap.size (.slice (some ⟨w.heap.size, 0, none⟩) k k) (backL xs k)) := by
        show Own _ _ _ _
        unfold Own
        rw [backL_length, HX.out]
        exact hO.out
      go_wp2
      go_ret
      exact ⟨_, _, rfl, HF.out, hB.out⟩

set_option maxHeartbeats 4000000 in
theorem implBack_at (ao : Option Addr) (n c : Nat) (xs : List Int) (w : World) (hx : xs.length = n) (hn : n ≤ 9) (hcx : n ≤ c ∧ c ≤ maxLen) (ho : ordB xs = true) (hr : Rd w ao xs) :
    Calls Try.prog 31 #[.slice ao n c] w fun e w' => ∃ a' c', e = .returned (.tuple #[.slice a' n c', .bool true]) ∧ Own w' w.heap.size (.slice a' n c') (backL xs n) ∧ Below w.heap.size w w' := by
  have q1 := isOrder_c ao n c xs w hx (by omega) hcx hr
  rw [ho] at q1
  obtain ⟨i0, hi, hz0, hz1, hz2⟩ := info_parts Try.infoInt
  have HX : Hid (xs.length = n) := hx
  have HR : Hid (Rd w ao xs) := hr
  have HIN : Hid (∀ k, k < n → 0 ≤ xs.getD k 0 ∧ xs.getD k 0 < (n : Int)) := fun k hk => by rw [← hx]; exact ord_in ho (by rw [hx]; exact hk)
  clear hx hr ho hcx
  go_enter Try.func31, Try.ntmps31
  go_wp2_with fail
  refine q1.mono ?_
  clear q1
  rintro e w1 ⟨rfl, hb1⟩
  have HB0 : Hid (Below w.heap.size w w1) := hb1
  clear hb1
  go_wp2_with (at_make; refine wpList_make_full _ rfl _ _ 23 rfl w1.heap.size 3 i0 (.int .i64 0) 1 Try.underlying23 hi hz0 hz1 _ _ _ _ n rfl rfl rfl rfl (by rw [hz2]; omega) (by unfold maxLen; omega) (Nat.le_refl _) ?_; intro w0 hown0 hgrow0)
  have HB1 : Hid (Below w.heap.size w w0) := HB0.out.grown hgrow0 HB0.out.size (fun k h => by cases h)
  have HO : Hid (w0.ownsRow w.heap.size 3 1 (.slice (some ⟨w1.heap.size, 0, none⟩) n n) n (cellsI (backL xs 0))) := by
    have e : (madeCells (Value.int .i64 0).cells (n * 1)).toList = cellsI (backL xs 0) := by
      rw [Nat.mul_one, backL, HX.out]
      exact (toList_madeCells_one _ _).trans (by simp [cellsI])
    have h9 : Own w0 w1.heap.size (.slice (some ⟨w1.heap.size, 0, none⟩) n n) (backL xs 0) := by
      unfold Own; rw [backL_length, HX.out, ← e]; exact hown0
    have h8 := h9.mono HB0.out.size
    unfold Own at h8
    rw [backL_length, HX.out] at h8
    exact h8
  have hge : w.heap.size ≤ w1.heap.size := HB0.out.size
  clear hown0 hgrow0
  generalize w1.heap.size = G at HO hge
  go_wp2
  go_loopw [15] (fun i wr => ∃ k : Nat, k ≤ n ∧ i = .int .i64 k ∧ Hid (wr.ownsRow w.heap.size 3 1 (.slice (some ⟨G, 0, none⟩) n n) n (cellsI (backL xs k))) ∧ Hid (Below w.heap.size w wr)) (fun i _ => n - (intOf i).toNat)
  case atStart => exact ⟨0, Nat.zero_le _, rfl, HO, HB1⟩
  case round =>
    clear HO HB1
    obtain ⟨k, hk, rfl, hO, hB⟩ := hrel
    by_cases hlt : k < n
    · have hkl : k < xs.length := by rw [HX.out]; exact hlt
      obtain ⟨b, o, rfl, g1⟩ := (HR.out.later hB.out).get9 hkl
      have hin := HIN.out k hlt
      have hst := World.ownsRow.stored hO.out (xs.getD k 0).toNat (.int .i64 (k : Int))
      rw [cellsI_set] at hst
      have g2 : wr.cell? ⟨G, (xs.getD k 0).toNat, none⟩ = some (.int .i64 ((backL xs k).getD (xs.getD k 0).toNat 0)) := by
        rw [World.ownsRow.cellAt hO.out (xs.getD k 0).toNat (by omega)]; exact getD_map_int _ _ (by rw [backL_length, HX.out]; omega)
      have g3 : wr.frozen? ⟨G, (xs.getD k 0).toNat, none⟩ = false := World.ownsRow.frozenAt hO.out _
      have HS : Hid ((wr.setCell ⟨G, (xs.getD k 0).toNat, none⟩ (.int .i64 (k : Int))).ownsRow w.heap.size 3 1 (.slice (some ⟨G, 0, none⟩) n n) n (cellsI (backL xs (k + 1)))) := hst.1
      have HB' : Hid (Below w.heap.size w (wr.setCell ⟨G, (xs.getD k 0).toNat, none⟩ (.int .i64 (k : Int)))) := hB.out.setCell (p := ⟨G, (xs.getD k 0).toNat, none⟩) hge _
      clear hst hO hkl
      have hin0 : 0 ≤ xs.getD k 0 := hin.1
      have hin1 : xs.getD k 0 < (n : Int) := hin.2
      generalize (backL xs k).getD (xs.getD k 0).toNat 0 = old at g2
      generalize xs.getD k 0 = y at g1 g2 g3 hin0 hin1 HS HB'
      obtain ⟨q, rfl⟩ : ∃ q : Nat, y = (q : Int) := ⟨y.toNat, by omega⟩
      rw [Int.toNat_natCast] at g2 g3 HS HB'
      clear hin hB
      go_wp2
      go_roundw
      case rel => exact ⟨k + 1, by omega, by go_num, HS, HB'⟩
      case measure => simp [intOf]; omega
    · obtain rfl : k = n := by omega
      have HF : Hid (Own wr w.heap.size (.slice (some ⟨G, 0, none⟩) k k) (backL xs k)) := by
        show Own _ _ _ _
        unfold Own
        rw [backL_length, HX.out]
        exact hO.out
      go_wp2
      refine bodyPost_ret (v := .tuple #[.slice (some ⟨G, 0, none⟩) k k, .bool true]) (by simp [results, Try.results31, go_sem]; try rfl) rfl ?_
      exact ⟨_, _, rfl, HF.out, hB.out⟩

set_option maxHeartbeats 2000000 in
theorem implBack_c (ao : Option Addr) (n c : Nat) (xs : List Int) (w : World) (hx : xs.length = n) (hn : n ≤ 17592186044416) (hcx : n ≤ c ∧ c ≤ maxLen) (hr : Rd w ao xs) (zs : List Int) (fb : Bool) (p : Nat) (hF : backF xs = (zs, fb)) (hp : zs.length = p) :
    Calls Try.prog 31 #[.slice ao n c] w fun e w' => ∃ a' c', e = .returned (.tuple #[.slice a' p c', .bool fb]) ∧ Own w' w.heap.size (.slice a' p c') zs ∧ Below w.heap.size w w' := by
  unfold backF at hF
  by_cases h : ordB xs = true
  · rw [if_pos h] at hF
    simp only [Prod.mk.injEq] at hF
    obtain ⟨rfl, rfl⟩ := hF
    have h9 : n ≤ 9 := by have := ord_len h; omega
    rw [backL_length, hx] at hp
    subst hp
    rw [hx]
    · exact implBack_at ao n c xs w hx h9 hcx h hr
  · rw [if_neg h] at hF
    simp only [Prod.mk.injEq] at hF
    obtain ⟨rfl, rfl⟩ := hF
    simp at hp
    subst hp
    have q1 := isOrder_c ao n c xs w hx hn hcx hr
    rw [Bool.eq_false_iff.2 h] at q1
    clear h
    go_enter Try.func31, Try.ntmps31
    go_wp2_with fail
    refine q1.mono ?_
    rintro e w1 ⟨rfl, hb⟩
    have HB : Hid (Below w.heap.size w w1) := hb
    clear hb q1
    go_wp2
    refine bodyPost_ret (v := .tuple #[.slice none 0 0, .bool false]) (by simp [results, Try.results31, go_sem]; try rfl) rfl ?_
    exact ⟨none, 0, rfl, World.ownsRow_nil _ _ _ _, HB.out⟩

set_option maxHeartbeats 2000000 in
theorem specBack_c (ao : Option Addr) (n c : Nat) (xs : List Int) (w : World) (hx : xs.length = n) (hn : n ≤ 17592186044416) (hcx : n ≤ c ∧ c ≤ maxLen) (hr : Rd w ao xs) (zs : List Int) (fb : Bool) (p : Nat) (hF : backF xs = (zs, fb)) (hp : zs.length = p) :
    Calls Try.prog 41 #[.slice ao n c] w fun e w' => ∃ a' c', e = .returned (.tuple #[.slice a' p c', .bool fb]) ∧ Own w' w.heap.size (.slice a' p c') zs ∧ Below w.heap.size w w' := by
  unfold backF at hF
  by_cases h : ordB xs = true
  · rw [if_pos h] at hF
    simp only [Prod.mk.injEq] at hF
    obtain ⟨rfl, rfl⟩ := hF
    have h9 : n ≤ 9 := by have := ord_len h; omega
    rw [backL_length, hx] at hp
    subst hp
    rw [hx]
    · have q1 := l4Order_c ao n c xs w hx hn hcx hr
      rw [h] at q1
      have q3 := l9Back_c ao n c xs w hx h9 h hr
      clear hx hr h
      go_enter Try.func41, Try.ntmps41
      go_wp2_with fail
      refine q1.mono ?_
      clear q1
      rintro e w' ⟨rfl, hw⟩
      subst w'
      go_wp2_with fail
      refine q3.mono ?_
      clear q3
      rintro e w1 ⟨a', c', rfl, ho, hb⟩
      have HO : Hid (Own w1 w.heap.size (.slice a' n c') (backL xs n)) := ho
      have HB : Hid (Below w.heap.size w w1) := hb
      clear ho hb
      go_wp2
      refine bodyPost_ret (v := .tuple #[.slice a' n c', .bool true]) (by simp [results, Try.results41, go_sem]; try rfl) rfl ?_
      exact ⟨a', c', rfl, HO.out, HB.out⟩
  · rw [if_neg h] at hF
    simp only [Prod.mk.injEq] at hF
    obtain ⟨rfl, rfl⟩ := hF
    simp at hp
    subst hp
    have q1 := l4Order_c ao n c xs w hx hn hcx hr
    rw [Bool.eq_false_iff.2 h] at q1
    clear h
    go_enter Try.func41, Try.ntmps41
    go_wp2_with fail
    refine q1.mono ?_
    clear q1
    rintro e w' ⟨rfl, hw⟩
    subst w'
    go_wp2
    refine bodyPost_ret (v := .tuple #[.slice none 0 0, .bool false]) (by simp [results, Try.results41, go_sem]; try rfl) rfl ?_
    exact ⟨none, 0, rfl, World.ownsRow_nil _ _ _ _, Below.refl _ _⟩

end Go.Proofs.Ytlepejafednlfaa
