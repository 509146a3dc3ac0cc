/- What chapter 8 draws for FnMixes: rounds with a least and a wait, texts to be sorted, rounds with a number. -/
import Derived.Test.YtelchkoplncmaaaD8
namespace Go.Proofs.Ytelchkoplncmaaa
set_option linter.unusedVariables false
set_option maxRecDepth 1000000
set_option linter.unusedSimpArgs false
open Go.RowKit

theorem made_texts (q : Nat) : (madeCells (Value.string ByteArray.empty).cells (q * 1)).toList = cellsS (List.replicate q ByteArray.empty) := by
  have h : (madeCells (Value.string ByteArray.empty).cells q).toList = List.replicate q (Value.string ByteArray.empty) := toList_madeCells_one _ _
  rw [Nat.mul_one, h]
  simp [cellsS]

set_option maxHeartbeats 2000000 in
theorem drawPlay_c (ao : Option Addr) (n c : Nat) (w : World) (hn : n ≤ 9223372036854775807) (h : CodeOk w w.heap.size ao n) :
    Calls Try.prog 13 #[.slice ao n c] w fun e w' => ∃ (x y : Int) (a : Option Addr) (q cc : Nat) (xss : List (List ByteArray)), e = .returned (.tuple #[.int .i64 x, .int .i64 y, .slice a q cc]) ∧ xss.length = q ∧ q ≤ 21 ∧ (∀ l ∈ xss, l.length ≤ 4 ∧ ∀ s ∈ l, IsLet s) ∧ OwnSS w' w.heap.size (.slice a q cc) xss ∧ Below w.heap.size w w' := by
  have C0 : Hid (Cur (w.alloc (.cells #[.slice ao n c, .int .i64 0, .int .u64 0] 75)) w.heap.size ao n c 0) := cur_new _ hn h
  have B0 : Hid (Below w.heap.size w (w.alloc (.cells #[.slice ao n c, .int .i64 0, .int .u64 0] 75))) := balloc _ _
  clear h
  go_enter Try.func13, Try.ntmps13
  go_wp2_with fail
  refine (pick_c w.heap.size ao n c 0 6 _ (by omega) (by omega) C0.out).mono ?_
  rintro e w1 ⟨x, rfl, hx0, hx1, hc1, hg1⟩
  have C1 : Hid (Cur w1 w.heap.size ao n c 2) := hc1
  have B1 : Hid (Below w.heap.size w w1) := B0.out.trans (hg1.below (B0.out.size) (Nat.le_refl _))
  clear hc1 hg1 C0 B0
  go_wp2_with fail
  refine (pick_c w.heap.size ao n c 2 5 _ (by omega) (by omega) C1.out).mono ?_
  rintro e w2 ⟨y, rfl, hy0, hy1, hc1, hg1⟩
  have C2 : Hid (Cur w2 w.heap.size ao n c 4) := hc1
  have B2 : Hid (Below w.heap.size w w2) := B1.out.trans (hg1.below (B1.out.size) (Nat.le_refl _))
  clear hc1 hg1 C1 B1
  go_wp2_with fail
  refine (rounds_c w.heap.size ao n c 4 _ (by omega) C2.out).mono ?_
  rintro e w3 ⟨a, q, cc, xss, rfl, hq, hq21, hl, ho, hc1, hg1⟩
  have HO : Hid (OwnSS w3 w.heap.size (.slice a q cc) xss) := ho.mono B2.out.size
  have HL : Hid (∀ l ∈ xss, l.length ≤ 4 ∧ ∀ s ∈ l, IsLet s) := hl
  have HQ : Hid (xss.length = q) := hq
  have B3 : Hid (Below w.heap.size w w3) := B2.out.trans (hg1.below (B2.out.size) (Nat.le_refl _))
  clear hc1 hg1 C2 B2 ho hl hq
  go_wp2
  refine bodyPost_ret (v := .tuple #[.int .i64 (1 + x), .int .i64 (1 + y), .slice a q cc]) (by simp [results, Try.results13, go_sem]; try rfl) rfl ?_
  exact ⟨_, _, a, q, cc, xss, rfl, HQ.out, hq21, HL.out, HO.out, B3.out⟩

set_option maxHeartbeats 2000000 in
theorem drawSize_c (ao : Option Addr) (n c : Nat) (w : World) (hn : n ≤ 9223372036854775807) (h : CodeOk w w.heap.size ao n) :
    Calls Try.prog 21 #[.slice ao n c] w fun e w' => ∃ (y : Int) (a : Option Addr) (q cc : Nat) (xss : List (List ByteArray)), e = .returned (.tuple #[.slice a q cc, .int .i64 y]) ∧ xss.length = q ∧ q ≤ 21 ∧ (∀ l ∈ xss, l.length ≤ 4 ∧ ∀ s ∈ l, IsLet s) ∧ OwnSS w' w.heap.size (.slice a q cc) xss ∧ Below w.heap.size w w' := by
  have C0 : Hid (Cur (w.alloc (.cells #[.slice ao n c, .int .i64 0, .int .u64 0] 75)) w.heap.size ao n c 0) := cur_new _ hn h
  have B0 : Hid (Below w.heap.size w (w.alloc (.cells #[.slice ao n c, .int .i64 0, .int .u64 0] 75))) := balloc _ _
  clear h
  go_enter Try.func21, Try.ntmps21
  go_wp2_with fail
  refine (rounds_c w.heap.size ao n c 0 _ (by omega) C0.out).mono ?_
  rintro e w3 ⟨a, q, cc, xss, rfl, hq, hq21, hl, ho, hc1, hg1⟩
  have HO : Hid (OwnSS w3 (w.heap.size + 1) (.slice a q cc) xss) := by show OwnSS _ _ _ _; simpa using ho
  have HL : Hid (∀ l ∈ xss, l.length ≤ 4 ∧ ∀ s ∈ l, IsLet s) := hl
  have HQ : Hid (xss.length = q) := hq
  have C3 : Hid (Cur w3 w.heap.size ao n c 1000) := hc1
  have B3 : Hid (Below w.heap.size w w3) := B0.out.trans (hg1.below (B0.out.size) (Nat.le_refl _))
  clear hc1 hg1 C0 B0 ho hl hq
  have hqk : (1 : Int) ≤ (q : Int) + 2 ∧ (q : Int) + 2 ≤ 1000000 := by omega
  go_wp2_with fail
  refine (pick_c w.heap.size ao n c 1000 (q + 2) _ (by omega) hqk C3.out).mono ?_
  rintro e w4 ⟨y, rfl, hy0, hy1, hc1, hg1⟩
  have HO4 : Hid (OwnSS w4 w.heap.size (.slice a q cc) xss) := (HO.out.keptG hg1 (by omega)).mono (by omega)
  have B4 : Hid (Below w.heap.size w w4) := B3.out.trans (hg1.below (B3.out.size) (Nat.le_refl _))
  clear hc1 hg1 C3 B3 HO
  go_wp2
  refine bodyPost_ret (v := .tuple #[.slice a q cc, .int .i64 (y - 1)]) (by simp [results, Try.results21, go_sem]; try rfl) rfl ?_
  exact ⟨_, a, q, cc, xss, rfl, HQ.out, hq21, HL.out, HO4.out, B4.out⟩

set_option maxHeartbeats 2000000 in
theorem drawSort_c (ao : Option Addr) (n c : Nat) (w : World) (hn : n ≤ 9223372036854775807) (h : CodeOk w w.heap.size ao n) :
    Calls Try.prog 18 #[.slice ao n c] w fun e w' => ∃ (a : Option Addr) (q cc : Nat) (xs : List ByteArray), e = .returned (.slice a q cc) ∧ xs.length = q ∧ q ≤ 13 ∧ (∀ s ∈ xs, s.size ≤ 25) ∧ OwnS w' w.heap.size (.slice a q cc) xs ∧ Below w.heap.size w w' := by
  obtain ⟨i0, hi, hz0, hz1, hz2⟩ := info_parts Try.infoStr
  have C0 : Hid (Cur (w.alloc (.cells #[.slice ao n c, .int .i64 0, .int .u64 0] 75)) w.heap.size ao n c 0) := cur_new _ hn h
  have B0 : Hid (Below w.heap.size w (w.alloc (.cells #[.slice ao n c, .int .i64 0, .int .u64 0] 75))) := balloc _ _
  clear h
  go_enter Try.func18, Try.ntmps18
  go_wp2_with fail
  refine (one_c w.heap.size ao n c 0 20 _ (by omega) (by omega) C0.out).mono ?_
  rintro e w1 ⟨b, rfl, hc1, hg1⟩
  have C1 : Hid (Cur w1 w.heap.size ao n c 2) := hc1
  have B1 : Hid (Below w.heap.size w w1) := B0.out.trans (hg1.below (B0.out.size) (Nat.le_refl _))
  clear hc1 hg1 C0 B0
  cases b with
  | false =>
    go_wp2_with fail
    refine (letters_c w.heap.size ao n c 7 2 _ (by omega) (by omega) C1.out).mono ?_
    rintro e w3 ⟨a, q, cc, xs, rfl, hq, hq21, hl, ho, hc1, hg1⟩
    have HO : Hid (OwnS w3 w.heap.size (.slice a q cc) xs) := ho.mono B1.out.size
    have HL : Hid (∀ s ∈ xs, s.size ≤ 25) := fun s hs => (hl s hs).size
    have HQ : Hid (xs.length = q) := hq
    have B3 : Hid (Below w.heap.size w w3) := B1.out.trans (hg1.below (B1.out.size) (Nat.le_refl _))
    clear hc1 hg1 C1 B1 ho hl hq
    go_wp2
    go_ret
    exact ⟨a, q, cc, xs, rfl, HQ.out, by omega, HL.out, HO.out, B3.out⟩
  | true =>
    go_wp2_with fail
    refine (pick_c w.heap.size ao n c 2 2 _ (by omega) (by omega) C1.out).mono ?_
    rintro e w3 ⟨y, rfl, hy0, hy1, hc1, hg1⟩
    have B3 : Hid (Below w.heap.size w w3) := B1.out.trans (hg1.below (B1.out.size) (Nat.le_refl _))
    have hz3 : w.heap.size ≤ w3.heap.size := B3.out.size
    clear hc1 hg1 C1 B1
    rcases (show y = 0 ∨ y = 1 by omega) with rfl | rfl
    · go_wp2_with (at_make; refine wpList_make_full _ rfl _ _ 29 rfl w.heap.size 9 i0 (.string ByteArray.empty) 1 Try.underlying29 hi hz0 hz1 _ _ _ _ 12 rfl rfl rfl rfl (by rw [hz2]; omega) (by unfold maxLen; omega) hz3 ?_; intro w0 hown0 hgrow0)
      have HB0 : Hid (Below w.heap.size w w0) := B3.out.grown hgrow0 B3.out.size (fun k h => by cases h)
      have HO0 : Hid (OwnS w0 w.heap.size (.slice (some ⟨w3.heap.size, 0, none⟩) 12 12) (List.replicate 12 ByteArray.empty)) := by
        show OwnS _ _ _ _
        unfold OwnS
        rw [List.length_replicate, ← made_texts]
        exact hown0
      clear hown0 hgrow0 B3
      go_ret
      exact ⟨_, 12, 12, List.replicate 12 ByteArray.empty, rfl, by simp, by omega, fun s hs => by rw [(List.mem_replicate.1 hs).2]; decide, HO0.out, HB0.out⟩
    · go_wp2_with (at_make; refine wpList_make_full _ rfl _ _ 29 rfl w.heap.size 9 i0 (.string ByteArray.empty) 1 Try.underlying29 hi hz0 hz1 _ _ _ _ 13 rfl rfl rfl rfl (by rw [hz2]; omega) (by unfold maxLen; omega) hz3 ?_; intro w0 hown0 hgrow0)
      have HB0 : Hid (Below w.heap.size w w0) := B3.out.grown hgrow0 B3.out.size (fun k h => by cases h)
      have HO0 : Hid (OwnS w0 w.heap.size (.slice (some ⟨w3.heap.size, 0, none⟩) 13 13) (List.replicate 13 ByteArray.empty)) := by
        show OwnS _ _ _ _
        unfold OwnS
        rw [List.length_replicate, ← made_texts]
        exact hown0
      clear hown0 hgrow0 B3
      go_ret
      exact ⟨_, 13, 13, List.replicate 13 ByteArray.empty, rfl, by simp, by omega, fun s hs => by rw [(List.mem_replicate.1 hs).2]; decide, HO0.out, HB0.out⟩

end Go.Proofs.Ytelchkoplncmaaa
