/- What chapter 3 draws: bits and taps, of which nothing is said but their bounds. -/
import Derived.Test.YtjdfpjeeipbghaaD3
import Derived.Test.YtjdfpjeeipbghaaMU3
namespace Go.Proofs.Ytjdfpjeeipbghaa
set_option linter.unusedVariables false
set_option linter.unusedSimpArgs false
open Go.RowKit

/-- The code lies below B. -/
def Old (ao : Option Addr) (n B : Nat) : Prop := n = 0 ∨ ∃ b off, ao = some ⟨b, off, none⟩ ∧ b < B

theorem CodeOk.old {w : World} {g : Nat} {ao : Option Addr} {n : Nat} (h : CodeOk w g ao n) : Old ao n w.heap.size := by
  rcases h with h | ⟨b, off, rfl, hne, f, hf⟩
  · exact Or.inl h
  · by_cases hn : n = 0
    · exact Or.inl hn
    · exact Or.inr ⟨b, off, rfl, World.block_lt_of_cell? _ _ (hf 0 (by omega)).1⟩

theorem Cur.grown {w w' : World} {g : Nat} {ao : Option Addr} {n c B : Nat} {M : Int} {row : Option Nat} (h : Cur w g ao n c M) (hg : w.grownBy w' row) (hr : ∀ k, row = some k → B ≤ k) (hgB : g < B) (ho : Old ao n B) : Cur w' g ao n c M := by
  have hne : ∀ b, b < B → some b ≠ row := fun b hb e => by have := hr b e.symm; omega
  have hlt := h.lt
  refine ⟨h.hn, ?_, hg.cell (a := ⟨g, 0, none⟩) h.slice (hne g hgB), ?_, ?_, fun j => ?_⟩
  · rcases h.code with h1 | ⟨b, off, rfl, hne', f, hf⟩
    · exact Or.inl h1
    · rcases ho with h0 | ⟨b', off', e, hb⟩
      · exact Or.inl h0
      · simp only [Option.some.injEq, Addr.mk.injEq, and_true] at e
        obtain ⟨rfl, rfl⟩ := e
        exact Or.inr ⟨b, off, rfl, hne', f, fun j hj => ⟨hg.cell (a := ⟨b, off + j, none⟩) (hf j hj).1 (hne b hb), (hf j hj).2⟩⟩
  · obtain ⟨z, h0, h1, h2⟩ := h.at'
    exact ⟨z, h0, h1, hg.cell (a := ⟨g, 1, none⟩) h2 (hne g hgB)⟩
  · obtain ⟨z, h2⟩ := h.seed
    exact ⟨z, hg.cell (a := ⟨g, 2, none⟩) h2 (hne g hgB)⟩
  · rw [World.frozen?_of_block (w := w) (hg.block g hlt (hne g hgB))]
    exact h.free j

theorem GB.grown {g : Nat} {w w1 w2 : World} {row : Option Nat} (h : GB g w w1) (hg : w1.grownBy w2 row) (hr : ∀ k, row = some k → w.heap.size ≤ k) : GB g w w2 :=
  ⟨hg.os.trans h.os, hg.tape.trans h.tape, hg.output.trans h.output, Nat.le_trans h.size hg.size, fun q hq hne => (hg.block q (Nat.lt_of_lt_of_le hq h.size) (fun e => by have := hr q e.symm; omega)).trans (h.block q hq hne)⟩

set_option maxHeartbeats 2000000 in
theorem bits_c (g : Nat) (ao : Option Addr) (n c many : Nat) (M : Int) (w : World) (hM : M ≤ 1000000) (hm : many ≤ 100) (h : Cur w g ao n c M) :
    Calls Try.prog 52 #[.pointer (some ⟨g, 0, none⟩), .int .i64 many] w fun e w' => ∃ a' c' zs, e = .returned (.slice a' many c') ∧ zs.length = many ∧ OwnB w' w.heap.size (.slice a' many c') zs ∧ Cur w' g ao n c (M + 200) ∧ GB g w w' := by
  obtain ⟨i0, hi, hz0, hz1, hz2⟩ := info_parts Try.infoBool
  have HC : Hid (Cur w g ao n c M) := h
  have HOld : Hid (Old ao n w.heap.size) := h.code.old
  have hgl : g < w.heap.size := h.lt
  clear h
  go_enter Try.func52, Try.ntmps52
  go_wp2
  go_loopw [5, 6] (fun v i wr => ∃ (k : Nat) (zs : List Bool), k ≤ many ∧ i = .int .i64 k ∧ Hid (zs.length = k) ∧ Hid (OwnB wr w.heap.size v zs) ∧ Hid (Cur wr g ao n c (M + 2 * k)) ∧ Hid (GB g w wr)) (fun _ i _ => many - (intOf i).toNat)
  case atStart => exact ⟨0, [], Nat.zero_le _, rfl, rfl, World.ownsRow_nil _ _ _ _, HC.out.mono (by omega), GB.refl _ _⟩
  case round =>
    clear HC
    obtain ⟨k, zs, hk, rfl, hL, hO, hC, hG⟩ := hrel
    by_cases hlt : k < many
    · have k1 : (k : Int) < (many : Int) := by omega
      go_wp2_with (first | (go_at_call 51; refine (one_c g ao n c (M + 2 * k) 2 _ (by omega) (by omega) hC.out).mono ?_; rintro e w1 ⟨x, rfl, hc1, hg1⟩; have HC1 : Hid (Cur w1 g ao n c (M + 2 * k + 2)) := hc1; have HG1 : Hid (GB g w w1) := hG.out.trans hg1; have HO1 : Hid (OwnB w1 w.heap.size u5 zs) := hO.out.kept hg1 (by rcases hb : u5.ownBlock with _ | b; exact Or.inl rfl; exact Or.inr (fun e => by have := own_block_geB hO.out b hb; simp at e; omega)); have hown : w1.ownsRow w.heap.size 4 1 u5 k (cellsB zs) := (by have h := HO1.out; unfold OwnB at h; rw [hL.out] at h; exact h); have hob : ∀ k', u5.ownBlock = some k' → w.heap.size ≤ k' := own_block_geB HO1.out; have hws : w.heap.size ≤ w1.heap.size := HG1.out.size; clear hc1 hg1 hC hG hO) | (at_builtin; refine wpList_append_own _ rfl _ _ 23 rfl w.heap.size 4 i0 (.bool false) 1 1 Try.underlying23 hi hz0 hz1 hz2 rfl (by decide) _ _ _ rfl (hown.alloc _) ⟨w1.heap.size, 0, none⟩ 1 1 [.bool x] rfl rfl (cell_new1 _ _ _) (bools_oneCell [x]) (by unfold maxLen; omega) (by omega) (by simp; omega) ?_; intro v' w2 hown' hgrow _; have HO2 : Hid (OwnB w2 w.heap.size v' (zs ++ [x])) := own_pushB (w := w1) (v := u5) (by simpa [hL.out] using hown'); have HC2 : Hid (Cur w2 g ao n c (M + 2 * k + 2)) := (HC1.out.alloc _).grown hgrow hob hgl HOld.out; have HG2 : Hid (GB g w w2) := (HG1.out.alloc _).grown hgrow hob; clear hown' hgrow hown hob HC1 HG1 HO1))
      go_roundw
      case rel => exact ⟨k + 1, zs ++ [x], by omega, by go_num, by show (zs ++ [x]).length = _; rw [List.length_append, hL.out]; rfl, HO2, HC2.out.mono (by push_cast; omega), HG2⟩
      case measure => simp [intOf]; omega
    · obtain rfl : k = many := by omega
      obtain ⟨a', c', hv⟩ := hO.out.shape
      rw [hL.out] at hv
      subst hv
      go_wp2
      go_ret
      exact ⟨a', c', zs, rfl, hL.out, hO.out, hC.out.mono (by omega), hG.out⟩

set_option maxHeartbeats 2000000 in
theorem l1Put_old (g n cap base : Nat) (t : Int) (xs : List Int) (w : World) (hx : xs.length = n) (hn : n ≤ 1000) (ho : Own w base (.slice (some ⟨g, 0, none⟩) n cap) xs) (hs : Srt xs) (hold : t ∈ xs) :
    Calls Try.prog 72 #[.slice (some ⟨g, 0, none⟩) n cap, .int .i64 t] w fun e w' => e = .returned (.slice (some ⟨g, 0, none⟩) n cap) ∧ w' = w := by
  have HX : Hid (xs.length = n) := hx
  have HC : Hid (∀ j, j < n → w.cell? ⟨g, j, none⟩ = some (.int .i64 (xs.getD j 0))) := fun j hj => Own.cell (g := g) (cap := cap) (xs := xs) (by rw [hx]; exact ho) j (by omega)
  obtain ⟨i, hi, hit⟩ := Int_mem_getD hold
  have HLT : Hid (∀ j, j < i → xs.getD j 0 < t) := fun j hj => by
    rw [← hit]
    have := (List.pairwise_iff_getElem.1 hs) j i (by omega) hi hj
    simpa [List.getD, show j < xs.length by omega, hi] using this
  have hin : i < n := by omega
  clear hx ho hs hold
  go_enter Try.func72, Try.ntmps72
  go_wp2
  go_loop [5] (fun iv => ∃ j : Nat, j ≤ i ∧ iv = .int .i64 j) (fun iv => n - (intOf iv).toNat)
  case atStart => exact ⟨0, Nat.zero_le _, rfl⟩
  case round =>
    obtain ⟨j, hj, rfl⟩ := hrel
    have j0 : (0 : Int) ≤ (j : Int) := by omega
    have j1 : (j : Int) < (n : Int) := by omega
    have g1 := HC.out j (by omega)
    by_cases hlt : j < i
    · have hx1 := HLT.out j hlt
      generalize xs.getD j 0 = y at g1 hx1
      go_wp2
      go_round
      case rel => exact ⟨j + 1, by omega, by go_num⟩
      case measure => simp [intOf]; omega
    · obtain rfl : j = i := by omega
      rw [hit] at g1
      have hx1 : ¬ t < t := by omega
      clear hit
      go_wp2
      go_ret
      exact ⟨rfl, rfl⟩

/-- l1Put, whatever is put in: a rising list, not longer by more than one. -/
theorem l1Put_c (ao : Option Addr) (n c base : Nat) (t : Int) (xs : List Int) (w : World) (hb : base ≤ w.heap.size) (hn : n ≤ 1000) (ho : Own w base (.slice ao n c) xs) (hs : Srt xs) (P : Int → Prop) (hP : ∀ u ∈ xs, P u) (hPt : P t) :
    Calls Try.prog 72 #[.slice ao n c, .int .i64 t] w fun e w' => ∃ a' n' c' ys, e = .returned (.slice a' n' c') ∧ n' ≤ n + 1 ∧ Own w' base (.slice a' n' c') ys ∧ Srt ys ∧ (∀ u ∈ ys, P u) ∧ Below w.heap.size w w' := by
  have hx := ho.rd'.1
  by_cases ht : t ∈ xs
  · rcases ho.form with ⟨h, h0⟩ | ⟨g, cap, h, _⟩
    · rw [h0] at ht; cases ht
    · simp only [Value.slice.injEq] at h
      obtain ⟨rfl, _, _⟩ := h
      refine (l1Put_old g n c base t xs w hx hn ho hs ht).mono ?_
      rintro e w' ⟨rfl, hw⟩
      subst w'
      exact ⟨_, n, c, xs, rfl, by omega, ho, hs, hP, Below.refl _ _⟩
  · have hsr := turn_srt (t := t) hs
    have hmem : ∀ u ∈ turnL xs t, P u := fun u hu => by
      rw [turn_mem] at hu
      by_cases h1 : u ∈ xs
      · exact hP u h1
      · by_cases h2 : u = t
        · subst h2; exact hPt
        · exact absurd ⟨fun h => absurd h h1, fun h => absurd h h2⟩ hu
    have e : turnL xs t = putAt xs (lowT xs t) t := by unfold turnL; rw [if_neg ht]
    rw [e] at hsr hmem
    rcases ho.form with ⟨h, h0⟩ | ⟨g, cap, h, _⟩
    · simp only [Value.slice.injEq] at h
      obtain ⟨rfl, rfl, rfl⟩ := h
      subst h0
      refine (l1Put_none t w).mono ?_
      rintro e w' ⟨a', c', rfl, ho', hb'⟩
      exact ⟨a', 1, c', [t], rfl, by omega, ho'.mono hb, List.pairwise_singleton _ _, fun u hu => by simp at hu; subst hu; exact hPt, hb'⟩
    · simp only [Value.slice.injEq] at h
      obtain ⟨rfl, _, _⟩ := h
      refine (l1Put_some g n c base t xs w hx hn ho ht).mono ?_
      rintro e w' ⟨a', c', rfl, ho', hb'⟩
      exact ⟨a', n + 1, c', _, rfl, by omega, ho'.mono hb, hsr, hmem, hb'⟩

end Go.Proofs.Ytjdfpjeeipbghaa
