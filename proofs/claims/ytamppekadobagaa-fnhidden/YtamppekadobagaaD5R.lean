/- A row of parts of the call's own, from some part on, that may be written. -/
import Derived.Test.YtamppekadobagaaD5
namespace Go.Proofs.Ytamppekadobagaa
set_option linter.unusedVariables false
set_option linter.unusedSimpArgs false
open Go.RowKit

def RowP (w : World) (base : Nat) (ao : Option Addr) (q c : Nat) (l : List (Int × Int)) : Prop :=
  l.length = q ∧ q ≤ c ∧ c ≤ 9223372036854775807 ∧ ((q = 0 ∧ (ao = none → c = 0)) ∨ ∃ g off, ao = some ⟨g, off, none⟩ ∧ base ≤ g ∧ g < w.heap.size ∧
    ∀ j, j < q → (w.cell? ⟨g, off + j * 2, none⟩ = some (.int .i64 (l.getD j (0, 0)).1) ∧ w.cell? ⟨g, off + j * 2 + 1, none⟩ = some (.int .i64 (l.getD j (0, 0)).2)) ∧ w.frozen? ⟨g, off + j * 2, none⟩ = false ∧ w.frozen? ⟨g, off + j * 2 + 1, none⟩ = false)
theorem OwnP.row {w : World} {base n c : Nat} {ao : Option Addr} {l : List (Int × Int)} (h : OwnP w base (.slice ao n c) l) : RowP w base ao n c l := by
  refine ⟨h.rd'.1, ?_⟩
  rcases h.form with ⟨h1, h2⟩ | ⟨g, cap, h1, hb, hg, hc, hm⟩
  · simp only [Value.slice.injEq] at h1
    obtain ⟨rfl, rfl, rfl⟩ := h1
    exact ⟨Nat.le_refl _, by omega, Or.inl ⟨rfl, fun _ => rfl⟩⟩
  · simp only [Value.slice.injEq] at h1
    obtain ⟨rfl, rfl, rfl⟩ := h1
    unfold maxLen at hm
    refine ⟨hc, hm, Or.inr ⟨g, 0, rfl, hb, hg, fun j hj => ?_⟩⟩
    have := h.cell j hj
    rw [Nat.zero_add]
    exact ⟨this, World.ownsRow.frozenAt h _, World.ownsRow.frozenAt h _⟩
theorem RowP.later {w w' : World} {base q c : Nat} {ao : Option Addr} {l : List (Int × Int)} (h : RowP w base ao q c l) (hb : Below w.heap.size w w') : RowP w' base ao q c l := by
  refine ⟨h.1, h.2.1, h.2.2.1, ?_⟩
  rcases h.2.2.2 with h0 | ⟨g, off, e, h1, h2, h3⟩
  · exact Or.inl h0
  · refine Or.inr ⟨g, off, e, h1, Nat.lt_of_lt_of_le h2 hb.size, fun j hj => ?_⟩
    obtain ⟨⟨c1, c2⟩, c3, c4⟩ := h3 j hj
    exact ⟨⟨(hb.cell (p := ⟨g, off + j * 2, none⟩) h2).trans c1, (hb.cell (p := ⟨g, off + j * 2 + 1, none⟩) h2).trans c2⟩, (hb.frozen (p := ⟨g, off + j * 2, none⟩) h2).trans c3, (hb.frozen (p := ⟨g, off + j * 2 + 1, none⟩) h2).trans c4⟩
theorem RowP.kept {w w' : World} {base q c : Nat} {ao : Option Addr} {l : List (Int × Int)} {r : Nat} (h : RowP w base ao q c l) (hg : w.grownBy w' (some r)) (hr : r < base) : RowP w' base ao q c l := by
  refine ⟨h.1, h.2.1, h.2.2.1, ?_⟩
  rcases h.2.2.2 with h0 | ⟨g, off, e, h1, h2, h3⟩
  · exact Or.inl h0
  · refine Or.inr ⟨g, off, e, h1, Nat.lt_of_lt_of_le h2 hg.size, fun j hj => ?_⟩
    have hblk := hg.block g h2 (by simp; omega)
    obtain ⟨⟨c1, c2⟩, c3, c4⟩ := h3 j hj
    exact ⟨⟨(World.cell?_of_block (a := ⟨g, off + j * 2, none⟩) hblk).trans c1, (World.cell?_of_block (a := ⟨g, off + j * 2 + 1, none⟩) hblk).trans c2⟩, (World.frozen?_of_block (a := ⟨g, off + j * 2, none⟩) hblk).trans c3, (World.frozen?_of_block (a := ⟨g, off + j * 2 + 1, none⟩) hblk).trans c4⟩
theorem RowP.rd {w : World} {base q c : Nat} {ao : Option Addr} {l : List (Int × Int)} (h : RowP w base ao q c l) : RdP w ao l := by
  rcases h.2.2.2 with h0 | ⟨g, off, e, h1, h2, h3⟩
  · exact Or.inl (List.length_eq_zero_iff.1 (h.1.trans h0.1))
  · exact Or.inr ⟨g, off, e, fun j hj => (h3 j (by rw [h.1] at hj; exact hj)).1⟩
theorem RowP.at {w : World} {base q c : Nat} {ao : Option Addr} {l : List (Int × Int)} (h : RowP w base ao q c l) (hq : q ≠ 0) : ∃ g off, ao = some ⟨g, off, none⟩ ∧ base ≤ g ∧ g < w.heap.size ∧ ∀ j, j < q → (w.cell? ⟨g, off + j * 2, none⟩ = some (.int .i64 (l.getD j (0, 0)).1) ∧ w.cell? ⟨g, off + j * 2 + 1, none⟩ = some (.int .i64 (l.getD j (0, 0)).2)) ∧ w.frozen? ⟨g, off + j * 2, none⟩ = false ∧ w.frozen? ⟨g, off + j * 2 + 1, none⟩ = false := by
  rcases h.2.2.2 with h0 | h0
  · exact absurd h0.1 hq
  · exact h0
theorem RowP.set {w : World} {base g off q c : Nat} {l : List (Int × Int)} (h : RowP w base (some ⟨g, off, none⟩) q c l) (i : Nat) (hi : i < q) (x y : Int) : RowP ((w.setCell ⟨g, off + i * 2, none⟩ (.int .i64 x)).setCell ⟨g, off + i * 2 + 1, none⟩ (.int .i64 y)) base (some ⟨g, off, none⟩) q c (l.set i (x, y)) := by
  refine ⟨by rw [List.length_set]; exact h.1, h.2.1, h.2.2.1, Or.inr ?_⟩
  obtain ⟨g', off', e, h1, h2, h3⟩ := h.at (by omega)
  cases e
  refine ⟨g, off, rfl, h1, by simpa using h2, fun j hj => ?_⟩
  obtain ⟨⟨c1, c2⟩, c3, c4⟩ := h3 j hj
  have hl : j < l.length := by rw [h.1]; exact hj
  refine ⟨?_, by simpa using c3, by simpa using c4⟩
  by_cases e : j = i
  · subst e
    have e1 : (l.set j (x, y)).getD j (0, 0) = (x, y) := by simp [List.getD, hl]
    rw [e1]
    refine ⟨?_, ?_⟩
    · rw [World.cell?_setCell_other _ _ _ _ (by simp)]; exact World.cell?_setCell_same _ _ _ c1
    · exact World.cell?_setCell_same _ _ _ (by rw [World.cell?_setCell_other _ _ _ _ (by simp)]; exact c2)
  · have e1 : (l.set i (x, y)).getD j (0, 0) = l.getD j (0, 0) := by simp [List.getD, List.getElem?_set, show i ≠ j by omega]
    rw [e1]
    refine ⟨?_, ?_⟩
    · rw [World.cell?_setCell_other _ _ _ _ (by simp <;> omega), World.cell?_setCell_other _ _ _ _ (by simp <;> omega)]; exact c1
    · rw [World.cell?_setCell_other _ _ _ _ (by simp <;> omega), World.cell?_setCell_other _ _ _ _ (by simp <;> omega)]; exact c2
theorem RowP.tail {w : World} {base g off q c : Nat} {l : List (Int × Int)} (h : RowP w base (some ⟨g, off, none⟩) (q + 1) c l) : ∃ A, (if c = 1 then (some ⟨g, off, none⟩ : Option Addr) else some ⟨g, off + 2, none⟩) = some ⟨g, A, none⟩ ∧ RowP w base (some ⟨g, A, none⟩) q (c - 1) l.tail := by
  refine ⟨if c = 1 then off else off + 2, off_if, by rw [List.length_tail, h.1]; rfl, by have := h.2.1; omega, by have := h.2.2.1; omega, ?_⟩
  by_cases hq : q = 0
  · exact Or.inl ⟨hq, fun e => by cases e⟩
  · obtain ⟨g', off', e, h1, h2, h3⟩ := h.at (by omega)
    cases e
    have hc : c ≠ 1 := by have := h.2.1; omega
    rw [if_neg hc]
    refine Or.inr ⟨g, off + 2, rfl, h1, h2, fun j hj => ?_⟩
    have := h3 (j + 1) (by omega)
    rw [show off + (j + 1) * 2 = off + 2 + j * 2 by omega] at this
    have e1 : l.tail.getD j (0, 0) = l.getD (j + 1) (0, 0) := by simp [List.getD, List.getElem?_tail]
    rw [e1]
    exact this
theorem set2_grown (W : World) (g i j : Nat) (x y : Value) : W.grownBy ((W.setCell ⟨g, i, none⟩ x).setCell ⟨g, j, none⟩ y) (some g) := grown_trans (grown_set W g i x) (grown_set _ g j y)

def DrawnPa (g : Nat) (ao : Option Addr) (n c : Nat) (M : Int) (w : World) (e : Ending) (w' : World) : Prop := ∃ a' q c' zs, e = .returned (.slice a' q c') ∧ q ≤ 8 ∧ RowP w' w.heap.size a' q c' zs ∧ Cur w' g ao n c (M + 200) ∧ GB g w w'

end Go.Proofs.Ytamppekadobagaa
