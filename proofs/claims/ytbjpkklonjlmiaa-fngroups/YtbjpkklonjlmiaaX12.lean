/- Boxes of a few cells. -/
import Derived.Test.YtbjpkklonjlmiaaB3B
namespace Go.Proofs.Ytbjpkklonjlmiaa
set_option linter.unusedVariables false
set_option maxRecDepth 1000000
set_option linter.unusedSimpArgs false
open Go.RowKit

theorem grown_setCell (w : World) (g k : Nat) (v : Value) : w.grownBy (w.setCell ⟨g, k, none⟩ v) (some g) := by
  have hb : Below 0 w (w.setCell ⟨g, k, none⟩ v) := (Below.refl 0 w).setCell (by omega) v
  exact ⟨hb.os, hb.tape, hb.output, hb.size, fun q hq hne => Below.heap_setCell w _ v q (fun e => hne (by rw [e]))⟩

/-- Marks follow one another. -/
theorem grown_trans {a b c : World} {r : Option Nat} (h : a.grownBy b r) (k : b.grownBy c r) : a.grownBy c r :=
  ⟨k.os.trans h.os, k.tape.trans h.tape, k.output.trans h.output, Nat.le_trans h.size k.size, fun q hq hne => (k.block q (Nat.lt_of_lt_of_le hq h.size) hne).trans (h.block q hq hne)⟩

theorem mem_getD {α : Type} {xs : List α} {k : Nat} (d : α) (h : k < xs.length) : xs.getD k d ∈ xs := by
  simp only [List.getD, List.getElem?_eq_getElem h, Option.getD_some]; exact List.getElem_mem _


/-- A box of 2 cells. -/
def X2 (w : World) (r : Nat) (a b : Value) : Prop := (w.cell? ⟨r, 0, none⟩ = some a ∧ w.cell? ⟨r, 1, none⟩ = some b) ∧ ∀ j, w.frozen? ⟨r, j, none⟩ = false

theorem x2_new (w : World) (a b : Value) (t : TypeId) (r : Nat) (hr : r = w.heap.size) : X2 (w.alloc (.cells #[a, b] t)) r a b := by
  subst hr
  refine ⟨⟨by simp, by simp⟩, fun j => ?_⟩
  rw [World.frozen?_alloc_mark]; simp

theorem X2.lt {w : World} {r : Nat} {a b : Value} (h : X2 w r a b) : r < w.heap.size := World.block_lt_of_cell? w _ h.1.1

theorem X2.later {w w' : World} {r : Nat} {a b : Value} (h : X2 w r a b) (hb : Below w.heap.size w w') : X2 w' r a b := by
  have hlt := h.lt
  obtain ⟨⟨c0, c1⟩, f⟩ := h
  refine ⟨⟨?_, ?_⟩, fun j => ?_⟩
  · rw [hb.cell (p := ⟨r, 0, none⟩) hlt]; exact c0
  · rw [hb.cell (p := ⟨r, 1, none⟩) hlt]; exact c1
  · rw [hb.frozen (p := ⟨r, j, none⟩) hlt]; exact f j

theorem X2.grown {w w' : World} {r : Nat} {a b : Value} {row : Option Nat} (h : X2 w r a b) (hg : w.grownBy w' row) (hne : some r ≠ row) : X2 w' r a b := by
  have e := hg.block r h.lt hne
  obtain ⟨⟨c0, c1⟩, f⟩ := h
  refine ⟨⟨?_, ?_⟩, fun j => ?_⟩
  · rw [World.cell?_of_block (w := w) (a := ⟨r, 0, none⟩) e]; exact c0
  · rw [World.cell?_of_block (w := w) (a := ⟨r, 1, none⟩) e]; exact c1
  · rw [World.frozen?_of_block (w := w) (a := ⟨r, j, none⟩) e]; exact f j

theorem X2.other {w : World} {r r' j' : Nat} {a b u : Value} (h : X2 w r a b) (hne : r ≠ r') : X2 (w.setCell ⟨r', j', none⟩ u) r a b := by
  refine h.grown (row := some r') (grown_setCell w r' j' u) (fun e => hne (by simpa using e))

theorem X2.set0 {w : World} {r : Nat} {a b : Value} (h : X2 w r a b) (u : Value) : X2 (w.setCell ⟨r, 0, none⟩ u) r u b := by
  obtain ⟨⟨c0, c1⟩, f⟩ := h
  refine ⟨⟨World.cell?_setCell_same _ _ _ c0, by rw [World.cell?_setCell_other _ _ _ _ (by simp)]; exact c1⟩, fun j => by rw [World.frozen?_setCell]; exact f j⟩

theorem X2.set1 {w : World} {r : Nat} {a b : Value} (h : X2 w r a b) (u : Value) : X2 (w.setCell ⟨r, 1, none⟩ u) r a u := by
  obtain ⟨⟨c0, c1⟩, f⟩ := h
  refine ⟨⟨by rw [World.cell?_setCell_other _ _ _ _ (by simp)]; exact c0, World.cell?_setCell_same _ _ _ c1⟩, fun j => by rw [World.frozen?_setCell]; exact f j⟩

/-- A box of 3 cells. -/
def X3 (w : World) (r : Nat) (a b c : Value) : Prop := (w.cell? ⟨r, 0, none⟩ = some a ∧ w.cell? ⟨r, 1, none⟩ = some b ∧ w.cell? ⟨r, 2, none⟩ = some c) ∧ ∀ j, w.frozen? ⟨r, j, none⟩ = false

theorem x3_new (w : World) (a b c : Value) (t : TypeId) (r : Nat) (hr : r = w.heap.size) : X3 (w.alloc (.cells #[a, b, c] t)) r a b c := by
  subst hr
  refine ⟨⟨by simp, by simp, by simp⟩, fun j => ?_⟩
  rw [World.frozen?_alloc_mark]; simp

theorem X3.lt {w : World} {r : Nat} {a b c : Value} (h : X3 w r a b c) : r < w.heap.size := World.block_lt_of_cell? w _ h.1.1

theorem X3.later {w w' : World} {r : Nat} {a b c : Value} (h : X3 w r a b c) (hb : Below w.heap.size w w') : X3 w' r a b c := by
  have hlt := h.lt
  obtain ⟨⟨c0, c1, c2⟩, f⟩ := h
  refine ⟨⟨?_, ?_, ?_⟩, fun j => ?_⟩
  · rw [hb.cell (p := ⟨r, 0, none⟩) hlt]; exact c0
  · rw [hb.cell (p := ⟨r, 1, none⟩) hlt]; exact c1
  · rw [hb.cell (p := ⟨r, 2, none⟩) hlt]; exact c2
  · rw [hb.frozen (p := ⟨r, j, none⟩) hlt]; exact f j

theorem X3.grown {w w' : World} {r : Nat} {a b c : Value} {row : Option Nat} (h : X3 w r a b c) (hg : w.grownBy w' row) (hne : some r ≠ row) : X3 w' r a b c := by
  have e := hg.block r h.lt hne
  obtain ⟨⟨c0, c1, c2⟩, f⟩ := h
  refine ⟨⟨?_, ?_, ?_⟩, fun j => ?_⟩
  · rw [World.cell?_of_block (w := w) (a := ⟨r, 0, none⟩) e]; exact c0
  · rw [World.cell?_of_block (w := w) (a := ⟨r, 1, none⟩) e]; exact c1
  · rw [World.cell?_of_block (w := w) (a := ⟨r, 2, none⟩) e]; exact c2
  · rw [World.frozen?_of_block (w := w) (a := ⟨r, j, none⟩) e]; exact f j

theorem X3.other {w : World} {r r' j' : Nat} {a b c u : Value} (h : X3 w r a b c) (hne : r ≠ r') : X3 (w.setCell ⟨r', j', none⟩ u) r a b c := by
  refine h.grown (row := some r') (grown_setCell w r' j' u) (fun e => hne (by simpa using e))

theorem X3.set0 {w : World} {r : Nat} {a b c : Value} (h : X3 w r a b c) (u : Value) : X3 (w.setCell ⟨r, 0, none⟩ u) r u b c := by
  obtain ⟨⟨c0, c1, c2⟩, f⟩ := h
  refine ⟨⟨World.cell?_setCell_same _ _ _ c0, by rw [World.cell?_setCell_other _ _ _ _ (by simp)]; exact c1, by rw [World.cell?_setCell_other _ _ _ _ (by simp)]; exact c2⟩, fun j => by rw [World.frozen?_setCell]; exact f j⟩

theorem X3.set1 {w : World} {r : Nat} {a b c : Value} (h : X3 w r a b c) (u : Value) : X3 (w.setCell ⟨r, 1, none⟩ u) r a u c := by
  obtain ⟨⟨c0, c1, c2⟩, f⟩ := h
  refine ⟨⟨by rw [World.cell?_setCell_other _ _ _ _ (by simp)]; exact c0, World.cell?_setCell_same _ _ _ c1, by rw [World.cell?_setCell_other _ _ _ _ (by simp)]; exact c2⟩, fun j => by rw [World.frozen?_setCell]; exact f j⟩

theorem X3.set2 {w : World} {r : Nat} {a b c : Value} (h : X3 w r a b c) (u : Value) : X3 (w.setCell ⟨r, 2, none⟩ u) r a b u := by
  obtain ⟨⟨c0, c1, c2⟩, f⟩ := h
  refine ⟨⟨by rw [World.cell?_setCell_other _ _ _ _ (by simp)]; exact c0, by rw [World.cell?_setCell_other _ _ _ _ (by simp)]; exact c1, World.cell?_setCell_same _ _ _ c2⟩, fun j => by rw [World.frozen?_setCell]; exact f j⟩

/-- A box of 4 cells. -/
def X4 (w : World) (r : Nat) (a b c d : Value) : Prop := (w.cell? ⟨r, 0, none⟩ = some a ∧ w.cell? ⟨r, 1, none⟩ = some b ∧ w.cell? ⟨r, 2, none⟩ = some c ∧ w.cell? ⟨r, 3, none⟩ = some d) ∧ ∀ j, w.frozen? ⟨r, j, none⟩ = false

theorem x4_new (w : World) (a b c d : Value) (t : TypeId) (r : Nat) (hr : r = w.heap.size) : X4 (w.alloc (.cells #[a, b, c, d] t)) r a b c d := by
  subst hr
  refine ⟨⟨by simp, by simp, by simp, by simp⟩, fun j => ?_⟩
  rw [World.frozen?_alloc_mark]; simp

theorem X4.lt {w : World} {r : Nat} {a b c d : Value} (h : X4 w r a b c d) : r < w.heap.size := World.block_lt_of_cell? w _ h.1.1

theorem X4.later {w w' : World} {r : Nat} {a b c d : Value} (h : X4 w r a b c d) (hb : Below w.heap.size w w') : X4 w' r a b c d := by
  have hlt := h.lt
  obtain ⟨⟨c0, c1, c2, c3⟩, f⟩ := h
  refine ⟨⟨?_, ?_, ?_, ?_⟩, fun j => ?_⟩
  · rw [hb.cell (p := ⟨r, 0, none⟩) hlt]; exact c0
  · rw [hb.cell (p := ⟨r, 1, none⟩) hlt]; exact c1
  · rw [hb.cell (p := ⟨r, 2, none⟩) hlt]; exact c2
  · rw [hb.cell (p := ⟨r, 3, none⟩) hlt]; exact c3
  · rw [hb.frozen (p := ⟨r, j, none⟩) hlt]; exact f j

theorem X4.grown {w w' : World} {r : Nat} {a b c d : Value} {row : Option Nat} (h : X4 w r a b c d) (hg : w.grownBy w' row) (hne : some r ≠ row) : X4 w' r a b c d := by
  have e := hg.block r h.lt hne
  obtain ⟨⟨c0, c1, c2, c3⟩, f⟩ := h
  refine ⟨⟨?_, ?_, ?_, ?_⟩, fun j => ?_⟩
  · rw [World.cell?_of_block (w := w) (a := ⟨r, 0, none⟩) e]; exact c0
  · rw [World.cell?_of_block (w := w) (a := ⟨r, 1, none⟩) e]; exact c1
  · rw [World.cell?_of_block (w := w) (a := ⟨r, 2, none⟩) e]; exact c2
  · rw [World.cell?_of_block (w := w) (a := ⟨r, 3, none⟩) e]; exact c3
  · rw [World.frozen?_of_block (w := w) (a := ⟨r, j, none⟩) e]; exact f j

theorem X4.other {w : World} {r r' j' : Nat} {a b c d u : Value} (h : X4 w r a b c d) (hne : r ≠ r') : X4 (w.setCell ⟨r', j', none⟩ u) r a b c d := by
  refine h.grown (row := some r') (grown_setCell w r' j' u) (fun e => hne (by simpa using e))

theorem X4.set0 {w : World} {r : Nat} {a b c d : Value} (h : X4 w r a b c d) (u : Value) : X4 (w.setCell ⟨r, 0, none⟩ u) r u b c d := by
  obtain ⟨⟨c0, c1, c2, c3⟩, f⟩ := h
  refine ⟨⟨World.cell?_setCell_same _ _ _ c0, by rw [World.cell?_setCell_other _ _ _ _ (by simp)]; exact c1, by rw [World.cell?_setCell_other _ _ _ _ (by simp)]; exact c2, by rw [World.cell?_setCell_other _ _ _ _ (by simp)]; exact c3⟩, fun j => by rw [World.frozen?_setCell]; exact f j⟩

theorem X4.set1 {w : World} {r : Nat} {a b c d : Value} (h : X4 w r a b c d) (u : Value) : X4 (w.setCell ⟨r, 1, none⟩ u) r a u c d := by
  obtain ⟨⟨c0, c1, c2, c3⟩, f⟩ := h
  refine ⟨⟨by rw [World.cell?_setCell_other _ _ _ _ (by simp)]; exact c0, World.cell?_setCell_same _ _ _ c1, by rw [World.cell?_setCell_other _ _ _ _ (by simp)]; exact c2, by rw [World.cell?_setCell_other _ _ _ _ (by simp)]; exact c3⟩, fun j => by rw [World.frozen?_setCell]; exact f j⟩

theorem X4.set2 {w : World} {r : Nat} {a b c d : Value} (h : X4 w r a b c d) (u : Value) : X4 (w.setCell ⟨r, 2, none⟩ u) r a b u d := by
  obtain ⟨⟨c0, c1, c2, c3⟩, f⟩ := h
  refine ⟨⟨by rw [World.cell?_setCell_other _ _ _ _ (by simp)]; exact c0, by rw [World.cell?_setCell_other _ _ _ _ (by simp)]; exact c1, World.cell?_setCell_same _ _ _ c2, by rw [World.cell?_setCell_other _ _ _ _ (by simp)]; exact c3⟩, fun j => by rw [World.frozen?_setCell]; exact f j⟩

theorem X4.set3 {w : World} {r : Nat} {a b c d : Value} (h : X4 w r a b c d) (u : Value) : X4 (w.setCell ⟨r, 3, none⟩ u) r a b c u := by
  obtain ⟨⟨c0, c1, c2, c3⟩, f⟩ := h
  refine ⟨⟨by rw [World.cell?_setCell_other _ _ _ _ (by simp)]; exact c0, by rw [World.cell?_setCell_other _ _ _ _ (by simp)]; exact c1, by rw [World.cell?_setCell_other _ _ _ _ (by simp)]; exact c2, World.cell?_setCell_same _ _ _ c3⟩, fun j => by rw [World.frozen?_setCell]; exact f j⟩

/-- A box of 5 cells. -/
def X5 (w : World) (r : Nat) (a b c d e : Value) : Prop := (w.cell? ⟨r, 0, none⟩ = some a ∧ w.cell? ⟨r, 1, none⟩ = some b ∧ w.cell? ⟨r, 2, none⟩ = some c ∧ w.cell? ⟨r, 3, none⟩ = some d ∧ w.cell? ⟨r, 4, none⟩ = some e) ∧ ∀ j, w.frozen? ⟨r, j, none⟩ = false

theorem x5_new (w : World) (a b c d e : Value) (t : TypeId) (r : Nat) (hr : r = w.heap.size) : X5 (w.alloc (.cells #[a, b, c, d, e] t)) r a b c d e := by
  subst hr
  refine ⟨⟨by simp, by simp, by simp, by simp, by simp⟩, fun j => ?_⟩
  rw [World.frozen?_alloc_mark]; simp

theorem X5.lt {w : World} {r : Nat} {a b c d e : Value} (h : X5 w r a b c d e) : r < w.heap.size := World.block_lt_of_cell? w _ h.1.1

theorem X5.later {w w' : World} {r : Nat} {a b c d e : Value} (h : X5 w r a b c d e) (hb : Below w.heap.size w w') : X5 w' r a b c d e := by
  have hlt := h.lt
  obtain ⟨⟨c0, c1, c2, c3, c4⟩, f⟩ := h
  refine ⟨⟨?_, ?_, ?_, ?_, ?_⟩, fun j => ?_⟩
  · rw [hb.cell (p := ⟨r, 0, none⟩) hlt]; exact c0
  · rw [hb.cell (p := ⟨r, 1, none⟩) hlt]; exact c1
  · rw [hb.cell (p := ⟨r, 2, none⟩) hlt]; exact c2
  · rw [hb.cell (p := ⟨r, 3, none⟩) hlt]; exact c3
  · rw [hb.cell (p := ⟨r, 4, none⟩) hlt]; exact c4
  · rw [hb.frozen (p := ⟨r, j, none⟩) hlt]; exact f j

theorem X5.grown {w w' : World} {r : Nat} {a b c d e : Value} {row : Option Nat} (h : X5 w r a b c d e) (hg : w.grownBy w' row) (hne : some r ≠ row) : X5 w' r a b c d e := by
  have e := hg.block r h.lt hne
  obtain ⟨⟨c0, c1, c2, c3, c4⟩, f⟩ := h
  refine ⟨⟨?_, ?_, ?_, ?_, ?_⟩, fun j => ?_⟩
  · rw [World.cell?_of_block (w := w) (a := ⟨r, 0, none⟩) e]; exact c0
  · rw [World.cell?_of_block (w := w) (a := ⟨r, 1, none⟩) e]; exact c1
  · rw [World.cell?_of_block (w := w) (a := ⟨r, 2, none⟩) e]; exact c2
  · rw [World.cell?_of_block (w := w) (a := ⟨r, 3, none⟩) e]; exact c3
  · rw [World.cell?_of_block (w := w) (a := ⟨r, 4, none⟩) e]; exact c4
  · rw [World.frozen?_of_block (w := w) (a := ⟨r, j, none⟩) e]; exact f j

theorem X5.other {w : World} {r r' j' : Nat} {a b c d e u : Value} (h : X5 w r a b c d e) (hne : r ≠ r') : X5 (w.setCell ⟨r', j', none⟩ u) r a b c d e := by
  refine h.grown (row := some r') (grown_setCell w r' j' u) (fun e => hne (by simpa using e))

theorem X5.set0 {w : World} {r : Nat} {a b c d e : Value} (h : X5 w r a b c d e) (u : Value) : X5 (w.setCell ⟨r, 0, none⟩ u) r u b c d e := by
  obtain ⟨⟨c0, c1, c2, c3, c4⟩, f⟩ := h
  refine ⟨⟨World.cell?_setCell_same _ _ _ c0, by rw [World.cell?_setCell_other _ _ _ _ (by simp)]; exact c1, by rw [World.cell?_setCell_other _ _ _ _ (by simp)]; exact c2, by rw [World.cell?_setCell_other _ _ _ _ (by simp)]; exact c3, by rw [World.cell?_setCell_other _ _ _ _ (by simp)]; exact c4⟩, fun j => by rw [World.frozen?_setCell]; exact f j⟩

theorem X5.set1 {w : World} {r : Nat} {a b c d e : Value} (h : X5 w r a b c d e) (u : Value) : X5 (w.setCell ⟨r, 1, none⟩ u) r a u c d e := by
  obtain ⟨⟨c0, c1, c2, c3, c4⟩, f⟩ := h
  refine ⟨⟨by rw [World.cell?_setCell_other _ _ _ _ (by simp)]; exact c0, World.cell?_setCell_same _ _ _ c1, by rw [World.cell?_setCell_other _ _ _ _ (by simp)]; exact c2, by rw [World.cell?_setCell_other _ _ _ _ (by simp)]; exact c3, by rw [World.cell?_setCell_other _ _ _ _ (by simp)]; exact c4⟩, fun j => by rw [World.frozen?_setCell]; exact f j⟩

theorem X5.set2 {w : World} {r : Nat} {a b c d e : Value} (h : X5 w r a b c d e) (u : Value) : X5 (w.setCell ⟨r, 2, none⟩ u) r a b u d e := by
  obtain ⟨⟨c0, c1, c2, c3, c4⟩, f⟩ := h
  refine ⟨⟨by rw [World.cell?_setCell_other _ _ _ _ (by simp)]; exact c0, by rw [World.cell?_setCell_other _ _ _ _ (by simp)]; exact c1, World.cell?_setCell_same _ _ _ c2, by rw [World.cell?_setCell_other _ _ _ _ (by simp)]; exact c3, by rw [World.cell?_setCell_other _ _ _ _ (by simp)]; exact c4⟩, fun j => by rw [World.frozen?_setCell]; exact f j⟩

theorem X5.set3 {w : World} {r : Nat} {a b c d e : Value} (h : X5 w r a b c d e) (u : Value) : X5 (w.setCell ⟨r, 3, none⟩ u) r a b c u e := by
  obtain ⟨⟨c0, c1, c2, c3, c4⟩, f⟩ := h
  refine ⟨⟨by rw [World.cell?_setCell_other _ _ _ _ (by simp)]; exact c0, by rw [World.cell?_setCell_other _ _ _ _ (by simp)]; exact c1, by rw [World.cell?_setCell_other _ _ _ _ (by simp)]; exact c2, World.cell?_setCell_same _ _ _ c3, by rw [World.cell?_setCell_other _ _ _ _ (by simp)]; exact c4⟩, fun j => by rw [World.frozen?_setCell]; exact f j⟩

theorem X5.set4 {w : World} {r : Nat} {a b c d e : Value} (h : X5 w r a b c d e) (u : Value) : X5 (w.setCell ⟨r, 4, none⟩ u) r a b c d u := by
  obtain ⟨⟨c0, c1, c2, c3, c4⟩, f⟩ := h
  refine ⟨⟨by rw [World.cell?_setCell_other _ _ _ _ (by simp)]; exact c0, by rw [World.cell?_setCell_other _ _ _ _ (by simp)]; exact c1, by rw [World.cell?_setCell_other _ _ _ _ (by simp)]; exact c2, by rw [World.cell?_setCell_other _ _ _ _ (by simp)]; exact c3, World.cell?_setCell_same _ _ _ c4⟩, fun j => by rw [World.frozen?_setCell]; exact f j⟩

end Go.Proofs.Ytbjpkklonjlmiaa
