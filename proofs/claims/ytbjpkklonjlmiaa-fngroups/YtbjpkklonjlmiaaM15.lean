/- Chapter 15: tables compared, marked, held, sized. -/
import Derived.Test.YtbjpkklonjlmiaaL15
namespace Go.Proofs.Ytbjpkklonjlmiaa
set_option linter.unusedVariables false
set_option maxRecDepth 1000000
set_option linter.unusedSimpArgs false
open Go.RowKit

/-- A table within the bounds of the laws. -/
structure SmallTb (b : TbV) : Prop where
  s : b.ps.length ≤ 1048576
  l : b.cs.length ≤ 1048576
  r : ∀ l ∈ b.ps, l.length ≤ 1048576

/-- How many numbers a table has. -/
def numT (b : TbV) : Nat := cum b.ps b.ps.length + b.cs.length
/-- A table, marked from 1 on. -/
def markTb (b : TbV) : TbV := ⟨b.s, markL b.ps, marks (1 + (cum b.ps b.ps.length : Nat)) b.cs.length⟩
theorem X3.rngP {pp : Nat → Prop} {w w' : World} {r : Nat} {a b c : Value} (h : X3 w r a b c) (hr : RngP pp w w') (hd : ¬ pp r) : X3 w' r a b c := by
  have e0 := hr.block r h.lt hd
  obtain ⟨⟨c0, c1, c2⟩, f⟩ := h
  refine ⟨⟨?_, ?_, ?_⟩, fun j => ?_⟩
  · rw [World.cell?_of_block (w := w) (a := ⟨r, 0, none⟩) e0]; exact c0
  · rw [World.cell?_of_block (w := w) (a := ⟨r, 1, none⟩) e0]; exact c1
  · rw [World.cell?_of_block (w := w) (a := ⟨r, 2, none⟩) e0]; exact c2
  · rw [World.frozen?_of_block (w := w) (a := ⟨r, j, none⟩) e0]; exact f j
theorem marks_len (k : Int) (n : Nat) : (marks k n).length = n := by simp [marks]

end Go.Proofs.Ytbjpkklonjlmiaa
