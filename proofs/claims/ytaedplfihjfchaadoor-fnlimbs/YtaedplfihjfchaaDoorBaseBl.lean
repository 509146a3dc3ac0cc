/- Contracts of the helpers over a struct of one list of ints: sizes, copies, comparisons, marks. -/
import Derived.Test.YtaedplfihjfchaaDoorBasel
namespace Go.Proofs.YtaedplfihjfchaaDoor
set_option linter.unusedVariables false
set_option maxRecDepth 1000000
set_option linter.unusedSimpArgs false
open Go.RowKit

theorem bcell {W w1 : World} (hb : Below W.heap.size W w1) : (∀ b o, b < W.heap.size → w1.cell? ⟨b, o, none⟩ = W.cell? ⟨b, o, none⟩) ∧ (∀ b o, b < W.heap.size → w1.frozen? ⟨b, o, none⟩ = W.frozen? ⟨b, o, none⟩) :=
  ⟨fun b o h => hb.cell (p := ⟨b, o, none⟩) h, fun b o h => hb.frozen (p := ⟨b, o, none⟩) h⟩

/-- The marks k, k + 1, .. of a row of n. -/
def marks (k : Int) (n : Nat) : List Int := (List.range n).map (fun j : Nat => k + (j : Int))
theorem marks_length (k : Int) (n : Nat) : (marks k n).length = n := by simp [marks]
theorem marks_getD (k : Int) (n j : Nat) (h : j < n) : (marks k n).getD j 0 = k + j := by simp [marks, List.getD, h]
theorem marks_of (k : Int) (n : Nat) (ys : List Int) (hl : ys.length = n) (h : ∀ j : Nat, j < n → ys.getD j 0 = k + j) : ys = marks k n := by
  refine List.ext_getElem (by rw [hl, marks_length]) fun j h1 h2 => ?_
  have e1 := h j (by omega)
  have e2 := marks_getD k n j (by omega)
  simp [List.getD, h1] at e1
  simp [List.getD, h2] at e2
  rw [e1, e2]

end Go.Proofs.YtaedplfihjfchaaDoor
