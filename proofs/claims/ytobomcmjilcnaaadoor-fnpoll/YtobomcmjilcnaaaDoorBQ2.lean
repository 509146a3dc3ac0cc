/- Chapter 6: lists of sealed numbers (as BP2) copied, compared, marked. -/
import Derived.Test.YtobomcmjilcnaaaDoorBQ
namespace Go.Proofs.YtobomcmjilcnaaaDoor
set_option linter.unusedVariables false
set_option maxRecDepth 1000000
set_option linter.unusedSimpArgs false
open Go.RowKit

theorem made_parts : ∀ n : Nat, (madeCells (Value.agg #[.int .i64 0, .int .i64 0]).cells (n * 2)).toList = cellsP (List.replicate n (0, 0)) := by
  intro n
  have hl : (cellsP (List.replicate n (0, 0))).length = n * 2 := by rw [cellsP_length, List.length_replicate]
  refine List.ext_getElem (by rw [hl, Array.length_toList, size_madeCells]) fun j h1 h2 => ?_
  have hj : j / 2 < n := by rw [hl] at h2; omega
  have hc := cellsP_at (List.replicate n (0, 0)) (j / 2) (by simpa using hj)
  have e0 : (List.replicate n ((0 : Int), (0 : Int))).getD (j / 2) (0, 0) = (0, 0) := by simp [List.getD, hj]
  rw [e0] at hc
  have hr : (cellsP (List.replicate n (0, 0)))[j]? = some (.int .i64 0) := by
    rcases Nat.mod_two_eq_zero_or_one j with h | h
    · rw [show j / 2 * 2 = j by omega] at hc; exact hc.1
    · rw [show j / 2 * 2 + 1 = j by omega] at hc; exact hc.2
  have hr2 : (cellsP (List.replicate n (0, 0)))[j] = .int .i64 0 := by
    have := List.getElem?_eq_getElem h2
    rw [hr] at this
    exact (Option.some.inj this).symm
  rw [hr2]
  simp only [madeCells, Array.getElem_toList, Array.getElem_map, Array.getElem_range]
  show #[Value.int .i64 0, Value.int .i64 0][j % 2]! = _
  rcases Nat.mod_two_eq_zero_or_one j with h | h <;> rw [h] <;> rfl

theorem pair_keep {w1 w2 : World} (hb : Below w1.heap.size w1 w2) {g o : Nat} {u v : Value} (h1 : w1.cell? ⟨g, o, none⟩ = some u) (h2 : w1.cell? ⟨g, o + 1, none⟩ = some v) : w2.cell? ⟨g, o, none⟩ = some u ∧ w2.cell? ⟨g, o + 1, none⟩ = some v := ⟨cell_keep (S := 0) hb h1, cell_keep (S := 0) hb h2⟩

end Go.Proofs.YtobomcmjilcnaaaDoor
