/- Chapter 12: slices.Index and slices.Contains over statements. -/
import Derived.Test.YtleddlfojogdiaaGreatQ12
import Derived.WalkSmall
namespace Go.Proofs.YtleddlfojogdiaaGreat
set_option linter.unusedVariables false
set_option maxRecDepth 1000000
set_option linter.unusedSimpArgs false
open Go.RowKit

theorem mem_getS {xs : List St} {k n : Nat} {s : St} (hx : xs.length = n) (hk : k < n) (e : xs.getD k (0, 0, 0, 0, false) = s) : s ∈ xs := by
  rw [← e]
  exact mem_getD (0, 0, 0, 0, false) (by omega)

theorem not_memS {xs : List St} {n : Nat} {s : St} (hx : xs.length = n) (h : ∀ j, j < n → xs.getD j (0, 0, 0, 0, false) ≠ s) : s ∉ xs := by
  intro hm
  obtain ⟨j, hj, e⟩ := List.getElem_of_mem hm
  exact h j (by omega) (by rw [← e]; simp [List.getD, hj])

end Go.Proofs.YtleddlfojogdiaaGreat
