/- Chapter 12: MergeStatements of both sides. -/
import Derived.Test.YtleddlfojogdiaaGreatG12
import Derived.Test.YtleddlfojogdiaaGreatAP12
import Derived.Test.YtleddlfojogdiaaGreatIX12
namespace Go.Proofs.YtleddlfojogdiaaGreat
set_option linter.unusedVariables false
set_option maxRecDepth 1000000
set_option linter.unusedSimpArgs false
open Go.RowKit

theorem putS_in {a : List St} {s : St} (h : s ∈ a) : putS a s = a := by unfold putS; rw [if_pos h]

theorem putS_new {a : List St} {s : St} (h : s ∉ a) : putS a s = a ++ [s] := by unfold putS; rw [if_neg h]

theorem stsB_len {l : List St} (h : stsB l = true) : l.length ≤ 60 := by unfold stsB at h; rw [Bool.and_eq_true] at h; exact of_decide_eq_true h.2

theorem RdS.none {w : World} {xs : List St} (h : RdS w none xs) : xs = [] := by
  rcases h with h | ⟨b, o, he, _⟩
  · exact h
  · cases he

theorem own_emptyS (w : World) : OwnS (w.alloc (.cells #[] 34)) w.heap.size (.slice (some ⟨w.heap.size, 0, none⟩) 0 0) [] :=
  ⟨rfl, Or.inr ⟨w.heap.size, 0, #[], rfl, Nat.le_refl _, (by show (w.heap.push _)[w.heap.size]? = _; simp), Nat.le_refl _, Nat.zero_le _, rfl, rfl⟩⟩

theorem mergeL_nil (a : List St) : mergeL a [] = a := rfl

end Go.Proofs.YtleddlfojogdiaaGreat
