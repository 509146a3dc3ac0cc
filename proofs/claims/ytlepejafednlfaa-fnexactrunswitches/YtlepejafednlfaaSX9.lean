/- Chapter 9: tools for rows of texts that grow side by side. -/
import Derived.Test.YtlepejafednlfaaSW9
import Derived.Deep.AppendLies
import Derived.BigQuiet
namespace Go.Proofs.Ytlepejafednlfaa
set_option linter.unusedVariables false
set_option maxRecDepth 1000000
set_option linter.unusedSimpArgs false
open Go.RowKit

def Sep (u v : Value) : Prop := ∀ k, u.ownBlock = some k → v.ownBlock = some k → False
theorem Sep.or {u v : Value} (h : Sep u v) : u.ownBlock = none ∨ u.ownBlock ≠ v.ownBlock := by
  rcases hb : u.ownBlock with _ | b
  · exact Or.inl rfl
  · exact Or.inr (fun e => h b hb e.symm)
theorem Sep.symm {u v : Value} (h : Sep u v) : Sep v u := fun k h1 h2 => h k h2 h1
theorem Sep.app {u v : Value} {g H n c : Nat} (h : Sep u v) (hw : v.ownBlock = some g ∨ g = H) (hu : ∀ k, u.ownBlock = some k → k < H) : Sep u (.slice (some ⟨g, 0, none⟩) n c) := fun k h1 h2 => by
  have e : g = k := Option.some.inj h2
  rcases hw with hw | hw
  · exact h k h1 (by rw [hw, e])
  · have := hu k h1; omega
theorem cell_new2s (w : World) (v v2 : Value) (t : TypeId) : ∀ j u, [v, v2][j]? = some u → (w.alloc (.cells #[v, v2] t)).cell? ((⟨w.heap.size, 0, none⟩ : Addr).add j) = some u := by
  intro j u hj
  match j with
  | 0 => simp at hj; subst hj; rw [Go.WideShapes.add_plain]; simp
  | 1 => simp at hj; subst hj; rw [Go.WideShapes.add_plain]; simp
  | j + 2 => simp at hj
theorem own_push2S {w1 : World} {base : Nat} {v' : Value} {out : List ByteArray} {x y : ByteArray} (h : w1.ownsRow base 9 1 v' (out.length + 2) (cellsS out ++ [.string x, .string y])) : OwnS w1 base v' (out ++ [x, y]) := by
  unfold OwnS
  rw [show (out ++ [x, y]).length = out.length + 2 by simp]
  simpa [cellsS] using h
theorem lit2_own (w : World) (a b : ByteArray) : OwnS (w.alloc (.cells #[.string a, .string b] 9)) w.heap.size (.slice (some ⟨w.heap.size, 0, none⟩) 2 2) [a, b] :=
  ⟨rfl, .inr ⟨w.heap.size, 2, #[.string a, .string b], rfl, Nat.le_refl _, (by show (w.heap.push _)[w.heap.size]? = _; simp), Nat.le_refl _, (by unfold maxLen; omega), rfl, rfl⟩⟩
theorem nil_rowS9 (w : World) : (w.alloc (.cells #[] 9)).ownsRow w.heap.size 9 1 (.slice (some ⟨w.heap.size, 0, none⟩) 0 0) 0 [] :=
  ⟨rfl, .inr ⟨w.heap.size, 0, #[], rfl, Nat.le_refl _, (by show (w.heap.push _)[w.heap.size]? = _; simp), Nat.le_refl _, Nat.zero_le _, rfl, rfl⟩⟩
theorem own_allS9 {w : World} {base n : Nat} {v : Value} {ls : List ByteArray} (h : w.ownsRow base 9 1 v (0 + n) ([] ++ cellsS ls)) (hl : ls.length = n) : OwnS w base v ls := by
  unfold OwnS; rw [hl]; simpa using h

end Go.Proofs.Ytlepejafednlfaa
