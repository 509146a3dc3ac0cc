/- Cursors where rows grow: general facts. -/
import Derived.Test.YtaokmjbhgkfnfaaD3q
import Derived.Test.YtaokmjbhgkfnfaaB3q
namespace Go.Proofs.Ytaokmjbhgkfnfaa
set_option linter.unusedVariables false
set_option maxRecDepth 1000000
set_option linter.unusedSimpArgs false
open Go.RowKit

def Old (ao : Option Addr) (n B : Nat) : Prop := n = 0 ∨ ∃ b off, ao = some ⟨b, off, none⟩ ∧ b < B

theorem CodeOk.old {w : World} {g : Nat} {ao : Option Addr} {n : Nat} (h : CodeOk w g ao n) : Old ao n w.heap.size := by
 rcases h with h | ⟨b, off, rfl, hne, f, hf⟩
 ·exact Or.inl h
 ·by_cases hn : n = 0
  ·exact Or.inl hn
  ·exact Or.inr ⟨b, off, rfl, World.block_lt_of_cell? _ _ (hf 0 (by omega)).1⟩

theorem Cur.grown {w w' : World} {g : Nat} {ao : Option Addr} {n c B : Nat} {M : Int} {row : Option Nat} (h : Cur w g ao n c M) (hg : w.grownBy w' row) (hr : ∀ k, row = some k → B ≤ k) (hgB : g < B) (ho : Old ao n B) : Cur w' g ao n c M := by
 have hne : ∀ b, b < B → some b ≠ row := fun b hb e => by have := hr b e.symm; omega
 have hlt := h.lt
 refine ⟨h.hn, ?_, hg.cell (a := ⟨g, 0, none⟩) h.slice (hne g hgB), ?_, ?_, fun j => ?_⟩
 ·rcases h.code with h1 | ⟨b, off, rfl, hne', f, hf⟩
  ·exact Or.inl h1
  ·rcases ho with h0 | ⟨b', off', e, hb⟩
   ·exact Or.inl h0
   ·simp only [Option.some.injEq, Addr.mk.injEq, and_true] at e
    obtain ⟨rfl, rfl⟩ := e
    exact Or.inr ⟨b, off, rfl, hne', f, fun j hj => ⟨hg.cell (a := ⟨b, off + j, none⟩) (hf j hj).1 (hne b hb), (hf j hj).2⟩⟩
 ·obtain ⟨z, h0, h1, h2⟩ := h.at'
  exact ⟨z, h0, h1, hg.cell (a := ⟨g, 1, none⟩) h2 (hne g hgB)⟩
 ·obtain ⟨z, h2⟩ := h.seed
  exact ⟨z, hg.cell (a := ⟨g, 2, none⟩) h2 (hne g hgB)⟩
 ·rw [World.frozen?_of_block (w := w) (hg.block g hlt (hne g hgB))]
  exact h.free j

theorem GB.grown {g : Nat} {w w1 w2 : World} {row : Option Nat} (h : GB g w w1) (hg : w1.grownBy w2 row) (hr : ∀ k, row = some k → w.heap.size ≤ k) : GB g w w2 :=
 ⟨hg.os.trans h.os, hg.tape.trans h.tape, hg.output.trans h.output, Nat.le_trans h.size hg.size, fun q hq hne => (hg.block q (Nat.lt_of_lt_of_le hq h.size) (fun e => by have := hr q e.symm; omega)).trans (h.block q hq hne)⟩

theorem sep_own {w : World} {base g : Nat} {v : Value} {xs : List Int} (h : Own w base v xs) (hg : g < base) : v.ownBlock = none ∨ v.ownBlock ≠ some g := by
 rcases hb : v.ownBlock with _ | b
 ·exact Or.inl rfl
 ·exact Or.inr (fun e => by have := own_block_ge h b hb; simp at e; omega)
theorem old_mono {ao : Option Addr} {n B C : Nat} (h : Old ao n B) (hb : B ≤ C) : Old ao n C := by
 rcases h with h | ⟨b, off, e, hl⟩
 ·exact Or.inl h
 ·exact Or.inr ⟨b, off, e, by omega⟩

end Go.Proofs.Ytaokmjbhgkfnfaa
