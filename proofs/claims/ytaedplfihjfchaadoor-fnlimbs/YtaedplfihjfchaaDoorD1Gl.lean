/- Cursors where rows grow: general facts. -/
import Derived.Test.YtaedplfihjfchaaDoorD3l
import Derived.Test.YtaedplfihjfchaaDoorBigOfl
namespace Go.Proofs.YtaedplfihjfchaaDoor
set_option linter.unusedVariables false
set_option maxRecDepth 1000000
set_option linter.unusedSimpArgs false
open Go.RowKit

/-- The code lies below B. -/
def Old (ao : Option Addr) (n B : Nat) : Prop := n = 0 ∨ ∃ b off, ao = some ⟨b, off, none⟩ ∧ b < B

theorem CodeOk.old {w : World} {g : Nat} {ao : Option Addr} {n : Nat} (h : CodeOk w g ao n) : Old ao n w.heap.size := by
  rcases h with h | ⟨b, off, rfl, hne, f, hf⟩
  · exact Or.inl h
  · by_cases hn : n = 0
    · exact Or.inl hn
    · exact Or.inr ⟨b, off, rfl, World.block_lt_of_cell? _ _ (hf 0 (by omega)).1⟩

theorem Cur.grown {w w' : World} {g : Nat} {ao : Option Addr} {n c B : Nat} {M : Int} {row : Option Nat} (h : Cur w g ao n c M) (hg : w.grownBy w' row) (hr : ∀ k, row = some k → B ≤ k) (hgB : g < B) (ho : Old ao n B) : Cur w' g ao n c M := by
  have hne : ∀ b, b < B → some b ≠ row := fun b hb e => by have := hr b e.symm; omega
  have hlt := h.lt
  refine ⟨h.hn, ?_, hg.cell (a := ⟨g, 0, none⟩) h.slice (hne g hgB), ?_, ?_, fun j => ?_⟩
  · rcases h.code with h1 | ⟨b, off, rfl, hne', f, hf⟩
    · exact Or.inl h1
    · rcases ho with h0 | ⟨b', off', e, hb⟩
      · exact Or.inl h0
      · simp only [Option.some.injEq, Addr.mk.injEq, and_true] at e
        obtain ⟨rfl, rfl⟩ := e
        exact Or.inr ⟨b, off, rfl, hne', f, fun j hj => ⟨hg.cell (a := ⟨b, off + j, none⟩) (hf j hj).1 (hne b hb), (hf j hj).2⟩⟩
  · obtain ⟨z, h0, h1, h2⟩ := h.at'
    exact ⟨z, h0, h1, hg.cell (a := ⟨g, 1, none⟩) h2 (hne g hgB)⟩
  · obtain ⟨z, h2⟩ := h.seed
    exact ⟨z, hg.cell (a := ⟨g, 2, none⟩) h2 (hne g hgB)⟩
  · rw [World.frozen?_of_block (w := w) (hg.block g hlt (hne g hgB))]
    exact h.free j

theorem GB.grown {g : Nat} {w w1 w2 : World} {row : Option Nat} (h : GB g w w1) (hg : w1.grownBy w2 row) (hr : ∀ k, row = some k → w.heap.size ≤ k) : GB g w w2 :=
  ⟨hg.os.trans h.os, hg.tape.trans h.tape, hg.output.trans h.output, Nat.le_trans h.size hg.size, fun q hq hne => (hg.block q (Nat.lt_of_lt_of_le hq h.size) (fun e => by have := hr q e.symm; omega)).trans (h.block q hq hne)⟩

theorem sep_own {w : World} {base g : Nat} {v : Value} {xs : List Int} (h : Own w base v xs) (hg : g < base) : v.ownBlock = none ∨ v.ownBlock ≠ some g := by
  rcases hb : v.ownBlock with _ | b
  · exact Or.inl rfl
  · exact Or.inr (fun e => by have := own_block_ge h b hb; simp at e; omega)
theorem sep_top {w : World} {B : Nat} {v : Value} {xs : List Int} (h : Own w B v xs) {g : Nat} (hg : w.heap.size ≤ g) : v.ownBlock = none ∨ v.ownBlock ≠ some g := by
  rcases hb : v.ownBlock with _ | b
  · exact Or.inl rfl
  · exact Or.inr (fun e => by have := (World.ownsRow.lt h b hb).2; simp at e; omega)
theorem own_some {w : World} {base n c : Nat} {ao : Option Addr} {xs : List Int} (h : Own w base (.slice ao n c) xs) (h0 : 0 < n) : ∃ g, ao = some ⟨g, 0, none⟩ ∧ base ≤ g := by
  have hl := h.rd'.1
  rcases h.form with ⟨_, h2⟩ | ⟨g, cap, h1, h2, _⟩
  · rw [h2] at hl; simp at hl; omega
  · simp only [Value.slice.injEq] at h1
    exact ⟨g, h1.1, h2⟩
theorem own_set {w : World} {base g r cap : Nat} {l : List Int} (h : Own w base (.slice (some ⟨g, 0, none⟩) r cap) l) (i : Nat) (x : Int) : Own (w.setCell ⟨g, i, none⟩ (.int .i64 x)) base (.slice (some ⟨g, 0, none⟩) r cap) (l.set i x) := by
  have hr := h.rd'.1
  have hst := World.ownsRow.stored (by have h' := h; unfold Own at h'; rw [hr] at h'; exact h' : w.ownsRow base 3 1 (.slice (some ⟨g, 0, none⟩) r cap) r (cellsI l)) i (.int .i64 x)
  unfold Own
  rw [List.length_set, hr, ← cellsI_set]
  exact hst.1
theorem draw_below {w w1 w' : World} {g : Nat} (h1 : Below w.heap.size w w1) (h2 : GB g w1 w') (hg : w1.heap.size ≤ g) : Below w.heap.size w w' := h1.trans ((h2.below (Nat.le_refl _) hg).mono h1.size)
theorem old_mono {ao : Option Addr} {n B C : Nat} (h : Old ao n B) (hb : B ≤ C) : Old ao n C := by
  rcases h with h | ⟨b, off, e, hl⟩
  · exact Or.inl h
  · exact Or.inr ⟨b, off, e, by omega⟩

end Go.Proofs.YtaedplfihjfchaaDoor
