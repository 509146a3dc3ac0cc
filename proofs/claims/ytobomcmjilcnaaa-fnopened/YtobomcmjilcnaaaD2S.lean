/- numberOf, sealed numbers drawn, and what the law on sealed numbers draws. -/
import Derived.Test.YtobomcmjilcnaaaD2
namespace Go.Proofs.Ytobomcmjilcnaaa
set_option linter.unusedVariables false
set_option maxRecDepth 1000000
set_option linter.unusedSimpArgs false
open Go.RowKit

/-- The code lies below B. -/
def Old2 (ao : Option Addr) (n B : Nat) : Prop := n = 0 ∨ ∃ b off, ao = some ⟨b, off, none⟩ ∧ b < B
theorem CodeOk.old2 {w : World} {g : Nat} {ao : Option Addr} {n : Nat} (h : CodeOk w g ao n) : Old2 ao n w.heap.size := by
  rcases h with h | ⟨b, off, rfl, hne, f, hf⟩
  · exact Or.inl h
  · by_cases hn : n = 0
    · exact Or.inl hn
    · exact Or.inr ⟨b, off, rfl, World.block_lt_of_cell? _ _ (hf 0 (by omega)).1⟩

theorem Cur.grown2 {w w' : World} {g : Nat} {ao : Option Addr} {n c B : Nat} {M : Int} {row : Option Nat} (h : Cur w g ao n c M) (hg : w.grownBy w' row) (hr : ∀ k, row = some k → B ≤ k) (hgB : g < B) (ho : Old2 ao n B) : Cur w' g ao n c M := by
  have hne : ∀ b, b < B → some b ≠ row := fun b hb e => by have := hr b e.symm; omega
  have hlt := h.lt
  refine ⟨h.hn, ?_, hg.cell (a := ⟨g, 0, none⟩) h.slice (hne g hgB), ?_, ?_, fun j => ?_⟩
  · rcases h.code with h1 | ⟨b, off, rfl, hne', f, hf⟩
    · exact Or.inl h1
    · rcases ho with h0 | ⟨b', off', e, hb⟩
      · exact Or.inl h0
      · simp only [Option.some.injEq, Addr.mk.injEq, and_true] at e
        obtain ⟨rfl, rfl⟩ := e
        exact Or.inr ⟨b, off, rfl, hne', f, fun j hj => ⟨hg.cell (a := ⟨b, off + j, none⟩) (hf j hj).1 (hne b hb), (hf j hj).2⟩⟩
  · obtain ⟨z, h0, h1, h2⟩ := h.at'
    exact ⟨z, h0, h1, hg.cell (a := ⟨g, 1, none⟩) h2 (hne g hgB)⟩
  · obtain ⟨z, h2⟩ := h.seed
    exact ⟨z, hg.cell (a := ⟨g, 2, none⟩) h2 (hne g hgB)⟩
  · rw [World.frozen?_of_block (w := w) (hg.block g hlt (hne g hgB))]
    exact h.free j

theorem GB.grown2 {g : Nat} {w w1 w2 : World} {row : Option Nat} (h : GB g w w1) (hg : w1.grownBy w2 row) (hr : ∀ k, row = some k → w.heap.size ≤ k) : GB g w w2 :=
  ⟨hg.os.trans h.os, hg.tape.trans h.tape, hg.output.trans h.output, Nat.le_trans h.size hg.size, fun q hq hne => (hg.block q (Nat.lt_of_lt_of_le hq h.size) (fun e => by have := hr q e.symm; omega)).trans (h.block q hq hne)⟩

theorem grown_set (w : World) (r j : Nat) (v : Value) : w.grownBy (w.setCell ⟨r, j, none⟩ v) (some r) :=
  ⟨rfl, rfl, rfl, (Below.setCell (Below.refl 0 w) (Nat.zero_le _) v).size, fun k _ hk => Below.heap_setCell _ _ _ k (fun e => hk (by rw [e]))⟩

set_option maxHeartbeats 2000000 in
theorem sealed_c (g : Nat) (ao : Option Addr) (n c : Nat) (M : Int) (w : World) (hM : M ≤ 500000) (h : Cur w g ao n c M) :
    Calls Try.prog 34 #[.pointer (some ⟨g, 0, none⟩)] w fun e w' => ∃ x y : Int, e = .returned (.agg #[.int .i64 x, .int .i64 y]) ∧ Cur w' g ao n c (M + 40) ∧ GB g w w' := by
  have hlt := h.lt
  have HO : Hid (Old2 ao n w.heap.size) := h.code.old2
  have HC : Hid (Cur (w.alloc (.cells #[.int .i64 0, .int .i64 0] 25)) g ao n c M) := h.alloc _
  have HG : Hid (GB g w (w.alloc (.cells #[.int .i64 0, .int .i64 0] 25))) := (GB.refl _ _).alloc _
  have tok1 : True := trivial
  clear h
  go_enter Try.func34, Try.ntmps34
  go_wp2_with (first | (go_at_call 66; have _t := tok1; refine (member_c g ao n c _ _ (by omega) HC.out).mono ?_; rintro e w1 ⟨x, rfl, hc1, hg1⟩; have q0 : w1.cell? ⟨w.heap.size, 0, none⟩ = some (.int .i64 0) := hg1.cell (a := ⟨w.heap.size, 0, none⟩) (by simp) (by simp; omega); have q1 : w1.cell? ⟨w.heap.size, 1, none⟩ = some (.int .i64 0) := hg1.cell (a := ⟨w.heap.size, 1, none⟩) (by simp) (by simp; omega); have r0 : ∀ j, w1.frozen? ⟨w.heap.size, j, none⟩ = false := (fun j => by rw [World.frozen?_of_block (w := w.alloc (.cells #[.int .i64 0, .int .i64 0] 25)) (hg1.block w.heap.size (by simp) (by simp; omega)), World.frozen?_alloc_at _ _ _ _ rfl]); have HR0 : Hid (∀ j, w1.frozen? ⟨w.heap.size, j, none⟩ = false) := r0; replace HC : Hid (Cur w1 g ao n c _) := hc1; replace HG : Hid (GB g w w1) := HG.out.trans hg1; clear hc1 hg1 tok1 _t r0) | (go_at_call 66; refine (member_c g ao n c _ _ (by omega) HC.out).mono ?_; rintro e w2 ⟨y, rfl, hc1, hg1⟩; have hlt1 : w.heap.size < w1.heap.size := World.block_lt_of_cell? _ _ q0; have q0' : w2.cell? ⟨w.heap.size, 0, none⟩ = some (.int .i64 0) := hg1.cell (a := ⟨w.heap.size, 0, none⟩) q0 (by simp; omega); have q1' : w2.cell? ⟨w.heap.size, 1, none⟩ = some (.int .i64 0) := hg1.cell (a := ⟨w.heap.size, 1, none⟩) q1 (by simp; omega); have f0 : w2.frozen? ⟨w.heap.size, 0, none⟩ = false := (by rw [World.frozen?_of_block (w := w1) (hg1.block w.heap.size hlt1 (by simp; omega))]; exact HR0.out 0); have f1 : w2.frozen? ⟨w.heap.size, 1, none⟩ = false := (by rw [World.frozen?_of_block (w := w1) (hg1.block w.heap.size hlt1 (by simp; omega))]; exact HR0.out 1); replace HC : Hid (Cur w2 g ao n c _) := hc1; replace HG : Hid (GB g w w2) := HG.out.trans hg1; clear hc1 hg1 q0 q1 HR0 hlt1))
  have hB : ∀ k, some w.heap.size = some k → w.heap.size ≤ k := fun k e => by simp at e; omega
  have h1 := grown_set w2 w.heap.size 0 (.int .i64 x)
  have h2 := grown_set (w2.setCell ⟨w.heap.size, 0, none⟩ (.int .i64 x)) w.heap.size 1 (.int .i64 y)
  refine bodyPost_ret (v := .agg #[.int .i64 x, .int .i64 y]) (by simp [results, Try.results34, go_sem, q0', q1']) rfl ⟨x, y, rfl, (((HC.out.grown2 h1 hB hlt HO.out).grown2 h2 hB hlt HO.out).mono (by omega)), (HG.out.grown2 h1 hB).grown2 h2 hB⟩

end Go.Proofs.Ytobomcmjilcnaaa
