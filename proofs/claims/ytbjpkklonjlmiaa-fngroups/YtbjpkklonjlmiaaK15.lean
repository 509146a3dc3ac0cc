/- Chapter 15: lists of lists of ints: copied, sized, marked. -/
import Derived.Test.YtbjpkklonjlmiaaI15
namespace Go.Proofs.Ytbjpkklonjlmiaa
set_option linter.unusedVariables false
set_option maxRecDepth 1000000
set_option linter.unusedSimpArgs false
open Go.RowKit

/-- Nothing but blocks of pp has turned. -/
structure RngP (pp : Nat → Prop) (w w' : World) : Prop where
  os : w'.os = w.os
  tape : w'.tape = w.tape
  output : w'.output = w.output
  size : w.heap.size ≤ w'.heap.size
  block : ∀ q, q < w.heap.size → ¬ pp q → w'.heap[q]? = w.heap[q]?
theorem RngP.refl (pp : Nat → Prop) (w : World) : RngP pp w w := ⟨rfl, rfl, rfl, Nat.le_refl _, fun _ _ _ => rfl⟩
theorem RngP.trans {pp : Nat → Prop} {w a b : World} (h : RngP pp w a) (k : RngP pp a b) : RngP pp w b := ⟨k.os.trans h.os, k.tape.trans h.tape, k.output.trans h.output, Nat.le_trans h.size k.size, fun q hq ho => (k.block q (Nat.lt_of_lt_of_le hq h.size) ho).trans (h.block q hq ho)⟩
theorem RngP.ofGrown {pp : Nat → Prop} {w w' : World} {row : Option Nat} (h : w.grownBy w' row) (hr : ∀ k, row = some k → pp k) : RngP pp w w' := ⟨h.os, h.tape, h.output, h.size, fun q hq ho => h.block q hq (fun e => ho (hr q e.symm))⟩
theorem RngP.below {pp : Nat → Prop} {B : Nat} {w w' : World} (h : RngP pp w w') (h1 : ∀ k, pp k → B ≤ k) (h2 : B ≤ w.heap.size) : Below B w w' := ⟨h.os, h.tape, h.output, h.size, fun q hq => h.block q (by omega) (fun e => by have := h1 q e; omega)⟩
theorem RngP.imp {pp qq : Nat → Prop} {w w' : World} (h : RngP pp w w') (hi : ∀ k, pp k → qq k) : RngP qq w w' := ⟨h.os, h.tape, h.output, h.size, fun q hq ho => h.block q hq (fun e => ho (hi q e))⟩
theorem row_rngP {pp : Nat → Prop} {w w' : World} {lo : Nat} {e : TypeId} {n : Nat} {v : Value} {xs : List Value} (h : w.ownsRow lo e 1 v n xs) (hr : RngP pp w w') (hd : ∀ k, v.ownBlock = some k → ¬ pp k) : w'.ownsRow lo e 1 v n xs := by
  refine ⟨h.1, ?_⟩
  rcases h.2 with h0 | ⟨g, cap, cur, hv, hlo, hh, r⟩
  · exact Or.inl h0
  · exact Or.inr ⟨g, cap, cur, hv, hlo, by rw [hr.block g (Array.getElem?_eq_some_iff.1 hh).1 (hd g (by rw [hv]; rfl))]; exact hh, r⟩
theorem Own.rngP {pp : Nat → Prop} {w w' : World} {lo : Nat} {v : Value} {xs : List Int} (h : Own w lo v xs) (hr : RngP pp w w') (hd : ∀ k, v.ownBlock = some k → ¬ pp k) : Own w' lo v xs := row_rngP h hr hd
/-- A row of rows whose blocks are of pp. -/
def OwnIP (w : World) (lo : Nat) (pp : Nat → Prop) (v : Value) (xss : List (List Int)) : Prop :=
  ∃ vs : List Value, vs.length = xss.length ∧ w.ownsRow lo 24 1 v xss.length vs ∧ (∀ j, j < xss.length → Own w lo (vs.getD j nilV) (xss.getD j [])) ∧ (∀ i j, i < j → j < xss.length → sepB (vs.getD i nilV) (vs.getD j nilV)) ∧ (∀ k, v.ownBlock = some k → pp k) ∧ ∀ j, j < xss.length → ∀ k, (vs.getD j nilV).ownBlock = some k → pp k
theorem OwnII.toP {w : World} {base : Nat} {v : Value} {xss : List (List Int)} (h : OwnII w base v xss) : OwnIP w base (fun k => base ≤ k ∧ k < w.heap.size) v xss := by
  obtain ⟨vs, hl, ho, hi, hs⟩ := h
  exact ⟨vs, hl, ho, hi, hs, fun k e => World.ownsRow.lt ho k e, fun j hj k e => World.ownsRow.lt (hi j hj) k e⟩
theorem OwnIP.toS {w : World} {lo : Nat} {pp : Nat → Prop} {v : Value} {xss : List (List Int)} (h : OwnIP w lo pp v xss) : OwnII w lo v xss := by
  obtain ⟨vs, hl, ho, hi, hs, _⟩ := h
  exact ⟨vs, hl, ho, hi, hs⟩
theorem OwnIP.later {w w' : World} {lo : Nat} {pp : Nat → Prop} {v : Value} {xss : List (List Int)} (h : OwnIP w lo pp v xss) (hb : Below w.heap.size w w') : OwnIP w' lo pp v xss := by
  obtain ⟨vs, hl, ho, hi, hs, h1, h2⟩ := h
  exact ⟨vs, hl, rowLater ho hb, fun j hj => (hi j hj).later hb, hs, h1, h2⟩
theorem OwnIP.mono {w : World} {lo lo' : Nat} {pp qq : Nat → Prop} {v : Value} {xss : List (List Int)} (h : OwnIP w lo pp v xss) (hl : lo' ≤ lo) (hi : ∀ k, pp k → qq k) : OwnIP w lo' qq v xss := by
  obtain ⟨vs, hl', ho, hi', hs, h1, h2⟩ := h
  exact ⟨vs, hl', rowMono ho hl, fun j hj => (hi' j hj).mono hl, hs, fun k e => hi k (h1 k e), fun j hj k e => hi k (h2 j hj k e)⟩
theorem OwnIP.rng {w w' : World} {lo : Nat} {pp qq : Nat → Prop} {v : Value} {xss : List (List Int)} (h : OwnIP w lo pp v xss) (hr : RngP qq w w') (hd : ∀ k, pp k → ¬ qq k) : OwnIP w' lo pp v xss := by
  obtain ⟨vs, hl, ho, hin, hs, h1, h2⟩ := h
  exact ⟨vs, hl, row_rngP ho hr (fun k e => hd k (h1 k e)), fun j hj => (hin j hj).rngP hr (fun k e => hd k (h2 j hj k e)), hs, h1, h2⟩
theorem Own.setBox {w : World} {lo : Nat} {v : Value} {xs : List Int} (h : Own w lo v xs) {r j : Nat} (hr : r < lo) (u : Value) : Own (w.setCell ⟨r, j, none⟩ u) lo v xs := by
  refine h.kept (grown_setCell w r j u) ?_
  cases hb : v.ownBlock with
  | none => exact Or.inl rfl
  | some k => exact Or.inr (fun e => by have := own_block_ge h k hb; simp only [Option.some.injEq] at e; omega)

end Go.Proofs.Ytbjpkklonjlmiaa
