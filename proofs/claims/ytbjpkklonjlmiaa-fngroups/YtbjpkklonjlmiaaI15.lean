/- Chapter 15: lists of lists of ints: the helpers of the laws over them. -/
import Derived.Test.YtbjpkklonjlmiaaA15
import Derived.Deep.RegionWith
namespace Go.Proofs.Ytbjpkklonjlmiaa
set_option linter.unusedVariables false
set_option maxRecDepth 1000000
set_option linter.unusedSimpArgs false
open Go.RowKit


theorem Try.infoInts : (Try.prog.info? 24).map (fun i => (i.zero, i.size, i.bytes)) = some (some (.slice none 0 0), 1, 24) := by kernel_rfl

/-- The slice at address ao reads as these lists of texts. -/
def RdII (w : World) (ao : Option Addr) (xss : List (List Int)) : Prop :=
  xss = [] ∨ ∃ b off, ao = some ⟨b, off, none⟩ ∧ ∀ j, j < xss.length → ∃ ro c, w.cell? ⟨b, off + j, none⟩ = some (.slice ro (xss.getD j []).length c) ∧ Rd w ro (xss.getD j [])
theorem RdII.later {w w' : World} {ao : Option Addr} {xss : List (List Int)} (h : RdII w ao xss) (hb : Below w.heap.size w w') : RdII w' ao xss := by
  rcases h with h | ⟨b, off, he, hc⟩
  · exact Or.inl h
  · refine Or.inr ⟨b, off, he, fun j hj => ?_⟩
    obtain ⟨ro, c, h1, h2⟩ := hc j hj
    exact ⟨ro, c, by rw [hb.cell (p := ⟨b, off + j, none⟩) (World.block_lt_of_cell? w _ h1)]; exact h1, h2.later hb⟩
theorem RdII.get {w : World} {ao : Option Addr} {xss : List (List Int)} (h : RdII w ao xss) {k : Nat} (hk : k < xss.length) : ∃ b o ro c, ao = some ⟨b, o, none⟩ ∧ w.cell? ⟨b, o + k, none⟩ = some (.slice ro (xss.getD k []).length c) ∧ Rd w ro (xss.getD k []) := by
  rcases h with rfl | ⟨b, o, rfl, hc⟩
  · simp at hk
  · obtain ⟨ro, c, h1, h2⟩ := hc k hk
    exact ⟨b, o, ro, c, rfl, h1, h2⟩

def sepB (u v : Value) : Prop := u.ownBlock = none ∨ u.ownBlock ≠ v.ownBlock
def nilV : Value := .slice none 0 0
/-- A row of rows, all of the call's own, no two sharing memory. -/
def OwnII (w : World) (base : Nat) (v : Value) (xss : List (List Int)) : Prop :=
  ∃ vs : List Value, vs.length = xss.length ∧ w.ownsRow base 24 1 v xss.length vs ∧ (∀ j, j < xss.length → Own w base (vs.getD j nilV) (xss.getD j [])) ∧ ∀ i j, i < j → j < xss.length → sepB (vs.getD i nilV) (vs.getD j nilV)
theorem OwnII.rd {w : World} {base : Nat} {v : Value} {xss : List (List Int)} (h : OwnII w base v xss) : ∃ ao c, v = .slice ao xss.length c ∧ RdII w ao xss ∧ (ao = none → xss.length = 0 ∧ c = 0) := by
  obtain ⟨vs, hl, ho, hi, _⟩ := h
  rcases ho.2 with ⟨rfl, h0⟩ | ⟨g, cap, cur, rfl, _, hg, _, _, _, _⟩
  · exact ⟨none, 0, by rw [h0], Or.inl (List.length_eq_zero_iff.1 h0), fun _ => ⟨h0, rfl⟩⟩
  · refine ⟨_, _, rfl, Or.inr ⟨g, 0, rfl, fun j hj => ?_⟩, fun e => by cases e⟩
    have hc := World.ownsRow.cellAt ho j (by omega)
    obtain ⟨ro, c, hv, hr⟩ := (hi j hj).rd
    refine ⟨ro, c, ?_, hr⟩
    rw [Nat.zero_add, hc, List.getElem?_eq_getElem (by omega)]
    have e : vs.getD j nilV = vs[j]'(by omega) := by simp [List.getD, show j < vs.length by omega]
    rw [← e, hv]
theorem OwnII.rd' {w : World} {base n c : Nat} {ao : Option Addr} {xss : List (List Int)} (h : OwnII w base (.slice ao n c) xss) : RdII w ao xss := by
  obtain ⟨ao', c', h1, h2, _⟩ := h.rd
  simp only [Value.slice.injEq] at h1
  obtain ⟨rfl, _, _⟩ := h1
  exact h2
theorem rowLater {w w' : World} {base : Nat} {e : TypeId} {s n : Nat} {v : Value} {xs : List Value} (h : w.ownsRow base e s v n xs) (hb : Below w.heap.size w w') : w'.ownsRow base e s v n xs := by
  refine ⟨h.1, ?_⟩
  rcases h.2 with h2 | ⟨g, cap, cur, hv, hg, hh, r⟩
  · exact Or.inl h2
  · exact Or.inr ⟨g, cap, cur, hv, hg, by rw [hb.block g (Array.getElem?_eq_some_iff.1 hh).1]; exact hh, r⟩
theorem rowMono {w : World} {base base' : Nat} {e : TypeId} {s n : Nat} {v : Value} {xs : List Value} (h : w.ownsRow base e s v n xs) (hb : base' ≤ base) : w.ownsRow base' e s v n xs := by
  refine ⟨h.1, ?_⟩
  rcases h.2 with h2 | ⟨g, cap, cur, hv, hg, r⟩
  · exact Or.inl h2
  · exact Or.inr ⟨g, cap, cur, hv, Nat.le_trans hb hg, r⟩
theorem OwnII.later {w w' : World} {base : Nat} {v : Value} {xss : List (List Int)} (h : OwnII w base v xss) (hb : Below w.heap.size w w') : OwnII w' base v xss := by
  obtain ⟨vs, hl, ho, hi, hs⟩ := h
  exact ⟨vs, hl, rowLater ho hb, fun j hj => (hi j hj).later hb, hs⟩
theorem OwnII.mono {w : World} {base base' : Nat} {v : Value} {xss : List (List Int)} (h : OwnII w base v xss) (hb : base' ≤ base) : OwnII w base' v xss := by
  obtain ⟨vs, hl, ho, hi, hs⟩ := h
  exact ⟨vs, hl, rowMono ho hb, fun j hj => (hi j hj).mono hb, hs⟩

theorem nilOwn (w : World) (base : Nat) : Own w base nilV [] := World.ownsRow_nil _ _ _ _

theorem row_sep {w : World} {b1 b2 n : Nat} {u v : Value} {x : List Int} {vs : List Value} (h : Own w b1 u x) (k : w.ownsRow b2 24 1 v n vs) : u.ownBlock = none ∨ u.ownBlock ≠ v.ownBlock := by
  rcases h.2 with ⟨rfl, _⟩ | ⟨g, cap, cur, rfl, _, hg, _⟩
  · exact Or.inl rfl
  · rcases k.2 with ⟨rfl, _⟩ | ⟨g', cap', cur', rfl, _, hg', _⟩
    · exact Or.inr (by simp [Value.ownBlock])
    · refine Or.inr fun e => ?_
      simp only [Value.ownBlock, Option.some.injEq] at e
      subst e
      rw [hg] at hg'
      simp at hg'
/-- Nothing outside the blocks from lo up to hi has turned. -/
structure Rng (lo hi : Nat) (w w' : World) : Prop where
  os : w'.os = w.os
  tape : w'.tape = w.tape
  output : w'.output = w.output
  size : w.heap.size ≤ w'.heap.size
  block : ∀ q, q < w.heap.size → (q < lo ∨ hi ≤ q) → w'.heap[q]? = w.heap[q]?
theorem Rng.refl (lo hi : Nat) (w : World) : Rng lo hi w w := ⟨rfl, rfl, rfl, Nat.le_refl _, fun _ _ _ => rfl⟩
theorem Rng.trans {lo hi : Nat} {w a b : World} (h : Rng lo hi w a) (k : Rng lo hi a b) : Rng lo hi w b := ⟨k.os.trans h.os, k.tape.trans h.tape, k.output.trans h.output, Nat.le_trans h.size k.size, fun q hq ho => (k.block q (Nat.lt_of_lt_of_le hq h.size) ho).trans (h.block q hq ho)⟩
theorem Rng.ofGrown {lo hi : Nat} {w w' : World} {row : Option Nat} (h : w.grownBy w' row) (hr : ∀ k, row = some k → lo ≤ k ∧ k < hi) : Rng lo hi w w' := ⟨h.os, h.tape, h.output, h.size, fun q hq ho => h.block q hq (fun e => by have := hr q e.symm; omega)⟩
theorem Rng.below {lo hi B : Nat} {w w' : World} (h : Rng lo hi w w') (h1 : B ≤ lo) (h2 : B ≤ w.heap.size) : Below B w w' := ⟨h.os, h.tape, h.output, h.size, fun q hq => h.block q (by omega) (Or.inl (by omega))⟩
/-- A row of rows whose blocks lie from lo up to hi. -/
def OwnIR (w : World) (lo hi : Nat) (v : Value) (xss : List (List Int)) : Prop :=
  ∃ vs : List Value, vs.length = xss.length ∧ w.ownsRow lo 24 1 v xss.length vs ∧ (∀ j, j < xss.length → Own w lo (vs.getD j nilV) (xss.getD j [])) ∧ (∀ i j, i < j → j < xss.length → sepB (vs.getD i nilV) (vs.getD j nilV)) ∧ (∀ k, v.ownBlock = some k → k < hi) ∧ ∀ j, j < xss.length → ∀ k, (vs.getD j nilV).ownBlock = some k → k < hi
theorem OwnII.toR {w : World} {base : Nat} {v : Value} {xss : List (List Int)} (h : OwnII w base v xss) : OwnIR w base w.heap.size v xss := by
  obtain ⟨vs, hl, ho, hi, hs⟩ := h
  exact ⟨vs, hl, ho, hi, hs, fun k e => (World.ownsRow.lt ho k e).2, fun j hj k e => (World.ownsRow.lt (hi j hj) k e).2⟩
theorem OwnIR.toS {w : World} {lo hi : Nat} {v : Value} {xss : List (List Int)} (h : OwnIR w lo hi v xss) : OwnII w lo v xss := by
  obtain ⟨vs, hl, ho, hi, hs, _⟩ := h
  exact ⟨vs, hl, ho, hi, hs⟩
theorem OwnIR.later {w w' : World} {lo hi : Nat} {v : Value} {xss : List (List Int)} (h : OwnIR w lo hi v xss) (hb : Below w.heap.size w w') : OwnIR w' lo hi v xss := by
  obtain ⟨vs, hl, ho, hi, hs, h1, h2⟩ := h
  exact ⟨vs, hl, rowLater ho hb, fun j hj => (hi j hj).later hb, hs, h1, h2⟩
theorem OwnIR.rng {w w' : World} {lo hi lo2 hi2 : Nat} {v : Value} {xss : List (List Int)} (h : OwnIR w lo hi v xss) (hr : Rng lo2 hi2 w w') (hd : hi ≤ lo2 ∨ hi2 ≤ lo) : OwnIR w' lo hi v xss := by
  obtain ⟨vs, hl, ho, hin, hs, h1, h2⟩ := h
  have hg : ∀ g, lo ≤ g → g < hi → g < w.heap.size → w'.heap[g]? = w.heap[g]? := fun g a b c => hr.block g c (by omega)
  refine ⟨vs, hl, ?_, fun j hj => ?_, hs, h1, h2⟩
  · refine ⟨ho.1, ?_⟩
    rcases ho.2 with h0 | ⟨g, cap, cur, hv, hlo, hh, r⟩
    · exact Or.inl h0
    · exact Or.inr ⟨g, cap, cur, hv, hlo, by rw [hg g hlo (h1 g (by rw [hv]; rfl)) (Array.getElem?_eq_some_iff.1 hh).1]; exact hh, r⟩
  · refine ⟨(hin j hj).1, ?_⟩
    rcases (hin j hj).2 with h0 | ⟨g, cap, cur, hv, hlo, hh, r⟩
    · exact Or.inl h0
    · exact Or.inr ⟨g, cap, cur, hv, hlo, by rw [hg g hlo (h2 j hj g (by rw [hv]; rfl)) (Array.getElem?_eq_some_iff.1 hh).1]; exact hh, r⟩

/-- How many texts stand ahead of row j. -/
def cum (xss : List (List Int)) (j : Nat) : Nat := ((xss.take j).map List.length).sum
theorem cum_succ {xss : List (List Int)} {j : Nat} (h : j < xss.length) : cum xss (j + 1) = cum xss j + (xss.getD j []).length := by
  unfold cum
  rw [take_snoc [] h, List.map_append, List.sum_append]; simp
theorem cum_le {xss : List (List Int)} {M : Nat} (hl : ∀ l ∈ xss, l.length ≤ M) : ∀ j, j ≤ xss.length → cum xss j ≤ j * M
  | 0, _ => by simp [cum]
  | j + 1, h => by
    have h1 := cum_le hl j (by omega)
    have h2 := hl _ (mem_getD [] (show j < xss.length by omega))
    rw [cum_succ (show j < xss.length by omega), Nat.add_mul]; omega
/-- All rows marked, from 1 on. -/
def markL (xss : List (List Int)) : List (List Int) := (List.range xss.length).map fun j => marks (1 + (cum xss j : Nat)) (xss.getD j []).length
theorem markL_length (xss : List (List Int)) : (markL xss).length = xss.length := by simp [markL]
theorem markL_getD {xss : List (List Int)} {j : Nat} (h : j < xss.length) : (markL xss).getD j [] = marks (1 + (cum xss j : Nat)) (xss.getD j []).length := by simp [markL, List.getD, h]

end Go.Proofs.Ytbjpkklonjlmiaa
