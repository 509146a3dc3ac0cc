/- Chapter 13: lists of lists of ints: copied, sized, marked. -/
import Derived.Test.YtaokmjbhgkfnfaaS13q
import Derived.Test.YtaokmjbhgkfnfaaP13q
namespace Go.Proofs.Ytaokmjbhgkfnfaa
set_option linter.unusedVariables false
set_option maxRecDepth 1000000
set_option linter.unusedSimpArgs false
open Go.RowKit

structure RngP (pp : Nat → Prop) (w w' : World) : Prop where
 os : w'.os = w.os
 tape : w'.tape = w.tape
 output : w'.output = w.output
 size : w.heap.size ≤ w'.heap.size
 block : ∀ q, q < w.heap.size → ¬ pp q → w'.heap[q]? = w.heap[q]?
theorem RngP.refl (pp : Nat → Prop) (w : World) : RngP pp w w := ⟨rfl, rfl, rfl, Nat.le_refl _, fun _ _ _ => rfl⟩
theorem RngP.trans {pp : Nat → Prop} {w a b : World} (h : RngP pp w a) (k : RngP pp a b) : RngP pp w b := ⟨k.os.trans h.os, k.tape.trans h.tape, k.output.trans h.output, Nat.le_trans h.size k.size, fun q hq ho => (k.block q (Nat.lt_of_lt_of_le hq h.size) ho).trans (h.block q hq ho)⟩
theorem RngP.ofGrown {pp : Nat → Prop} {w w' : World} {row : Option Nat} (h : w.grownBy w' row) (hr : ∀ k, row = some k → pp k) : RngP pp w w' := ⟨h.os, h.tape, h.output, h.size, fun q hq ho => h.block q hq (fun e => ho (hr q e.symm))⟩
theorem RngP.below {pp : Nat → Prop} {B : Nat} {w w' : World} (h : RngP pp w w') (h1 : ∀ k, pp k → B ≤ k) (h2 : B ≤ w.heap.size) : Below B w w' := ⟨h.os, h.tape, h.output, h.size, fun q hq => h.block q (by omega) (fun e => by have := h1 q e; omega)⟩
theorem RngP.imp {pp qq : Nat → Prop} {w w' : World} (h : RngP pp w w') (hi : ∀ k, pp k → qq k) : RngP qq w w' := ⟨h.os, h.tape, h.output, h.size, fun q hq ho => h.block q hq (fun e => ho (hi q e))⟩
theorem row_rngP {pp : Nat → Prop} {w w' : World} {lo : Nat} {e : TypeId} {n : Nat} {v : Value} {xs : List Value} (h : w.ownsRow lo e 1 v n xs) (hr : RngP pp w w') (hd : ∀ k, v.ownBlock = some k → ¬ pp k) : w'.ownsRow lo e 1 v n xs := by
 refine ⟨h.1, ?_⟩
 rcases h.2 with h0 | ⟨g, cap, cur, hv, hlo, hh, r⟩
 ·exact Or.inl h0
 ·exact Or.inr ⟨g, cap, cur, hv, hlo, by rw [hr.block g (Array.getElem?_eq_some_iff.1 hh).1 (hd g (by rw [hv]; rfl))]; exact hh, r⟩
theorem Own.rngP {pp : Nat → Prop} {w w' : World} {lo : Nat} {v : Value} {xs : List Int} (h : Own w lo v xs) (hr : RngP pp w w') (hd : ∀ k, v.ownBlock = some k → ¬ pp k) : Own w' lo v xs := row_rngP h hr hd
def OwnIP (w : World) (lo : Nat) (pp : Nat → Prop) (v : Value) (xss : List (List Int)) : Prop :=
 ∃ vs : List Value, vs.length = xss.length ∧ w.ownsRow lo 23 1 v xss.length vs ∧ (∀ j, j < xss.length → Own w lo (vs.getD j nilV) (xss.getD j [])) ∧ (∀ i j, i < j → j < xss.length → sepB (vs.getD i nilV) (vs.getD j nilV)) ∧ (∀ k, v.ownBlock = some k → pp k) ∧ ∀ j, j < xss.length → ∀ k, (vs.getD j nilV).ownBlock = some k → pp k
theorem OwnIP.toS {w : World} {lo : Nat} {pp : Nat → Prop} {v : Value} {xss : List (List Int)} (h : OwnIP w lo pp v xss) : OwnII w lo v xss := by
 obtain ⟨vs, hl, ho, hi, hs, _⟩ := h
 exact ⟨vs, hl, ho, hi, hs⟩
theorem OwnIP.later {w w' : World} {lo : Nat} {pp : Nat → Prop} {v : Value} {xss : List (List Int)} (h : OwnIP w lo pp v xss) (hb : Below w.heap.size w w') : OwnIP w' lo pp v xss := by
 obtain ⟨vs, hl, ho, hi, hs, h1, h2⟩ := h
 exact ⟨vs, hl, rowLater ho hb, fun j hj => (hi j hj).later hb, hs, h1, h2⟩
theorem OwnIP.mono {w : World} {lo lo' : Nat} {pp qq : Nat → Prop} {v : Value} {xss : List (List Int)} (h : OwnIP w lo pp v xss) (hl : lo' ≤ lo) (hi : ∀ k, pp k → qq k) : OwnIP w lo' qq v xss := by
 obtain ⟨vs, hl', ho, hi', hs, h1, h2⟩ := h
 exact ⟨vs, hl', rowMono ho hl, fun j hj => (hi' j hj).mono hl, hs, fun k e => hi k (h1 k e), fun j hj k e => hi k (h2 j hj k e)⟩
theorem OwnIP.rng {w w' : World} {lo : Nat} {pp qq : Nat → Prop} {v : Value} {xss : List (List Int)} (h : OwnIP w lo pp v xss) (hr : RngP qq w w') (hd : ∀ k, pp k → ¬ qq k) : OwnIP w' lo pp v xss := by
 obtain ⟨vs, hl, ho, hin, hs, h1, h2⟩ := h
 exact ⟨vs, hl, row_rngP ho hr (fun k e => hd k (h1 k e)), fun j hj => (hin j hj).rngP hr (fun k e => hd k (h2 j hj k e)), hs, h1, h2⟩
theorem Own.setBox {w : World} {lo : Nat} {v : Value} {xs : List Int} (h : Own w lo v xs) {r j : Nat} (hr : r < lo) (u : Value) : Own (w.setCell ⟨r, j, none⟩ u) lo v xs := by
 refine h.kept (grown_setCell w r j u) ?_
 cases hb : v.ownBlock with
 | none => exact Or.inl rfl
 | some k => exact Or.inr (fun e => by have := own_block_ge h k hb; simp only [Option.some.injEq] at e; omega)

end Go.Proofs.Ytaokmjbhgkfnfaa
namespace Go.Proofs.Ytaokmjbhgkfnfaa
set_option linter.unusedVariables false
set_option maxRecDepth 1000000
set_option linter.unusedSimpArgs false
open Go.RowKit

theorem OwnIP.setBox {w : World} {lo : Nat} {pp : Nat → Prop} {v : Value} {xss : List (List Int)} (h : OwnIP w lo pp v xss) {r j : Nat} (hr : ¬ pp r) (u : Value) : OwnIP (w.setCell ⟨r, j, none⟩ u) lo pp v xss :=
 h.rng (qq := fun k => k = r) (RngP.ofGrown (grown_setCell w r j u) (fun k e => by simpa using e.symm)) (fun k hk e => hr (e ▸ hk))

structure OwnBd (w : World) (lo hi : Nat) (S L T : Value) (b : BdV) : Prop where
 ex : ∃ pp : Nat → Prop, OwnIP w lo pp S b.sg ∧ (∀ k, pp k → lo ≤ k ∧ k < hi) ∧ (∀ k, L.ownBlock = some k → ¬ pp k ∧ k < hi) ∧ ∀ k, T.ownBlock = some k → ¬ pp k ∧ k < hi
 li : Own w lo L b.li
 ls : Own w lo T b.ls
 sep : L.ownBlock = none ∨ L.ownBlock ≠ T.ownBlock
theorem OwnBd.later {w w' : World} {lo hi : Nat} {S L T : Value} {b : BdV} (h : OwnBd w lo hi S L T b) (hb : Below w.heap.size w w') : OwnBd w' lo hi S L T b := by
 obtain ⟨pp, h1, h2, h3, h4⟩ := h.ex
 exact ⟨⟨pp, h1.later hb, h2, h3, h4⟩, h.li.later hb, h.ls.later hb, h.sep⟩
theorem OwnBd.rng {w w' : World} {lo hi : Nat} {qq : Nat → Prop} {S L T : Value} {b : BdV} (h : OwnBd w lo hi S L T b) (hr : RngP qq w w') (hd : ∀ k, lo ≤ k → k < hi → ¬ qq k) : OwnBd w' lo hi S L T b := by
 obtain ⟨pp, h1, h2, h3, h4⟩ := h.ex
 exact ⟨⟨pp, h1.rng hr (fun k hk => hd k (h2 k hk).1 (h2 k hk).2), h2, h3, h4⟩, h.li.rngP hr (fun k e => hd k (own_block_ge h.li k e) (h3 k e).2), h.ls.rngP hr (fun k e => hd k (own_block_ge h.ls k e) (h4 k e).2), h.sep⟩
theorem OwnBd.mono {w : World} {lo hi lo' hi' : Nat} {S L T : Value} {b : BdV} (h : OwnBd w lo hi S L T b) (h1 : lo' ≤ lo) (h2 : hi ≤ hi') : OwnBd w lo' hi' S L T b := by
 obtain ⟨pp, g1, g2, g3, g4⟩ := h.ex
 exact ⟨⟨pp, g1.mono h1 (fun _ h => h), fun k hk => by have := g2 k hk; omega, fun k e => ⟨(g3 k e).1, by have := (g3 k e).2; omega⟩, fun k e => ⟨(g4 k e).1, by have := (g4 k e).2; omega⟩⟩, h.li.mono h1, h.ls.mono h1, h.sep⟩
structure RdBd (w : World) (sa : Option Addr) (sn sc : Nat) (la : Option Addr) (ln lc : Nat) (ta : Option Addr) (tn tc : Nat) (b : BdV) : Prop where
 sl : b.sg.length = sn
 ll : b.li.length = ln
 tl : b.ls.length = tn
 s : RdII w sa b.sg
 l : Rd w la b.li
 t : Rd w ta b.ls
 cp : sn ≤ sc
 sz : sa = none → sn = 0 ∧ sc = 0
 lz : la = none → ln = 0 ∧ lc = 0
 tz : ta = none → tn = 0 ∧ tc = 0
theorem RdBd.later {w w' : World} {sa : Option Addr} {sn sc : Nat} {la : Option Addr} {ln lc : Nat} {ta : Option Addr} {tn tc : Nat} {b : BdV} (h : RdBd w sa sn sc la ln lc ta tn tc b) (hb : Below w.heap.size w w') : RdBd w' sa sn sc la ln lc ta tn tc b := ⟨h.sl, h.ll, h.tl, h.s.later hb, h.l.later hb, h.t.later hb, h.cp, h.sz, h.lz, h.tz⟩
theorem OwnBd.rd {w : World} {lo hi : Nat} {sa : Option Addr} {sn sc : Nat} {la : Option Addr} {ln lc : Nat} {ta : Option Addr} {tn tc : Nat} {b : BdV} (h : OwnBd w lo hi (.slice sa sn sc) (.slice la ln lc) (.slice ta tn tc) b) : RdBd w sa sn sc la ln lc ta tn tc b := by
 obtain ⟨pp, h1, _, _, _⟩ := h.ex
 obtain ⟨ao, c, e1, e2, e3⟩ := h1.toS.rd
 simp only [Value.slice.injEq] at e1
 obtain ⟨rfl, rfl, rfl⟩ := e1
 obtain ⟨vs, hvl, ho, _⟩ := h1
 have hc : b.sg.length ≤ sc := by
  rcases ho.2 with ⟨h0, hz⟩ | ⟨g, cap, cur, hv, _, _, hcm, _⟩
  ·omega
  ·simp only [Value.slice.injEq] at hv
   obtain ⟨_, _, rfl⟩ := hv
   exact hcm
 exact ⟨rfl, h.li.rd'.1, h.ls.rd'.1, e2, h.li.rd'.2, h.ls.rd'.2, hc, e3, h.li.nil, h.ls.nil⟩
theorem OwnBd.form {w : World} {lo hi : Nat} {S L T : Value} {b : BdV} (h : OwnBd w lo hi S L T b) : ∃ sa sc la lc ta tc, S = .slice sa b.sg.length sc ∧ L = .slice la b.li.length lc ∧ T = .slice ta b.ls.length tc := by
 obtain ⟨pp, h1, _, _, _⟩ := h.ex
 obtain ⟨ao, c, e1, _, _⟩ := h1.toS.rd
 obtain ⟨la, lc, e2⟩ := h.li.shape
 obtain ⟨ta, tc, e3⟩ := h.ls.shape
 exact ⟨ao, c, la, lc, ta, tc, e1, e2, e3⟩

end Go.Proofs.Ytaokmjbhgkfnfaa
namespace Go.Proofs.Ytaokmjbhgkfnfaa
set_option linter.unusedVariables false
set_option maxRecDepth 1000000
set_option linter.unusedSimpArgs false
open Go.RowKit

structure SmallBd (b : BdV) : Prop where
 s : b.sg.length ≤ 1048576
 l : b.li.length ≤ 1048576
 t : b.ls.length ≤ 1048576
 r : ∀ l ∈ b.sg, l.length ≤ 1048576

theorem X5.rngP {pp : Nat → Prop} {w w' : World} {r : Nat} {a b c d e : Value} (h : X5 w r a b c d e) (hr : RngP pp w w') (hd : ¬ pp r) : X5 w' r a b c d e := by
 have e0 := hr.block r h.lt hd
 obtain ⟨⟨c0, c1, c2, c3, c4⟩, f⟩ := h
 refine ⟨⟨?_, ?_, ?_, ?_, ?_⟩, fun j => ?_⟩
 ·rw [World.cell?_of_block (w := w) (a := ⟨r, 0, none⟩) e0]; exact c0
 ·rw [World.cell?_of_block (w := w) (a := ⟨r, 1, none⟩) e0]; exact c1
 ·rw [World.cell?_of_block (w := w) (a := ⟨r, 2, none⟩) e0]; exact c2
 ·rw [World.cell?_of_block (w := w) (a := ⟨r, 3, none⟩) e0]; exact c3
 ·rw [World.cell?_of_block (w := w) (a := ⟨r, 4, none⟩) e0]; exact c4
 ·rw [World.frozen?_of_block (w := w) (a := ⟨r, j, none⟩) e0]; exact f j
end Go.Proofs.Ytaokmjbhgkfnfaa
