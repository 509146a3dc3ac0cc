/- Chapter 13: a box of a board lies apart from every row, by its type. -/
import Derived.Test.YtaokmjbhgkfnfaaSO13s
namespace Go.Proofs.Ytaokmjbhgkfnfaa
set_option linter.unusedVariables false
set_option maxRecDepth 1000000
set_option linter.unusedSimpArgs false
open Go.RowKit

/-- A block that holds neither ints nor rows of ints. -/
def BoxT (w : World) (g : Nat) : Prop := ∃ c t fr, w.heap[g]? = some (.cells c t fr) ∧ t ≠ 3 ∧ t ≠ 23
theorem BoxT.new (w : World) (c : Array Value) {t : TypeId} (h1 : t ≠ 3) (h2 : t ≠ 23) : BoxT (w.alloc (.cells c t)) w.heap.size :=
  ⟨c, t, (0, 0), by show (w.heap.push _)[w.heap.size]? = _; simp, h1, h2⟩
theorem BoxT.lt {w : World} {g : Nat} (h : BoxT w g) : g < w.heap.size := by
  obtain ⟨c, t, fr, hh, _⟩ := h
  exact (Array.getElem?_eq_some_iff.1 hh).1
theorem BoxT.rngP {pp : Nat → Prop} {w w' : World} {g : Nat} (h : BoxT w g) (hr : RngP pp w w') (hd : ¬ pp g) : BoxT w' g := by
  have hlt := h.lt
  obtain ⟨c, t, fr, hh, h1, h2⟩ := h
  exact ⟨c, t, fr, by rw [hr.block g hlt hd]; exact hh, h1, h2⟩
theorem BoxT.later {w w' : World} {g : Nat} (h : BoxT w g) (hb : Below w.heap.size w w') : BoxT w' g :=
  h.rngP (pp := fun _ => False) (below_toP hb) (fun h => h)
theorem BoxT.set {w : World} {g : Nat} (h : BoxT w g) (r j : Nat) (u : Value) : BoxT (w.setCell ⟨r, j, none⟩ u) g := by
  obtain ⟨c, t, fr, hh, h1, h2⟩ := h
  by_cases e : r = g
  · subst e
    refine ⟨c.setIfInBounds j u, t, fr, ?_, h1, h2⟩
    show (w.heap.modify r _)[r]? = _
    rw [Array.getElem?_modify, if_pos rfl, hh]
    rfl
  · refine ⟨c, t, fr, ?_, h1, h2⟩
    show (w.heap.modify r _)[g]? = _
    rw [Array.getElem?_modify, if_neg e, hh]
theorem row_box {w : World} {lo n : Nat} {t : TypeId} {v : Value} {xs : List Value} (h : w.ownsRow lo t 1 v n xs) {g : Nat} (hg : BoxT w g) (ht : t = 3 ∨ t = 23) : v.ownBlock ≠ some g := by
  obtain ⟨c, t', fr, hh, h1, h2⟩ := hg
  rcases h.2 with ⟨rfl, _⟩ | ⟨k, cap, cur, rfl, _, hk, _⟩
  · simp [Value.ownBlock]
  · intro e
    simp only [Value.ownBlock, Option.some.injEq] at e
    subst e
    rw [hk] at hh
    simp only [Option.some.injEq, Obj.cells.injEq] at hh
    rcases ht with rfl | rfl
    · exact h1 hh.2.1.symm
    · exact h2 hh.2.1.symm
theorem OwnBd.box {w : World} {lo hi : Nat} {S L T : Value} {b : BdV} (h : OwnBd w lo hi S L T b) {g : Nat} (hg : BoxT w g) (j : Nat) (u : Value) : OwnBd (w.setCell ⟨g, j, none⟩ u) lo hi S L T b := by
  obtain ⟨pp, h1, h2, h3, h4⟩ := h.ex
  have h1' : OwnIP w lo (fun k => pp k ∧ k ≠ g) S b.sg := by
    obtain ⟨vs, hl, ho, hin, hs, a1, a2⟩ := h1
    exact ⟨vs, hl, ho, hin, hs, fun k e => ⟨a1 k e, fun e2 => row_box ho hg (Or.inr rfl) (by rw [e, e2])⟩, fun i hi' k e => ⟨a2 i hi' k e, fun e2 => row_box (hin i hi') hg (Or.inl rfl) (by rw [e, e2])⟩⟩
  have hs : ∀ {v : Value} {xs : List Int}, Own w lo v xs → v.ownBlock = none ∨ v.ownBlock ≠ some g := fun hv => Or.inr (row_box hv hg (Or.inl rfl))
  exact ⟨⟨fun k => pp k ∧ k ≠ g, h1'.setBox (fun hh => hh.2 rfl) u, fun k hk => h2 k hk.1, fun k hk => ⟨fun hh => (h3 k hk).1 hh.1, (h3 k hk).2⟩, fun k hk => ⟨fun hh => (h4 k hk).1 hh.1, (h4 k hk).2⟩⟩, h.li.kept (grown_setCell _ _ _ _) (hs h.li), h.ls.kept (grown_setCell _ _ _ _) (hs h.ls), h.sep⟩
/-- What of a board is read by those who copy it. -/
structure ReadB (w : World) (sa : Option Addr) (sn sc : Nat) (la : Option Addr) (ln lc : Nat) (ta : Option Addr) (tn tc : Nat) (b : BdV) : Prop where
  rd : RdBd w sa sn sc la ln lc ta tn tc b
  nn : RdNN w sa b.sg
theorem ReadB.later {w w' : World} {sa : Option Addr} {sn sc : Nat} {la : Option Addr} {ln lc : Nat} {ta : Option Addr} {tn tc : Nat} {b : BdV} (h : ReadB w sa sn sc la ln lc ta tn tc b) (hb : Below w.heap.size w w') : ReadB w' sa sn sc la ln lc ta tn tc b := ⟨h.rd.later hb, h.nn.later hb⟩
theorem OwnBd.read {w : World} {lo hi : Nat} {sa : Option Addr} {sn sc : Nat} {la : Option Addr} {ln lc : Nat} {ta : Option Addr} {tn tc : Nat} {b : BdV} (h : OwnBd w lo hi (.slice sa sn sc) (.slice la ln lc) (.slice ta tn tc) b) : ReadB w sa sn sc la ln lc ta tn tc b := by
  refine ⟨h.rd, ?_⟩
  obtain ⟨pp, h1, _⟩ := h.ex
  obtain ⟨vs, hvl, ho, _⟩ := id h1
  obtain rfl : b.sg.length = sn := h.rd.sl
  exact h1.nn
/-- A copy of a board that is read, fit for a step. -/
theorem own_read (w : World) (sa : Option Addr) (sn sc : Nat) (la : Option Addr) (ln lc : Nat) (ta : Option Addr) (tn tc : Nat) (b : BdV) (hg : goodBd b = true) (h : ReadB w sa sn sc la ln lc ta tn tc b) :
    Calls Try.prog 55 #[.agg #[.int .i64 b.f, .int .i64 b.e, .slice sa sn sc, .slice la ln lc, .slice ta tn tc]] w fun x w' => ∃ sa' sc' la' lc' ta' tc', x = .returned (.agg #[.int .i64 b.f, .int .i64 b.e, .slice sa' sn sc', .slice la' ln lc', .slice ta' tn tc']) ∧ OwnBd w' w.heap.size w'.heap.size (.slice sa' sn sc') (.slice la' ln lc') (.slice ta' tn tc') b ∧ Below w.heap.size w w' := by
  obtain ⟨f, e, sg, li, ls⟩ := b
  have F := good_few hg
  exact l13Own_c f e sa sn sc la ln lc ta tn tc sg li ls w h.rd.sl (by have := F.s; have := h.rd.sl; simp only at *; omega) h.rd.ll (by have := F.l; have := h.rd.ll; simp only at *; omega) h.rd.tl (by have := F.t; have := h.rd.tl; simp only at *; omega) h.nn h.rd.l h.rd.t (fun l hl => by rw [F.z l hl]; omega) h.rd.lz h.rd.tz

end Go.Proofs.Ytaokmjbhgkfnfaa
