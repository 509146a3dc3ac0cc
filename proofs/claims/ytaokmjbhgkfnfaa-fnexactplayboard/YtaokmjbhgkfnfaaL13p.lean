/- Chapter 13: the laws' own functions over a board. -/
import Derived.Test.YtaokmjbhgkfnfaaK13p
import Derived.Test.YtaokmjbhgkfnfaaP13p
namespace Go.Proofs.Ytaokmjbhgkfnfaa
set_option linter.unusedVariables false
set_option maxRecDepth 1000000
set_option linter.unusedSimpArgs false
open Go.RowKit

theorem OwnIP.setBox {w : World} {lo : Nat} {pp : Nat → Prop} {v : Value} {xss : List (List Int)} (h : OwnIP w lo pp v xss) {r j : Nat} (hr : ¬ pp r) (u : Value) : OwnIP (w.setCell ⟨r, j, none⟩ u) lo pp v xss :=
  h.rng (qq := fun k => k = r) (RngP.ofGrown (grown_setCell w r j u) (fun k e => by simpa using e.symm)) (fun k hk e => hr (e ▸ hk))

/-- A board of the call's own: its rows lie from lo up to hi, none of them shared. -/
structure OwnBd (w : World) (lo hi : Nat) (S L T : Value) (b : BdV) : Prop where
  ex : ∃ pp : Nat → Prop, OwnIP w lo pp S b.sg ∧ (∀ k, pp k → lo ≤ k ∧ k < hi) ∧ (∀ k, L.ownBlock = some k → ¬ pp k ∧ k < hi) ∧ ∀ k, T.ownBlock = some k → ¬ pp k ∧ k < hi
  li : Own w lo L b.li
  ls : Own w lo T b.ls
  sep : L.ownBlock = none ∨ L.ownBlock ≠ T.ownBlock
theorem OwnBd.later {w w' : World} {lo hi : Nat} {S L T : Value} {b : BdV} (h : OwnBd w lo hi S L T b) (hb : Below w.heap.size w w') : OwnBd w' lo hi S L T b := by
  obtain ⟨pp, h1, h2, h3, h4⟩ := h.ex
  exact ⟨⟨pp, h1.later hb, h2, h3, h4⟩, h.li.later hb, h.ls.later hb, h.sep⟩
theorem OwnBd.rng {w w' : World} {lo hi : Nat} {qq : Nat → Prop} {S L T : Value} {b : BdV} (h : OwnBd w lo hi S L T b) (hr : RngP qq w w') (hd : ∀ k, lo ≤ k → k < hi → ¬ qq k) : OwnBd w' lo hi S L T b := by
  obtain ⟨pp, h1, h2, h3, h4⟩ := h.ex
  exact ⟨⟨pp, h1.rng hr (fun k hk => hd k (h2 k hk).1 (h2 k hk).2), h2, h3, h4⟩, h.li.rngP hr (fun k e => hd k (own_block_ge h.li k e) (h3 k e).2), h.ls.rngP hr (fun k e => hd k (own_block_ge h.ls k e) (h4 k e).2), h.sep⟩
theorem OwnBd.mono {w : World} {lo hi lo' hi' : Nat} {S L T : Value} {b : BdV} (h : OwnBd w lo hi S L T b) (h1 : lo' ≤ lo) (h2 : hi ≤ hi') : OwnBd w lo' hi' S L T b := by
  obtain ⟨pp, g1, g2, g3, g4⟩ := h.ex
  exact ⟨⟨pp, g1.mono h1 (fun _ h => h), fun k hk => by have := g2 k hk; omega, fun k e => ⟨(g3 k e).1, by have := (g3 k e).2; omega⟩, fun k e => ⟨(g4 k e).1, by have := (g4 k e).2; omega⟩⟩, h.li.mono h1, h.ls.mono h1, h.sep⟩
/-- What of a board is read. -/
structure RdBd (w : World) (sa : Option Addr) (sn sc : Nat) (la : Option Addr) (ln lc : Nat) (ta : Option Addr) (tn tc : Nat) (b : BdV) : Prop where
  sl : b.sg.length = sn
  ll : b.li.length = ln
  tl : b.ls.length = tn
  s : RdII w sa b.sg
  l : Rd w la b.li
  t : Rd w ta b.ls
  cp : sn ≤ sc
  sz : sa = none → sn = 0 ∧ sc = 0
  lz : la = none → ln = 0 ∧ lc = 0
  tz : ta = none → tn = 0 ∧ tc = 0
theorem RdBd.later {w w' : World} {sa : Option Addr} {sn sc : Nat} {la : Option Addr} {ln lc : Nat} {ta : Option Addr} {tn tc : Nat} {b : BdV} (h : RdBd w sa sn sc la ln lc ta tn tc b) (hb : Below w.heap.size w w') : RdBd w' sa sn sc la ln lc ta tn tc b := ⟨h.sl, h.ll, h.tl, h.s.later hb, h.l.later hb, h.t.later hb, h.cp, h.sz, h.lz, h.tz⟩
theorem OwnBd.rd {w : World} {lo hi : Nat} {sa : Option Addr} {sn sc : Nat} {la : Option Addr} {ln lc : Nat} {ta : Option Addr} {tn tc : Nat} {b : BdV} (h : OwnBd w lo hi (.slice sa sn sc) (.slice la ln lc) (.slice ta tn tc) b) : RdBd w sa sn sc la ln lc ta tn tc b := by
  obtain ⟨pp, h1, _, _, _⟩ := h.ex
  obtain ⟨ao, c, e1, e2, e3⟩ := h1.toS.rd
  simp only [Value.slice.injEq] at e1
  obtain ⟨rfl, rfl, rfl⟩ := e1
  obtain ⟨vs, hvl, ho, _⟩ := h1
  have hc : b.sg.length ≤ sc := by
    rcases ho.2 with ⟨h0, hz⟩ | ⟨g, cap, cur, hv, _, _, hcm, _⟩
    · omega
    · simp only [Value.slice.injEq] at hv
      obtain ⟨_, _, rfl⟩ := hv
      exact hcm
  exact ⟨rfl, h.li.rd'.1, h.ls.rd'.1, e2, h.li.rd'.2, h.ls.rd'.2, hc, e3, h.li.nil, h.ls.nil⟩
/-- Boards that read the same have their lengths. -/
theorem OwnBd.form {w : World} {lo hi : Nat} {S L T : Value} {b : BdV} (h : OwnBd w lo hi S L T b) : ∃ sa sc la lc ta tc, S = .slice sa b.sg.length sc ∧ L = .slice la b.li.length lc ∧ T = .slice ta b.ls.length tc := by
  obtain ⟨pp, h1, _, _, _⟩ := h.ex
  obtain ⟨ao, c, e1, _, _⟩ := h1.toS.rd
  obtain ⟨la, lc, e2⟩ := h.li.shape
  obtain ⟨ta, tc, e3⟩ := h.ls.shape
  exact ⟨ao, c, la, lc, ta, tc, e1, e2, e3⟩

end Go.Proofs.Ytaokmjbhgkfnfaa
