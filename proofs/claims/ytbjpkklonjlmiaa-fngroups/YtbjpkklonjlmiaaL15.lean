/- Chapter 15: the laws' own functions over a table. -/
import Derived.Test.YtbjpkklonjlmiaaPU15
import Derived.Test.YtbjpkklonjlmiaaP15
namespace Go.Proofs.Ytbjpkklonjlmiaa
set_option linter.unusedVariables false
set_option maxRecDepth 1000000
set_option linter.unusedSimpArgs false
open Go.RowKit

theorem OwnIP.setBox {w : World} {lo : Nat} {pp : Nat → Prop} {v : Value} {xss : List (List Int)} (h : OwnIP w lo pp v xss) {r j : Nat} (hr : ¬ pp r) (u : Value) : OwnIP (w.setCell ⟨r, j, none⟩ u) lo pp v xss :=
  h.rng (qq := fun k => k = r) (RngP.ofGrown (grown_setCell w r j u) (fun k e => by simpa using e.symm)) (fun k hk e => hr (e ▸ hk))

/-- A table of the call's own: its rows lie from lo up to hi, none of them shared. -/
structure OwnTb (w : World) (lo hi : Nat) (S L : Value) (b : TbV) : Prop where
  ex : ∃ pp : Nat → Prop, OwnIP w lo pp S b.ps ∧ (∀ k, pp k → lo ≤ k ∧ k < hi) ∧ (∀ k, L.ownBlock = some k → ¬ pp k ∧ k < hi)
  li : Own w lo L b.cs
theorem OwnTb.later {w w' : World} {lo hi : Nat} {S L : Value} {b : TbV} (h : OwnTb w lo hi S L b) (hb : Below w.heap.size w w') : OwnTb w' lo hi S L b := by
  obtain ⟨pp, h1, h2, h3⟩ := h.ex
  exact ⟨⟨pp, h1.later hb, h2, h3⟩, h.li.later hb⟩
theorem OwnTb.rng {w w' : World} {lo hi : Nat} {qq : Nat → Prop} {S L : Value} {b : TbV} (h : OwnTb w lo hi S L b) (hr : RngP qq w w') (hd : ∀ k, lo ≤ k → k < hi → ¬ qq k) : OwnTb w' lo hi S L b := by
  obtain ⟨pp, h1, h2, h3⟩ := h.ex
  exact ⟨⟨pp, h1.rng hr (fun k hk => hd k (h2 k hk).1 (h2 k hk).2), h2, h3⟩, h.li.rngP hr (fun k e => hd k (own_block_ge h.li k e) (h3 k e).2)⟩
theorem OwnTb.mono {w : World} {lo hi lo' hi' : Nat} {S L : Value} {b : TbV} (h : OwnTb w lo hi S L b) (h1 : lo' ≤ lo) (h2 : hi ≤ hi') : OwnTb w lo' hi' S L b := by
  obtain ⟨pp, g1, g2, g3⟩ := h.ex
  exact ⟨⟨pp, g1.mono h1 (fun _ h => h), fun k hk => by have := g2 k hk; omega, fun k e => ⟨(g3 k e).1, by have := (g3 k e).2; omega⟩⟩, h.li.mono h1⟩
/-- What of a table is read. -/
structure RdTb (w : World) (sa : Option Addr) (sn sc : Nat) (la : Option Addr) (ln lc : Nat) (b : TbV) : Prop where
  sl : b.ps.length = sn
  ll : b.cs.length = ln
  s : RdNN w sa b.ps
  l : Rd w la b.cs
  cp : sn ≤ sc
  sz : sa = none → sn = 0 ∧ sc = 0
  lz : la = none → ln = 0 ∧ lc = 0
theorem RdTb.later {w w' : World} {sa : Option Addr} {sn sc : Nat} {la : Option Addr} {ln lc : Nat} {b : TbV} (h : RdTb w sa sn sc la ln lc b) (hb : Below w.heap.size w w') : RdTb w' sa sn sc la ln lc b := ⟨h.sl, h.ll, h.s.later hb, h.l.later hb, h.cp, h.sz, h.lz⟩
theorem OwnTb.rd {w : World} {lo hi : Nat} {sa : Option Addr} {sn sc : Nat} {la : Option Addr} {ln lc : Nat} {b : TbV} (h : OwnTb w lo hi (.slice sa sn sc) (.slice la ln lc) b) : RdTb w sa sn sc la ln lc b := by
  obtain ⟨pp, h1, _, _⟩ := h.ex
  have hnn := h1.nn
  obtain ⟨ao, c, e1, e2, e3⟩ := h1.toS.rd
  simp only [Value.slice.injEq] at e1
  obtain ⟨rfl, rfl, rfl⟩ := e1
  obtain ⟨vs, hvl, ho, _⟩ := h1
  have hc : b.ps.length ≤ sc := by
    rcases ho.2 with ⟨h0, hz⟩ | ⟨g, cap, cur, hv, _, _, hcm, _⟩
    · omega
    · simp only [Value.slice.injEq] at hv
      obtain ⟨_, _, rfl⟩ := hv
      exact hcm
  exact ⟨rfl, h.li.rd'.1, hnn, h.li.rd'.2, hc, e3, h.li.nil⟩
/-- Tables of the call's own are slices of their lengths. -/
theorem OwnTb.form {w : World} {lo hi : Nat} {S L : Value} {b : TbV} (h : OwnTb w lo hi S L b) : ∃ sa sc la lc, S = .slice sa b.ps.length sc ∧ L = .slice la b.cs.length lc := by
  obtain ⟨pp, h1, _, _⟩ := h.ex
  obtain ⟨ao, c, e1, _, _⟩ := h1.toS.rd
  obtain ⟨la, lc, e2⟩ := h.li.shape
  exact ⟨ao, c, la, lc, e1, e2⟩

end Go.Proofs.Ytbjpkklonjlmiaa
