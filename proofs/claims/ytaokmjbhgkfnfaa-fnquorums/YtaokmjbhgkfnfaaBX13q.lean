/- Chapter 13: a step keeps a board good. -/
import Derived.Test.YtaokmjbhgkfnfaaSLB13q
namespace Go.Proofs.Ytaokmjbhgkfnfaa
set_option linter.unusedVariables false
set_option maxRecDepth 1000000
set_option linter.unusedSimpArgs false
open Go.RowKit

theorem X3.rngP {pp : Nat → Prop} {w w' : World} {r : Nat} {a b c : Value} (h : X3 w r a b c) (hr : RngP pp w w') (hd : ¬ pp r) : X3 w' r a b c := by
 have hlt := h.lt
 have hb := hr.block r hlt hd
 obtain ⟨⟨h0, h1, h2⟩, hf⟩ := h
 have hc : ∀ j, w'.cell? ⟨r, j, none⟩ = w.cell? ⟨r, j, none⟩ := fun j => by unfold World.cell?; rw [hb]
 refine ⟨⟨by rw [hc]; exact h0, by rw [hc]; exact h1, by rw [hc]; exact h2⟩, fun j => ?_⟩
 rw [← hf j]
 unfold World.frozen?
 rw [hb]

theorem sig_new {f e m l : Int} (he : 0 ≤ e ∧ e ≤ 20) (hm : memB f m = true) (hl : 0 ≤ l ∧ l ≤ 9) : sigB f [e, m, l] = true := by
 have h1 : inB e 0 20 = true := inB_iff.2 he
 have h2 : inB l 0 9 = true := inB_iff.2 hl
 simp [sigB, h1, h2, hm]
theorem kept_new {li : List Int} {sg : List (List Int)} {e m l : Int} (h : keptB li sg = true) (hm : (sitM e m sg []).length = 0 ∨ m ∈ li) : keptB li (sg ++ [[e, m, l]]) = true := by
 simp only [keptB, decide_eq_true_eq] at h ⊢
 have key : ∀ x ∈ sg, x.getD 0 0 = e → x.getD 1 0 = m → m ∈ li := fun x hx h0 h1 => by
  rcases hm with hm | hm
  ·have := (sitM_mem e m (x.getD 2 0) sg []).2 (Or.inr ⟨x, hx, h0, h1, rfl⟩)
   rw [List.length_eq_zero_iff.1 hm] at this
   simp at this
  ·exact hm
 intro s hs x hx hc
 obtain ⟨c0, c1, c2, c3⟩ := hc
 rcases List.mem_append.1 hs with hs | hs <;> rcases List.mem_append.1 hx with hx | hx
 ·exact h s hs x hx ⟨c0, c1, c2, c3⟩
 ·simp only [List.mem_singleton] at hx
  subst hx
  have d0 : e = s.getD 0 0 := c0
  have d1 : m = s.getD 1 0 := c1
  exact c3 (by rw [← d1]; exact key s hs d0.symm d1.symm)
 ·simp only [List.mem_singleton] at hs
  subst hs
  have d0 : x.getD 0 0 = e := c0
  have d1 : x.getD 1 0 = m := c1
  exact c3 (key x hx d0 d1)
 ·simp only [List.mem_singleton] at hs hx
  subst hs; subst hx
  exact c2 rfl
theorem step_good {b c : BdV} {k m l : Int} (hg : goodBd b = true) (h : stepO b k m l = some c) : goodBd c = true := by
 obtain ⟨f, e, sg, li, ls⟩ := b
 have G := good_is hg
 unfold stepO at h
 split at h
 ·rename_i h1
  obtain ⟨-, -, h3, h4⟩ := h1
  have h5 := inB_iff.1 h3
  cases h
  have hr : Ris ltI (insL ltI l ls) := insL_ris ordI _ G.tr h4
  have hm : ∀ x ∈ insL ltI l ls, 0 ≤ x ∧ x ≤ 9 := fun x hx => by
   rcases (insL_mem _ _ _).1 hx with e | e
   ·omega
   ·exact G.tm x e
  exact is_good ⟨G.f0, G.f2, G.fN, G.N7, G.e0, G.e2, G.ln, G.lm, G.lr, by have h9 := ris_len (a := 0) (b := 10) hr (by omega) (fun x hx => by have := hm x hx; omega); show (insL ltI l ls).length ≤ 10; omega, hm, hr, G.sgOk, G.kp⟩
 ·split at h
  ·rename_i h1
   obtain ⟨-, h2, h3⟩ := h1
   simp only [maySB, Bool.and_eq_true, Bool.or_eq_true, decide_eq_true_eq] at h2
   obtain ⟨h4, h5, h6⟩ := h2
   cases h
   obtain ⟨a1, a2⟩ := sgsB_all G.sgOk
   refine is_good ⟨G.f0, G.f2, G.fN, G.N7, G.e0, G.e2, G.ln, G.lm, G.lr, G.tn, G.tm, G.tr, ?_, kept_new G.kp (h6.imp id (fun h => h.1))⟩
   simp only [sgsB, Bool.and_eq_true, decide_eq_true_eq, List.all_eq_true]
   refine ⟨by simp only [List.length_append, List.length_cons, List.length_nil]; simp only at h3; omega, fun s hs => ?_⟩
   rcases List.mem_append.1 hs with hs | hs
   ·exact a2 s hs
   ·simp only [List.mem_singleton] at hs
    subst hs
    exact sig_new ⟨G.e0, G.e2⟩ h4 (G.tm l h5)
  ·split at h
   ·rename_i h1
    obtain ⟨-, -, -, h3⟩ := h1
    simp only at h3
    cases h
    refine is_good ⟨G.f0, G.f2, G.fN, G.N7, by have := G.e0; show 0 ≤ e + 1; omega, by show e + 1 ≤ 20; omega, G.ln, G.lm, G.lr, by simp, fun x hx => by simp at hx, List.Pairwise.nil, G.sgOk, G.kp⟩
   ·cases h
def stepW (b : BdV) (k m l : Int) : BdV := (stepO b k m l).getD b
theorem stepW_good {b : BdV} {k m l : Int} (hg : goodBd b = true) : goodBd (stepW b k m l) = true := by
 unfold stepW
 cases h : stepO b k m l with
 | none => exact hg
 | some c => exact step_good hg h
structure FewBd (b : BdV) : Prop where
 s : b.sg.length ≤ 200
 l : b.li.length ≤ 2
 t : b.ls.length ≤ 10
 z : ∀ l ∈ b.sg, l.length = 3
theorem good_few {b : BdV} (hg : goodBd b = true) : FewBd b := by
 obtain ⟨f, e, sg, li, ls⟩ := b
 have G := good_is hg
 exact ⟨(sgsB_all G.sgOk).1, by have := G.ln; have := G.f2; show li.length ≤ 2; omega, G.tn, fun l hl => (sigB_mem ((sgsB_all G.sgOk).2 l hl)).1⟩
theorem OwnBd.nn {w : World} {lo hi : Nat} {sa : Option Addr} {sn sc : Nat} {L T : Value} {b : BdV} (h : OwnBd w lo hi (.slice sa sn sc) L T b) : RdNN w sa b.sg := by
 obtain ⟨pp, h1, _⟩ := h.ex
 exact h1.nn

end Go.Proofs.Ytaokmjbhgkfnfaa
namespace Go.Proofs.Ytaokmjbhgkfnfaa
set_option linter.unusedVariables false
set_option maxRecDepth 1000000
set_option linter.unusedSimpArgs false
open Go.RowKit

def BoxT (w : World) (g : Nat) : Prop := ∃ c t fr, w.heap[g]? = some (.cells c t fr) ∧ t ≠ 3 ∧ t ≠ 23
theorem BoxT.new (w : World) (c : Array Value) {t : TypeId} (h1 : t ≠ 3) (h2 : t ≠ 23) : BoxT (w.alloc (.cells c t)) w.heap.size :=
 ⟨c, t, (0, 0), by show (w.heap.push _)[w.heap.size]? = _; simp, h1, h2⟩
theorem BoxT.lt {w : World} {g : Nat} (h : BoxT w g) : g < w.heap.size := by
 obtain ⟨c, t, fr, hh, _⟩ := h
 exact (Array.getElem?_eq_some_iff.1 hh).1
theorem BoxT.rngP {pp : Nat → Prop} {w w' : World} {g : Nat} (h : BoxT w g) (hr : RngP pp w w') (hd : ¬ pp g) : BoxT w' g := by
 have hlt := h.lt
 obtain ⟨c, t, fr, hh, h1, h2⟩ := h
 exact ⟨c, t, fr, by rw [hr.block g hlt hd]; exact hh, h1, h2⟩
theorem BoxT.later {w w' : World} {g : Nat} (h : BoxT w g) (hb : Below w.heap.size w w') : BoxT w' g :=
 h.rngP (pp := fun _ => False) (below_toP hb) (fun h => h)
theorem BoxT.set {w : World} {g : Nat} (h : BoxT w g) (r j : Nat) (u : Value) : BoxT (w.setCell ⟨r, j, none⟩ u) g := by
 obtain ⟨c, t, fr, hh, h1, h2⟩ := h
 by_cases e : r = g
 ·subst e
  refine ⟨c.setIfInBounds j u, t, fr, ?_, h1, h2⟩
  show (w.heap.modify r _)[r]? = _
  rw [Array.getElem?_modify, if_pos rfl, hh]
  rfl
 ·refine ⟨c, t, fr, ?_, h1, h2⟩
  show (w.heap.modify r _)[g]? = _
  rw [Array.getElem?_modify, if_neg e, hh]
theorem row_box {w : World} {lo n : Nat} {t : TypeId} {v : Value} {xs : List Value} (h : w.ownsRow lo t 1 v n xs) {g : Nat} (hg : BoxT w g) (ht : t = 3 ∨ t = 23) : v.ownBlock ≠ some g := by
 obtain ⟨c, t', fr, hh, h1, h2⟩ := hg
 rcases h.2 with ⟨rfl, _⟩ | ⟨k, cap, cur, rfl, _, hk, _⟩
 ·simp [Value.ownBlock]
 ·intro e
  simp only [Value.ownBlock, Option.some.injEq] at e
  subst e
  rw [hk] at hh
  simp only [Option.some.injEq, Obj.cells.injEq] at hh
  rcases ht with rfl | rfl
  ·exact h1 hh.2.1.symm
  ·exact h2 hh.2.1.symm
theorem OwnBd.box {w : World} {lo hi : Nat} {S L T : Value} {b : BdV} (h : OwnBd w lo hi S L T b) {g : Nat} (hg : BoxT w g) (j : Nat) (u : Value) : OwnBd (w.setCell ⟨g, j, none⟩ u) lo hi S L T b := by
 obtain ⟨pp, h1, h2, h3, h4⟩ := h.ex
 have h1' : OwnIP w lo (fun k => pp k ∧ k ≠ g) S b.sg := by
  obtain ⟨vs, hl, ho, hin, hs, a1, a2⟩ := h1
  exact ⟨vs, hl, ho, hin, hs, fun k e => ⟨a1 k e, fun e2 => row_box ho hg (Or.inr rfl) (by rw [e, e2])⟩, fun i hi' k e => ⟨a2 i hi' k e, fun e2 => row_box (hin i hi') hg (Or.inl rfl) (by rw [e, e2])⟩⟩
 have hs : ∀ {v : Value} {xs : List Int}, Own w lo v xs → v.ownBlock = none ∨ v.ownBlock ≠ some g := fun hv => Or.inr (row_box hv hg (Or.inl rfl))
 exact ⟨⟨fun k => pp k ∧ k ≠ g, h1'.setBox (fun hh => hh.2 rfl) u, fun k hk => h2 k hk.1, fun k hk => ⟨fun hh => (h3 k hk).1 hh.1, (h3 k hk).2⟩, fun k hk => ⟨fun hh => (h4 k hk).1 hh.1, (h4 k hk).2⟩⟩, h.li.kept (grown_setCell _ _ _ _) (hs h.li), h.ls.kept (grown_setCell _ _ _ _) (hs h.ls), h.sep⟩
structure ReadB (w : World) (sa : Option Addr) (sn sc : Nat) (la : Option Addr) (ln lc : Nat) (ta : Option Addr) (tn tc : Nat) (b : BdV) : Prop where
 rd : RdBd w sa sn sc la ln lc ta tn tc b
 nn : RdNN w sa b.sg
theorem ReadB.later {w w' : World} {sa : Option Addr} {sn sc : Nat} {la : Option Addr} {ln lc : Nat} {ta : Option Addr} {tn tc : Nat} {b : BdV} (h : ReadB w sa sn sc la ln lc ta tn tc b) (hb : Below w.heap.size w w') : ReadB w' sa sn sc la ln lc ta tn tc b := ⟨h.rd.later hb, h.nn.later hb⟩
theorem OwnBd.read {w : World} {lo hi : Nat} {sa : Option Addr} {sn sc : Nat} {la : Option Addr} {ln lc : Nat} {ta : Option Addr} {tn tc : Nat} {b : BdV} (h : OwnBd w lo hi (.slice sa sn sc) (.slice la ln lc) (.slice ta tn tc) b) : ReadB w sa sn sc la ln lc ta tn tc b := by
 refine ⟨h.rd, ?_⟩
 obtain ⟨pp, h1, _⟩ := h.ex
 obtain ⟨vs, hvl, ho, _⟩ := id h1
 obtain rfl : b.sg.length = sn := h.rd.sl
 exact h1.nn
theorem own_read (w : World) (sa : Option Addr) (sn sc : Nat) (la : Option Addr) (ln lc : Nat) (ta : Option Addr) (tn tc : Nat) (b : BdV) (hg : goodBd b = true) (h : ReadB w sa sn sc la ln lc ta tn tc b) :
  Calls Try.prog 55 #[.agg #[.int .i64 b.f, .int .i64 b.e, .slice sa sn sc, .slice la ln lc, .slice ta tn tc]] w fun x w' => ∃ sa' sc' la' lc' ta' tc', x = .returned (.agg #[.int .i64 b.f, .int .i64 b.e, .slice sa' sn sc', .slice la' ln lc', .slice ta' tn tc']) ∧ OwnBd w' w.heap.size w'.heap.size (.slice sa' sn sc') (.slice la' ln lc') (.slice ta' tn tc') b ∧ Below w.heap.size w w' := by
 obtain ⟨f, e, sg, li, ls⟩ := b
 have F := good_few hg
 exact l13Own_c f e sa sn sc la ln lc ta tn tc sg li ls w h.rd.sl (by have := F.s; have := h.rd.sl; simp only at *; omega) h.rd.ll (by have := F.l; have := h.rd.ll; simp only at *; omega) h.rd.tl (by have := F.t; have := h.rd.tl; simp only at *; omega) h.nn h.rd.l h.rd.t (fun l hl => by rw [F.z l hl]; omega) h.rd.lz h.rd.tz

end Go.Proofs.Ytaokmjbhgkfnfaa
