/- Chapter 13: a step keeps a board good. -/
import Derived.Test.YtaokmjbhgkfnfaaSLB13s
namespace Go.Proofs.Ytaokmjbhgkfnfaa
set_option linter.unusedVariables false
set_option maxRecDepth 1000000
set_option linter.unusedSimpArgs false
open Go.RowKit

theorem X3.rngP {pp : Nat → Prop} {w w' : World} {r : Nat} {a b c : Value} (h : X3 w r a b c) (hr : RngP pp w w') (hd : ¬ pp r) : X3 w' r a b c := by
  have hlt := h.lt
  have hb := hr.block r hlt hd
  obtain ⟨⟨h0, h1, h2⟩, hf⟩ := h
  have hc : ∀ j, w'.cell? ⟨r, j, none⟩ = w.cell? ⟨r, j, none⟩ := fun j => by unfold World.cell?; rw [hb]
  refine ⟨⟨by rw [hc]; exact h0, by rw [hc]; exact h1, by rw [hc]; exact h2⟩, fun j => ?_⟩
  rw [← hf j]
  unfold World.frozen?
  rw [hb]

theorem sig_new {f e m l : Int} (he : 0 ≤ e ∧ e ≤ 20) (hm : memB f m = true) (hl : 0 ≤ l ∧ l ≤ 9) : sigB f [e, m, l] = true := by
  have h1 : inB e 0 20 = true := inB_iff.2 he
  have h2 : inB l 0 9 = true := inB_iff.2 hl
  simp [sigB, h1, h2, hm]
theorem kept_new {li : List Int} {sg : List (List Int)} {e m l : Int} (h : keptB li sg = true) (hm : (sitM e m sg []).length = 0 ∨ m ∈ li) : keptB li (sg ++ [[e, m, l]]) = true := by
  simp only [keptB, decide_eq_true_eq] at h ⊢
  have key : ∀ x ∈ sg, x.getD 0 0 = e → x.getD 1 0 = m → m ∈ li := fun x hx h0 h1 => by
    rcases hm with hm | hm
    · have := (sitM_mem e m (x.getD 2 0) sg []).2 (Or.inr ⟨x, hx, h0, h1, rfl⟩)
      rw [List.length_eq_zero_iff.1 hm] at this
      simp at this
    · exact hm
  intro s hs x hx hc
  obtain ⟨c0, c1, c2, c3⟩ := hc
  rcases List.mem_append.1 hs with hs | hs <;> rcases List.mem_append.1 hx with hx | hx
  · exact h s hs x hx ⟨c0, c1, c2, c3⟩
  · simp only [List.mem_singleton] at hx
    subst hx
    have d0 : e = s.getD 0 0 := c0
    have d1 : m = s.getD 1 0 := c1
    exact c3 (by rw [← d1]; exact key s hs d0.symm d1.symm)
  · simp only [List.mem_singleton] at hs
    subst hs
    have d0 : x.getD 0 0 = e := c0
    have d1 : x.getD 1 0 = m := c1
    exact c3 (key x hx d0 d1)
  · simp only [List.mem_singleton] at hs hx
    subst hs; subst hx
    exact c2 rfl
theorem step_good {b c : BdV} {k m l : Int} (hg : goodBd b = true) (h : stepO b k m l = some c) : goodBd c = true := by
  obtain ⟨f, e, sg, li, ls⟩ := b
  have G := good_is hg
  unfold stepO at h
  split at h
  · rename_i h1
    obtain ⟨-, -, h3, h4⟩ := h1
    have h5 := inB_iff.1 h3
    cases h
    have hr : Ris ltI (insL ltI l ls) := insL_ris ordI _ G.tr h4
    have hm : ∀ x ∈ insL ltI l ls, 0 ≤ x ∧ x ≤ 9 := fun x hx => by
      rcases (insL_mem _ _ _).1 hx with e | e
      · omega
      · exact G.tm x e
    exact is_good ⟨G.f0, G.f2, G.fN, G.N7, G.e0, G.e2, G.ln, G.lm, G.lr, by have h9 := ris_len (a := 0) (b := 10) hr (by omega) (fun x hx => by have := hm x hx; omega); show (insL ltI l ls).length ≤ 10; omega, hm, hr, G.sgOk, G.kp⟩
  · split at h
    · rename_i h1
      obtain ⟨-, h2, h3⟩ := h1
      simp only [maySB, Bool.and_eq_true, Bool.or_eq_true, decide_eq_true_eq] at h2
      obtain ⟨h4, h5, h6⟩ := h2
      cases h
      obtain ⟨a1, a2⟩ := sgsB_all G.sgOk
      refine is_good ⟨G.f0, G.f2, G.fN, G.N7, G.e0, G.e2, G.ln, G.lm, G.lr, G.tn, G.tm, G.tr, ?_, kept_new G.kp (h6.imp id (fun h => h.1))⟩
      simp only [sgsB, Bool.and_eq_true, decide_eq_true_eq, List.all_eq_true]
      refine ⟨by simp only [List.length_append, List.length_cons, List.length_nil]; simp only at h3; omega, fun s hs => ?_⟩
      rcases List.mem_append.1 hs with hs | hs
      · exact a2 s hs
      · simp only [List.mem_singleton] at hs
        subst hs
        exact sig_new ⟨G.e0, G.e2⟩ h4 (G.tm l h5)
    · split at h
      · rename_i h1
        obtain ⟨-, -, -, h3⟩ := h1
        simp only at h3
        cases h
        refine is_good ⟨G.f0, G.f2, G.fN, G.N7, by have := G.e0; show 0 ≤ e + 1; omega, by show e + 1 ≤ 20; omega, G.ln, G.lm, G.lr, by simp, fun x hx => by simp at hx, List.Pairwise.nil, G.sgOk, G.kp⟩
      · cases h
/-- A board behind a step: as it was where nothing is done. -/
def stepW (b : BdV) (k m l : Int) : BdV := (stepO b k m l).getD b
theorem stepW_good {b : BdV} {k m l : Int} (hg : goodBd b = true) : goodBd (stepW b k m l) = true := by
  unfold stepW
  cases h : stepO b k m l with
  | none => exact hg
  | some c => exact step_good hg h
/-- The sizes of a good board. -/
structure FewBd (b : BdV) : Prop where
  s : b.sg.length ≤ 200
  l : b.li.length ≤ 2
  t : b.ls.length ≤ 10
  z : ∀ l ∈ b.sg, l.length = 3
theorem good_few {b : BdV} (hg : goodBd b = true) : FewBd b := by
  obtain ⟨f, e, sg, li, ls⟩ := b
  have G := good_is hg
  exact ⟨(sgsB_all G.sgOk).1, by have := G.ln; have := G.f2; show li.length ≤ 2; omega, G.tn, fun l hl => (sigB_mem ((sgsB_all G.sgOk).2 l hl)).1⟩
theorem OwnBd.nn {w : World} {lo hi : Nat} {sa : Option Addr} {sn sc : Nat} {L T : Value} {b : BdV} (h : OwnBd w lo hi (.slice sa sn sc) L T b) : RdNN w sa b.sg := by
  obtain ⟨pp, h1, _⟩ := h.ex
  exact h1.nn

end Go.Proofs.Ytaokmjbhgkfnfaa
