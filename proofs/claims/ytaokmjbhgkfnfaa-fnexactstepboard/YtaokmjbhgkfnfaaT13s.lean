/- Chapter 13: the sitting of an epoch: what each member has signed in it. -/
import Derived.Test.YtaokmjbhgkfnfaaF13s
import Derived.Test.YtaokmjbhgkfnfaaS13s
namespace Go.Proofs.Ytaokmjbhgkfnfaa
set_option linter.unusedVariables false
set_option maxRecDepth 1000000
set_option linter.unusedSimpArgs false
open Go.RowKit

theorem Try.infoRis : (Try.prog.info? 87).map (fun i => (i.zero, i.size, i.bytes)) = some (some (.slice none 0 0), 1, 24) := by kernel_rfl

/-- Rows of unlike element types never share a block. -/
theorem row_sepG {w : World} {b1 b2 n1 n2 : Nat} {t1 t2 : TypeId} {u v : Value} {xs vs : List Value} (hne : t1 ≠ t2) (h : w.ownsRow b1 t1 1 u n1 xs) (k : w.ownsRow b2 t2 1 v n2 vs) : u.ownBlock = none ∨ u.ownBlock ≠ v.ownBlock := by
  rcases h.2 with ⟨rfl, _⟩ | ⟨g, cap, cur, rfl, _, hg, _⟩
  · exact Or.inl rfl
  · rcases k.2 with ⟨rfl, _⟩ | ⟨g', cap', cur', rfl, _, hg', _⟩
    · exact Or.inr (by simp [Value.ownBlock])
    · refine Or.inr fun e => ?_
      simp only [Value.ownBlock, Option.some.injEq] at e
      subst e
      rw [hg] at hg'
      simp only [Option.some.injEq, Obj.cells.injEq] at hg'
      exact hne hg'.2.1

/-- A row of N rising sets, each in a row of its own. -/
def OwnRR (w : World) (base g N : Nat) (xss : List (List Int)) : Prop :=
  ∃ vs : List Value, vs.length = N ∧ xss.length = N ∧ w.ownsRow base 87 1 (.slice (some ⟨g, 0, none⟩) N N) N vs ∧ ∀ j, j < N → Own w base (vs.getD j nilV) (xss.getD j [])

theorem OwnRR.later {w w' : World} {base g N : Nat} {xss : List (List Int)} (h : OwnRR w base g N xss) (hb : Below w.heap.size w w') : OwnRR w' base g N xss := by
  obtain ⟨vs, h1, h2, h3, h4⟩ := h
  exact ⟨vs, h1, h2, rowLater h3 hb, fun j hj => (h4 j hj).later hb⟩

theorem OwnRR.get {w : World} {base g N : Nat} {xss : List (List Int)} (h : OwnRR w base g N xss) {k : Nat} (hk : k < N) : ∃ a c, w.cell? ⟨g, k, none⟩ = some (.slice a (xss.getD k []).length c) ∧ Own w base (.slice a (xss.getD k []).length c) (xss.getD k []) ∧ (∀ j, w.frozen? ⟨g, j, none⟩ = false) := by
  obtain ⟨vs, h1, h2, h3, h4⟩ := h
  have hc := World.ownsRow.cellAt h3 k (by omega)
  rw [List.getElem?_eq_getElem (by omega)] at hc
  have e : vs.getD k nilV = vs[k]'(by omega) := by simp [List.getD, show k < vs.length by omega]
  have ho := h4 k hk
  obtain ⟨a, c, hv⟩ := ho.shape
  rw [e] at hv ho
  rw [hv] at hc ho
  exact ⟨a, c, hc, ho, fun j => World.ownsRow.frozenAt h3 j⟩

theorem OwnRR.rd {w : World} {base g N : Nat} {xss : List (List Int)} (h : OwnRR w base g N xss) : xss.length = N ∧ RdII w (some ⟨g, 0, none⟩) xss := by
  have hl : xss.length = N := by obtain ⟨_, _, h2, _⟩ := h; exact h2
  refine ⟨hl, Or.inr ⟨g, 0, rfl, fun j hj => ?_⟩⟩
  obtain ⟨a, c, hc, ho, _⟩ := h.get (k := j) (by omega)
  exact ⟨a, c, by rw [Nat.zero_add]; exact hc, ho.rd'.2⟩

theorem OwnRR.set {w : World} {base g N : Nat} {xss : List (List Int)} (h : OwnRR w base g N xss) {k : Nat} (hk : k < N) {v : Value} {ys : List Int} (hv : Own w base v ys) : OwnRR (w.setCell ⟨g, k, none⟩ v) base g N (xss.set k ys) := by
  obtain ⟨vs, h1, h2, h3, h4⟩ := h
  obtain ⟨r1, r2⟩ := World.ownsRow.stored h3 k v
  refine ⟨vs.set k v, by simpa using h1, by simpa using h2, r1, fun j hj => ?_⟩
  by_cases e : j = k
  · subst e
    rw [show (vs.set j v).getD j nilV = v by simp [List.getD, show j < vs.length by omega], show (xss.set j ys).getD j [] = ys by simp [List.getD, show j < xss.length by omega]]
    exact hv.kept r2 (row_sepG (by decide) hv h3)
  · rw [show (vs.set k v).getD j nilV = vs.getD j nilV by simp [List.getD, List.getElem?_set, Ne.symm e], show (xss.set k ys).getD j [] = xss.getD j [] by simp [List.getD, List.getElem?_set, Ne.symm e]]
    exact (h4 j hj).kept r2 (row_sepG (by decide) (h4 j hj) h3)

theorem OwnRR.other {w w' : World} {base g N r : Nat} {xss : List (List Int)} (h : OwnRR w base g N xss) (hg : w.grownBy w' (some r)) (hne : r < base) : OwnRR w' base g N xss := by
  obtain ⟨vs, h1, h2, h3, h4⟩ := h
  refine ⟨vs, h1, h2, World.ownsRow.kept h3 hg (Or.inr fun e => ?_), fun j hj => (h4 j hj).kept hg ?_⟩
  · have := (World.ownsRow.lt h3 _ e).1
    omega
  · cases hb : (vs.getD j nilV).ownBlock with
    | none => exact Or.inl rfl
    | some k =>
      have := own_block_ge (h4 j hj) k hb
      exact Or.inr (fun e => by simp only [Option.some.injEq] at e; omega)

theorem sitM_len (ep m : Int) : ∀ (l : List (List Int)) (acc : List Int), (sitM ep m l acc).length ≤ acc.length + l.length
  | [], acc => by simp [sitM]
  | s :: r, acc => by
    simp only [sitM]
    have := sitM_len ep m r (if s.getD 0 0 = ep ∧ s.getD 1 0 = m ∧ s.getD 2 0 ∉ acc then insL ltI (s.getD 2 0) acc else acc)
    have h2 : (if s.getD 0 0 = ep ∧ s.getD 1 0 = m ∧ s.getD 2 0 ∉ acc then insL ltI (s.getD 2 0) acc else acc).length ≤ acc.length + 1 := by
      split
      · rw [insL_length]; exact Nat.le_refl _
      · omega
    simp only [List.length_cons]
    omega

theorem getD_rep {α : Type} (x d : α) (n j : Nat) (h : j < n) : (List.replicate n x).getD j d = x := by simp [List.getD, h]

theorem sit_step {N : Nat} {ep : Int} {sg : List (List Int)} {k m : Nat} (hk : k < sg.length) (hm : (sg.getD k []).getD 1 0 = (m : Nat)) (hN : m < N) :
    sitL N ep (sg.take (k + 1)) = (if (sg.getD k []).getD 0 0 = ep ∧ (sg.getD k []).getD 2 0 ∉ (sitL N ep (sg.take k)).getD m [] then (sitL N ep (sg.take k)).set m (insL ltI ((sg.getD k []).getD 2 0) ((sitL N ep (sg.take k)).getD m [])) else sitL N ep (sg.take k)) := by
  have hE1 : ∀ j, j < N → ∀ hh, (sitL N ep (sg.take (k + 1)))[j]'hh = (if (sg.getD k []).getD 0 0 = ep ∧ (sg.getD k []).getD 1 0 = (j : Nat) ∧ (sg.getD k []).getD 2 0 ∉ sitM ep (j : Nat) (sg.take k) [] then insL ltI ((sg.getD k []).getD 2 0) (sitM ep (j : Nat) (sg.take k) []) else sitM ep (j : Nat) (sg.take k) []) := fun j hj hh => by
    have e1 : (sitL N ep (sg.take (k + 1)))[j]'hh = sitM ep (j : Nat) (sg.take (k + 1)) [] := by simp [sitL]
    rw [e1, take_snoc [] hk, sitM_append]
    rfl
  have hE2 : ∀ j, j < N → ∀ hh, (sitL N ep (sg.take k))[j]'hh = sitM ep (j : Nat) (sg.take k) [] := fun j hj hh => by simp [sitL]
  rw [sitL_getD ep _ hN]
  by_cases hc : (sg.getD k []).getD 0 0 = ep ∧ (sg.getD k []).getD 2 0 ∉ sitM ep (m : Nat) (sg.take k) []
  · rw [if_pos hc]
    refine List.ext_getElem (by simp [sitL_length]) (fun j h1 h2 => ?_)
    have hj : j < N := by simpa [sitL_length] using h1
    rw [hE1 j hj h1, hm]
    by_cases e : j = m
    · subst e
      rw [if_pos ⟨hc.1, rfl, hc.2⟩]
      simp
    · rw [if_neg (fun g => e (by have := g.2.1; omega)), List.getElem_set_ne (by omega), hE2 j hj]
  · rw [if_neg hc]
    refine List.ext_getElem (by simp [sitL_length]) (fun j h1 h2 => ?_)
    have hj : j < N := by simpa [sitL_length] using h1
    rw [hE1 j hj h1, hE2 j hj h2, hm, if_neg (fun g => ?_)]
    obtain rfl : m = j := by have := g.2.1; omega
    exact hc ⟨g.1, g.2.2⟩

theorem councilOf_c (f e : Int) (sa : Option Addr) (sn sc : Nat) (la : Option Addr) (ln lc : Nat) (ta : Option Addr) (tn tc : Nat) (w : World) : Calls Try.prog 57 #[.agg #[.int .i64 f, .int .i64 e, .slice sa sn sc, .slice la ln lc, .slice ta tn tc]] w fun x w' => x = .returned (.agg #[.int .i64 f, .slice la ln lc]) ∧ Below w.heap.size w w' := by
  have HB : Hid (Below w.heap.size w ((w.alloc (.cells #[.int .i64 f, .int .i64 e, .slice sa sn sc, .slice la ln lc, .slice ta tn tc] 29)).alloc (.cells #[.int .i64 f, .slice la ln lc] 89))) := (balloc w _).alloc (balloc w _).size _
  go_enter Try.func57, Try.ntmps57
  go_wp2
  refine bodyPost_ret (v := .agg #[.int .i64 f, .slice la ln lc]) (by simp [results, Try.results57, go_sem, ]; try rfl) rfl ?_
  exact ⟨rfl, HB.out⟩

end Go.Proofs.Ytaokmjbhgkfnfaa
