/- Chapter 15: plain facts: coins other along a way. -/
import Derived.Test.YtbjpkklonjlmiaaP15F
import Derived.Test.YtbjpkklonjlmiaaOC15
namespace Go.Proofs.Ytbjpkklonjlmiaa
set_option linter.unusedVariables false
set_option maxRecDepth 1000000
set_option linter.unusedSimpArgs false

/-- The word at one seat alone. -/
def indX (i j x : Int) : Int := if i = j then x else 0
theorem indX_nonneg {x : Int} (hx : 0 ≤ x) (i j : Int) : 0 ≤ indX i j x := by unfold indX; split <;> omega

theorem coP_set {cs : List Int} {ps : List (List Int)} {i x : Int} {k : Nat} (hc : ∀ k, k < cs.length → byB (cs.getD k 0) = true) (hx : byB x = true) (hk : k < cs.length) : ∀ m, m ≤ cs.length →
    coP (cs.set k (xr (cs.getD k 0) x)) ps i m = xr (coP cs ps i m) (if k < m ∧ ((ps.getD k []).getD 0 0 = i ∨ (ps.getD k []).getD 1 0 = i) then x else 0)
  | 0, _ => by rw [if_neg (by omega)]; exact (zero_xr (Int.le_refl 0)).symm
  | m + 1, hm => by
    have ih := coP_set (ps := ps) (i := i) hc hx hk m (by omega)
    have hco : 0 ≤ coP cs ps i m := (byB_iff.1 (coP_by hc m (by omega))).1
    have hx0 := (byB_iff.1 hx).1
    have hg : (cs.set k (xr (cs.getD k 0) x)).getD m 0 = if m = k then xr (cs.getD k 0) x else cs.getD m 0 := getD_set9 _ _ _ _ hk
    simp only [coP]
    rw [ih, hg]
    by_cases ht : (ps.getD m []).getD 0 0 = i ∨ (ps.getD m []).getD 1 0 = i
    · rw [if_pos ht, if_pos ht]
      by_cases e : m = k
      · subst e
        rw [if_pos rfl, if_neg (by omega), if_pos ⟨by omega, ht⟩, xr_zero hco, xr_assoc]
      · rw [if_neg e]
        by_cases hkm : k < m ∧ ((ps.getD k []).getD 0 0 = i ∨ (ps.getD k []).getD 1 0 = i)
        · rw [if_pos hkm, if_pos ⟨by omega, hkm.2⟩, xr_assoc, xr_comm x, ← xr_assoc]
        · rw [if_neg hkm, if_neg (fun h => hkm ⟨by omega, h.2⟩), xr_zero hco, xr_zero (xr_nonneg _ _)]
    · rw [if_neg ht, if_neg ht]
      by_cases hkm : k < m ∧ ((ps.getD k []).getD 0 0 = i ∨ (ps.getD k []).getD 1 0 = i)
      · rw [if_pos hkm, if_pos ⟨by omega, hkm.2⟩]
      · rw [if_neg hkm, if_neg (fun h => by
          by_cases e : m = k
          · subst e; exact ht h.2
          · exact hkm ⟨by omega, h.2⟩)]

/-- A way of pairs from one seat to another. -/
inductive Way (ps : List (List Int)) : Int → List Int → Int → Prop
  | nil (a : Int) : Way ps a [] a
  | cons {a s b : Int} {k : Nat} {r : List Int} (hk : k < ps.length) (hp : isPr (ps.getD k []) a s = true) (hne : a ≠ s) (h : Way ps s r b) : Way ps a ((k : Int) :: r) b

theorem way_wayL {t : TbV} (hg : GoodT t) {n g : Nat} (hn : n = t.s.toNat) (hgn : g < n) : ∀ (v a : Nat), a < n → (farT t g).getD a 0 = (v : Int) → Way t.ps a (wayL t.ps (farT t g) n a) g := by
  have hs := hg.stB (Nat.le_refl t.ps.length)
  rw [← hn] at hs
  have ho : FarOk (stT t.ps t.ps.length) n g n (farT t g) := by unfold farT farL; rw [← hn]; exact farN_ok hs hgn n
  intro v
  induction v with
  | zero =>
    intro a ha h
    rw [wayL_end (by omega), (ho.z a ha).1 (by omega)]
    exact .nil _
  | succ v ih =>
    intro a ha h
    obtain ⟨s0, hs0, hok0⟩ := near_ok hg hn ho ha (by omega)
    cases hf : (List.range n).find? (okS t.ps (farT t g) a) with
    | none => rw [List.find?_range_eq_none] at hf; have := hf s0 hs0; rw [hok0] at this; simp at this
    | some s =>
      rw [List.find?_range_eq_some] at hf
      have hsn := List.mem_range.1 hf.2.1
      obtain ⟨k1, k2⟩ := okS_iff.1 hf.1
      rw [wayL_step (by omega) hsn hf.1 (fun j hj => by simpa using hf.2.2 j hj)]
      obtain ⟨k, hk, e, hp⟩ := prN_some k1
      rw [e]
      exact .cons hk hp (fun e2 => by rw [show a = s by omega] at k2; omega) (ih s hsn (by rw [k2, h]; omega))

theorem flip_by {x : Int} (hx : byB x = true) : ∀ {way : List Int} {cs : List Int}, (∀ k, k < cs.length → byB (cs.getD k 0) = true) → ∀ k, k < (flipL cs way x).length → byB ((flipL cs way x).getD k 0) = true
  | [], cs, hc, k, hk => hc k hk
  | y :: r, cs, hc, k, hk => by
    refine flip_by hx (way := r) (cs := cs.set y.toNat (xr (cs.getD y.toNat 0) x)) (fun j hj => ?_) k hk
    rw [List.length_set] at hj
    by_cases hy : y.toNat < cs.length
    · rw [getD_set9 _ _ _ _ hy]
      split
      · exact xr_by (hc _ hy) hx
      · exact hc j hj
    · rw [List.set_eq_of_length_le (by omega)]
      exact hc j hj

theorem coP_flip {ps : List (List Int)} {x : Int} (hx : byB x = true) {a b : Int} {way : List Int} (hw : Way ps a way b) : ∀ {cs : List Int}, (∀ k, k < cs.length → byB (cs.getD k 0) = true) → cs.length = ps.length → ∀ i, coP (flipL cs way x) ps i ps.length = xr (coP cs ps i ps.length) (xr (indX i a x) (indX i b x)) := by
  have hx0 := (byB_iff.1 hx).1
  induction hw with
  | nil a =>
    intro cs hc hl i
    show coP cs ps i ps.length = _
    rw [xr_self, xr_zero (byB_iff.1 (coP_by hc _ (by omega))).1]
  | @cons a s b k r hk hp hne h ih =>
    intro cs hc hl i
    show coP (flipL (cs.set ((k : Nat) : Int).toNat (xr (cs.getD ((k : Nat) : Int).toNat 0) x)) r x) ps i ps.length = _
    rw [Int.toNat_natCast, ih (cs := cs.set k (xr (cs.getD k 0) x)) (fun j hj => by
      rw [List.length_set] at hj
      rw [getD_set9 _ _ _ _ (by omega)]
      split
      · exact xr_by (hc _ (by omega)) hx
      · exact hc j hj) (by rw [List.length_set]; exact hl) i, coP_set hc hx (by omega) _ (by omega)]
    have ht : (if k < ps.length ∧ ((ps.getD k []).getD 0 0 = i ∨ (ps.getD k []).getD 1 0 = i) then x else 0) = xr (indX i a x) (indX i s x) := by
      rw [isPr_iff] at hp
      unfold indX
      by_cases h1 : i = a
      · have h2 : ¬ i = s := fun e => hne (by rw [← h1, e])
        rw [if_pos ⟨hk, by rcases hp with ⟨e1, _⟩ | ⟨_, e2⟩; exact Or.inl (by rw [e1, h1]); exact Or.inr (by rw [e2, h1])⟩, if_pos h1, if_neg h2, xr_zero hx0]
      · by_cases h2 : i = s
        · rw [if_pos ⟨hk, by rcases hp with ⟨_, e2⟩ | ⟨e1, _⟩; exact Or.inr (by rw [e2, h2]); exact Or.inl (by rw [e1, h2])⟩, if_neg h1, if_pos h2, zero_xr hx0]
        · rw [if_neg (fun h => by rcases hp with ⟨e1, e2⟩ | ⟨e1, e2⟩ <;> rw [e1, e2] at h <;> rcases h with ⟨_, h | h⟩ <;> first | exact h1 h.symm | exact h2 h.symm), if_neg h1, if_neg h2, zero_xr (Int.le_refl 0)]
    rw [ht]
    have hs0 := indX_nonneg hx0 i s
    have hb0 := indX_nonneg hx0 i b
    generalize coP cs ps i ps.length = c
    generalize indX i a x = u
    generalize indX i s x = v at hs0
    generalize indX i b x = w at hb0
    rw [xr_assoc c, xr_assoc u, ← xr_assoc v v w, xr_self, zero_xr hb0]

end Go.Proofs.Ytbjpkklonjlmiaa
