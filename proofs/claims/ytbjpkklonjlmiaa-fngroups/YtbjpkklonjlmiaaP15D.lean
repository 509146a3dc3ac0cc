/- Chapter 15: plain facts: one pair, forth and back. -/
import Derived.Test.YtbjpkklonjlmiaaP15C
namespace Go.Proofs.Ytbjpkklonjlmiaa
set_option linter.unusedVariables false
set_option maxRecDepth 1000000
set_option linter.unusedSimpArgs false

theorem pair_bump {d n k p0 p1 : Nat} {F : List Int} {ps : List (List Int)} (hl : F.length = n) (hlo : ∀ i, i < n → -1 ≤ F.getD i 0) (h0 : p0 < n) (h1 : p1 < n) (hne : p0 ≠ p1) (e0 : (ps.getD k []).getD 0 0 = (p0 : Int)) (e1 : (ps.getD k []).getD 1 0 = (p1 : Int)) :
    bump d F (stT ps (k + 1)) = if (bump d F (stT ps k)).getD p0 0 = (d : Int) ∧ (bump d F (stT ps k)).getD p1 0 < 0 then (bump d F (stT ps k)).set p1 ((d : Int) + 1) else if (bump d F (stT ps k)).getD p1 0 = (d : Int) ∧ (bump d F (stT ps k)).getD p0 0 < 0 then (bump d F (stT ps k)).set p0 ((d : Int) + 1) else bump d F (stT ps k) := by
  have hd : (0 : Int) ≤ (d : Int) := by omega
  have e : ∀ y, y ∈ stT ps (k + 1) ↔ y ∈ (stT ps k ++ [((p1 : Int), (p0 : Int), (k : Int))]) ++ [((p0 : Int), (p1 : Int), (k : Int))] := fun y => by
    rw [stT_mem]
    simp only [List.mem_append, stT_mem, List.mem_singleton]
    constructor
    · rintro ⟨j, hj, h⟩
      by_cases hjk : j = k
      · subst hjk
        rw [e0, e1] at h
        rcases h with h | h
        · exact Or.inr h
        · exact Or.inl (Or.inr h)
      · exact Or.inl (Or.inl ⟨j, by omega, h⟩)
    · rintro ((⟨j, hj, h⟩ | h) | h)
      · exact ⟨j, by omega, h⟩
      · exact ⟨k, by omega, Or.inr (by rw [e0, e1]; exact h)⟩
      · exact ⟨k, by omega, Or.inl (by rw [e0, e1]; exact h)⟩
  have b1 := bump_snoc (r := (d : Int)) (far := F) (l := stT ps k) (y := ((p1 : Int), (p0 : Int), (k : Int))) hd (by rw [hl]; simpa using h1) (by rw [hl]; simpa using h0)
  have b2 := bump_snoc (r := (d : Int)) (far := F) (l := stT ps k ++ [((p1 : Int), (p0 : Int), (k : Int))]) (y := ((p0 : Int), (p1 : Int), (k : Int))) hd (by rw [hl]; simpa using h0) (by rw [hl]; simpa using h1)
  have l1 := bump_lo (l := stT ps k) hd hl hlo
  have l2 := bump_lo (l := stT ps k ++ [((p1 : Int), (p0 : Int), (k : Int))]) hd hl hlo
  rw [relax_lt (l1 _ (by simpa using h1))] at b1
  rw [relax_lt (l2 _ (by simpa using h0)), ← bump_congr e, ← b1] at b2
  simp only [Int.toNat_natCast] at b2
  rw [← b2]
  have hCl : (bump d F (stT ps k)).length = n := by rw [bump_length, hl]
  generalize bump d F (stT ps k) = C at hCl ⊢
  by_cases hA : C.getD p0 0 = (d : Int) ∧ C.getD p1 0 < 0
  · rw [if_pos hA, if_pos hA, if_neg]
    rw [getD_set9 _ _ _ _ (by omega), if_pos rfl]
    omega
  · rw [if_neg hA, if_neg hA]

/-- A seat that nears a goal. -/
theorem near_ok {t : TbV} (hg : GoodT t) {far : List Int} {n g a : Nat} (hn : n = t.s.toNat) (hok : FarOk (stT t.ps t.ps.length) n g n far) (ha : a < n) (h1 : 1 ≤ far.getD a 0) : ∃ s, s < n ∧ okS t.ps far a s = true := by
  obtain ⟨y, hy, e1, e2⟩ := hok.near a ha h1
  have hb := hg.stB (Nat.le_refl _) y hy
  have hp := prN_step hg hy
  refine ⟨y.2.1.toNat, by omega, okS_iff.2 ⟨?_, e2⟩⟩
  rw [show ((a : Nat) : Int) = y.1 by omega, show ((y.2.1.toNat : Nat) : Int) = y.2.1 by omega, hp]
  omega

end Go.Proofs.Ytbjpkklonjlmiaa
