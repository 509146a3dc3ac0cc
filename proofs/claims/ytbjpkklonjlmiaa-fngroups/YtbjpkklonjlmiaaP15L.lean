/- Chapter 15: plain facts of the law on groups, as its walk asks for them. -/
import Derived.Test.YtbjpkklonjlmiaaP15I
import Derived.Test.YtbjpkklonjlmiaaP15K
namespace Go.Proofs.Ytbjpkklonjlmiaa
set_option linter.unusedVariables false
set_option maxRecDepth 1000000
set_option linter.unusedSimpArgs false

theorem tog_told {t : TbV} {ws : List Int} (h : togB t ws = true) : sumF (togV t ws) = (sumX ws, true) ∧ sumF ws = (sumX ws, true) := by
  have hs := sum_tog h
  have h2 := h
  unfold togB at h2
  rw [Bool.and_eq_true, Bool.and_eq_true, decide_eq_true_eq] at h2
  have g := goodTb_iff t h2.1
  have h6 := g.s6
  have hB : sumB ws = true := by
    unfold sumB
    rw [Bool.and_eq_true, decide_eq_true_eq]
    exact ⟨by omega, h2.2.2⟩
  have hB2 : sumB (togV t ws) = true := by
    unfold sumB togV
    rw [if_pos h, Bool.and_eq_true, decide_eq_true_eq, sayL_length, List.all_eq_true]
    exact ⟨by omega, sayL_by g (fun k hk => List.all_eq_true.1 h2.2.2 _ (mem_getD 0 (by omega)))⟩
  unfold sumF sumV
  rw [hB, hB2, if_pos rfl, if_pos rfl, hs]
  exact ⟨rfl, rfl⟩

/-- How many the first k groups have. -/
def sumLen (G : List (List Int)) (k : Nat) : Nat := ((G.take k).map List.length).sum
theorem sumLen_zero (G : List (List Int)) : sumLen G 0 = 0 := by simp [sumLen]
theorem sumLen_succ {G : List (List Int)} {k : Nat} (h : k < G.length) : sumLen G (k + 1) = sumLen G k + (G.getD k []).length := by
  unfold sumLen
  rw [take_snoc [] h, List.map_append, List.sum_append]
  simp
theorem grp_told {t : TbV} (hg : goodTb t = true) : (grpV t).length ≤ 6 ∧ (∀ l ∈ grpV t, l.length ≤ 6) ∧ ((sumLen (grpV t) (grpV t).length : Nat) : Int) = t.s ∧ ∀ k, k < (grpV t).length → ∀ a b : Int, a ∈ (grpV t).getD k [] → 0 ≤ b → b < t.s → decide (b ∈ (grpV t).getD k []) = wayB t a b := by
  have g := goodTb_iff t hg
  have h1 := g.s1
  have h6 := g.s6
  have e : grpV t = grpsL t t.s.toNat t.s.toNat := by unfold grpV; rw [if_pos hg]
  rw [e]
  refine ⟨by have := grpsL_length t t.s.toNat t.s.toNat; omega, fun l hl => ?_, ?_, fun k hk a b ha hb0 hb => ?_⟩
  · unfold grpsL at hl
    obtain ⟨j, _, e⟩ := List.mem_map.1 hl
    rw [← e]
    have := grpL_length t t.s.toNat j
    omega
  · unfold sumLen
    rw [List.take_length, grps_all g rfl]
    omega
  · have hx : (grpsL t t.s.toNat t.s.toNat).getD k [] ∈ grpsL t t.s.toNat t.s.toNat := mem_getD [] hk
    generalize (grpsL t t.s.toNat t.s.toNat).getD k [] = x at ha hx
    obtain ⟨i, rfl⟩ : ∃ i : Nat, a = i := by
      unfold grpsL at hx
      obtain ⟨j, _, e⟩ := List.mem_map.1 hx
      subst e
      unfold grpL at ha
      obtain ⟨i, _, e2⟩ := List.mem_map.1 ha
      exact ⟨i, e2.symm⟩
    obtain ⟨j, rfl⟩ : ∃ j : Nat, b = j := ⟨b.toNat, by omega⟩
    have h9 := grp_way hg hx ha (b := j) (by omega)
    cases hq : wayB t i j
    · exact decide_eq_false (fun e => by rw [h9.1 e] at hq; cases hq)
    · exact decide_eq_true (h9.2 hq)
theorem way_good {t : TbV} {a b : Int} (h : wayB t a b = true) : goodTb t = true := by
  unfold wayB twoB at h
  rw [Bool.and_eq_true, Bool.and_eq_true] at h
  exact h.1.1

end Go.Proofs.Ytbjpkklonjlmiaa
