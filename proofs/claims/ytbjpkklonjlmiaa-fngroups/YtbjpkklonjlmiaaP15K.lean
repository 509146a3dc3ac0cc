/- Chapter 15: plain facts of the law on tables, as its walk asks for them. -/
import Derived.Test.YtbjpkklonjlmiaaP15H
import Derived.Test.YtbjpkklonjlmiaaS15B
import Derived.Test.YtbjpkklonjlmiaaOC15
import Derived.Test.YtbjpkklonjlmiaaT15
namespace Go.Proofs.Ytbjpkklonjlmiaa
set_option linter.unusedVariables false
set_option maxRecDepth 1000000
set_option linter.unusedSimpArgs false

theorem othV_sm (t : TbV) (a b x : Int) : SmallTb (othV t a b x) := by
  unfold othV
  split
  · rename_i h
    have h2 : wayB t a b = true := by unfold othB at h; rw [Bool.and_eq_true] at h; exact h.1
    have g := wayB_good h2
    exact ⟨by show t.ps.length ≤ _; have := g.pl; omega, by show (flipL t.cs _ x).length ≤ _; rw [flipL_length]; have := g.pl; have := g.cl; omega, fun l hl => by
      obtain ⟨j, hj, e⟩ := of_mem_getD [] hl
      rw [← e, (g.two j hj).1]; omega⟩
  · exact ⟨by simp, by simp, fun l hl => by simp at hl⟩
theorem ask_parts {t : TbV} {who word : Int} (h : askB t who word = true) : GoodT t ∧ goodTb t = true ∧ (-1 ≤ who ∧ who ≤ t.s - 1) ∧ byB word = true := by
  unfold askB at h
  rw [Bool.and_eq_true, Bool.and_eq_true] at h
  exact ⟨goodTb_iff t h.1, h.1, inB_iff.1 h.2.1, h.2.2⟩
theorem words_by {t : TbV} {who word : Int} (h : askB t who word = true) : ∀ k, k < t.s.toNat → byB ((wordsL t who word).getD k 0) = true := fun k hk => by
  obtain ⟨g, _, hw, hb⟩ := ask_parts h
  rw [wordsL_get (by omega) hk]
  split
  · exact hb
  · rfl
theorem sum_told {t : TbV} {who word : Int} (h : askB t who word = true) : sumF (allV t who word) = (if who = -1 then 0 else word, true) := by
  obtain ⟨g, _, hw, hb⟩ := ask_parts h
  have h6 := g.s6
  have hB : sumB (allV t who word) = true := by
    unfold sumB
    rw [Bool.and_eq_true, decide_eq_true_eq, allV_length h, List.all_eq_true]
    refine ⟨by omega, ?_⟩
    unfold allV
    rw [if_pos h]
    exact sayL_by g (words_by h)
  unfold sumF sumV
  rw [hB, if_pos rfl, sum_all h]
theorem say_told {t : TbV} {who word : Int} (h : askB t who word = true) {k : Nat} (hk : k < t.s.toNat) : saB t k who word = true ∧ saV t k who word = (allV t who word).getD k 0 := by
  have h1 : saB t k who word = true := by
    unfold saB
    rw [h, Bool.true_and]
    unfold seatB
    exact decide_eq_true (by omega)
  refine ⟨h1, ?_⟩
  unfold saV allV
  rw [if_pos h1, if_pos h, Int.toNat_natCast]
theorem oth_told {t : TbV} {who word : Int} (h : askB t who word = true) (b : Int) : othB t who b word = wayB t who b := by
  obtain ⟨_, _, _, hb⟩ := ask_parts h
  unfold othB
  rw [hb, Bool.and_true]

end Go.Proofs.Ytbjpkklonjlmiaa
