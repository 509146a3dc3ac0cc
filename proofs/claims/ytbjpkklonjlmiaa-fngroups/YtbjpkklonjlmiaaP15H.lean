/- Chapter 15: plain facts: with other coins any other one of the group says the same. -/
import Derived.Test.YtbjpkklonjlmiaaP15G
namespace Go.Proofs.Ytbjpkklonjlmiaa
set_option linter.unusedVariables false
set_option maxRecDepth 1000000
set_option linter.unusedSimpArgs false

theorem othV_eq {t : TbV} {a b x : Int} (h : othB t a b x = true) : othV t a b x = ⟨t.s, t.ps, flipL t.cs (wayV t a b) x⟩ := by unfold othV; rw [if_pos h]
theorem othB_parts {t : TbV} {a b x : Int} (h : othB t a b x = true) : goodTb t = true ∧ (0 ≤ a ∧ a < t.s) ∧ (0 ≤ b ∧ b < t.s) ∧ (farT t b.toNat).getD a.toNat 0 ≠ -1 ∧ byB x = true ∧ wayB t a b = true := by
  unfold othB at h
  rw [Bool.and_eq_true] at h
  have h2 := h.1
  unfold wayB at h2
  rw [Bool.and_eq_true, twoB_eq, Bool.and_eq_true, Bool.and_eq_true] at h2
  have ha := h2.1.2.1
  have hb := h2.1.2.2
  unfold seatB at ha hb
  exact ⟨h2.1.1, of_decide_eq_true ha, of_decide_eq_true hb, of_decide_eq_true h2.2, h.2, h.1⟩
theorem othV_good {t : TbV} {a b x : Int} (h : othB t a b x = true) : goodTb (othV t a b x) = true := by
  obtain ⟨hg, _, _, _, hx, _⟩ := othB_parts h
  have g := goodTb_iff t hg
  rw [othV_eq h]
  unfold goodTb at hg ⊢
  simp only [Bool.and_eq_true, decide_eq_true_eq] at hg ⊢
  refine ⟨hg.1, by rw [flipL_length]; exact hg.2.1, hg.2.2.1, hg.2.2.2.1, hg.2.2.2.2.1, List.all_eq_true.2 (fun y hy => ?_)⟩
  obtain ⟨j, hj, e⟩ := of_mem_getD 0 hy
  rw [← e]
  exact flip_by hx g.by' j hj
theorem oth_way {t : TbV} {a b x : Int} (h : othB t a b x = true) : Way t.ps a (wayV t a b) b := by
  obtain ⟨hg, ha, hb, hf, hx, hw⟩ := othB_parts h
  have g := goodTb_iff t hg
  obtain ⟨i, rfl⟩ : ∃ i : Nat, a = (i : Int) := ⟨a.toNat, by omega⟩
  obtain ⟨j, rfl⟩ : ∃ j : Nat, b = (j : Int) := ⟨b.toNat, by omega⟩
  rw [Int.toNat_natCast, Int.toNat_natCast] at hf
  have hs := g.stB (Nat.le_refl t.ps.length)
  have ho : FarOk (stT t.ps t.ps.length) t.s.toNat j t.s.toNat (farT t j) := by unfold farT farL; exact farN_ok hs (by omega) _
  have hlo := ho.lo i (by omega)
  have := way_wayL g rfl (g := j) (by omega) ((farT t j).getD i 0).toNat i (by omega) (by omega)
  unfold wayV
  rw [if_pos hw, Int.toNat_natCast, Int.toNat_natCast]
  exact this
/-- At the table that OtherCoins tells, the other one's AllSay is the same. -/
theorem oth_say {t : TbV} {a b x : Int} (h : othB t a b x = true) : sayL (othV t a b x) (wordsL (othV t a b x) b x) = sayL t (wordsL t a x) := by
  obtain ⟨hg, ha, hb, hf, hx, hw⟩ := othB_parts h
  have g := goodTb_iff t hg
  have hway := oth_way h
  rw [othV_eq h]
  refine ext_getD (by rw [sayL_length, sayL_length]) (fun i hi => ?_)
  rw [sayL_length] at hi
  have hi2 : i < t.s.toNat := hi
  rw [sayL_get _ _ hi, sayL_get _ _ hi2, wordsL_get (by omega) hi, wordsL_get (by omega) hi2]
  show xr (indX i b x) (coP (flipL t.cs (wayV t a b) x) t.ps i t.ps.length) = xr (indX i a x) (coP t.cs t.ps i t.ps.length)
  rw [coP_flip hx hway g.by' g.cl i]
  have ha0 := indX_nonneg (byB_iff.1 hx).1 i a
  have hc0 := (byB_iff.1 (coP_by (i := (i : Int)) (ps := t.ps) g.by' t.ps.length (by rw [g.cl]; exact Nat.le_refl _))).1
  generalize indX i b x = v
  generalize indX i a x = u at ha0
  generalize coP t.cs t.ps i t.ps.length = c at hc0
  rw [xr_comm u v, ← xr_assoc c v u, xr_comm c v, xr_assoc v c u, ← xr_assoc v v, xr_self, zero_xr (xr_nonneg _ _), xr_comm c u]
theorem oth_all {t : TbV} {a b x : Int} (h : othB t a b x = true) : askB (othV t a b x) b x = true ∧ allV (othV t a b x) b x = allV t a x := by
  obtain ⟨hg, ha, hb, hf, hx, hw⟩ := othB_parts h
  have hs : (othV t a b x).s = t.s := by rw [othV_eq h]
  have h1 : askB (othV t a b x) b x = true := by
    unfold askB
    rw [othV_good h, hs, hx, Bool.and_true, Bool.true_and]
    exact inB_iff.2 ⟨by omega, by omega⟩
  have h2 : askB t a x = true := by
    unfold askB
    rw [hg, hx, Bool.and_true, Bool.true_and]
    exact inB_iff.2 ⟨by omega, by omega⟩
  refine ⟨h1, ?_⟩
  unfold allV
  rw [if_pos h1, if_pos h2]
  exact oth_say h
/-- What all say together is the word, or nothing. -/
theorem sum_all {t : TbV} {who word : Int} (h : askB t who word = true) : sumX (allV t who word) = if who = -1 then 0 else word := by
  have h2 := h
  unfold askB at h2
  rw [Bool.and_eq_true, Bool.and_eq_true] at h2
  have g := goodTb_iff t h2.1
  have hw := inB_iff.1 h2.2.1
  have hby := h2.2.2
  have h0 := (byB_iff.1 hby).1
  have hs1 := g.s1
  unfold allV
  rw [if_pos h, sum_say g (wordsL_length _ _ _) (fun y hy => by
    obtain ⟨j, hj, e⟩ := of_mem_getD 0 hy
    rw [wordsL_length] at hj
    rw [← e, wordsL_get (by omega) hj]
    split
    · exact hby
    · rfl)]
  have hk : ∀ k, k ≤ t.s.toNat → sumX ((wordsL t who word).take k) = if 0 ≤ who ∧ who < (k : Int) then word else 0 := by
    intro k
    induction k with
    | zero => intro _; rw [List.take_zero, if_neg (by omega)]; rfl
    | succ k ih =>
      intro hk
      rw [sumX_take (by rw [wordsL_length]; omega), ih (by omega), wordsL_get (by omega) (by omega)]
      by_cases e : (k : Int) = who
      · rw [if_neg (by omega), if_pos e, if_pos (by omega), zero_xr h0]
      · rw [if_neg e]
        by_cases e2 : 0 ≤ who ∧ who < (k : Int)
        · rw [if_pos e2, if_pos (by omega), xr_zero h0]
        · rw [if_neg e2, if_neg (by omega), zero_xr (Int.le_refl 0)]
  have := hk t.s.toNat (Nat.le_refl _)
  rw [List.take_of_length_le (by rw [wordsL_length]; exact Nat.le_refl _)] at this
  rw [this]
  by_cases e : who = -1
  · rw [if_pos e, if_neg (by omega)]
  · rw [if_neg e, if_pos (by omega)]

end Go.Proofs.Ytbjpkklonjlmiaa
