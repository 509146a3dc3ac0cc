/- Plain facts of FnHidden. -/
import Derived.Test.YtamppekadobagaaFP5P
namespace Go.Proofs.Ytamppekadobagaa
set_option linter.unusedVariables false
set_option linter.unusedSimpArgs false
open Go.RowKit

theorem fits_tell {l : List (Int × Int)} {s x y : Int} (h : fitsF l s = ((x, y), true)) :
    throughF (l ++ [(x, y)]) 0 = (s, true) ∧ (0 ≤ s ∧ s < 1499) ∧ l.length ≤ 7 ∧ 1 ≤ l.length ∧ ∀ o : Int, 0 ≤ o → o < 1499 → o ≠ s → ∃ y', fitsF l o = ((x, y'), true) ∧ y' ≠ y := by
  unfold fitsF at h
  split at h
  · rename_i hc
    obtain ⟨⟨h1, h8⟩, h2⟩ := hc
    simp only [Prod.mk.injEq, and_true] at h
    obtain ⟨hx, hy⟩ := h
    have hs : 0 ≤ s ∧ s ≤ 1498 := by unfold smallB at h2; exact decide_eq_true_iff.1 h2
    have hle := leastN_le (fsts l)
    have hnot := (leastN_is (fsts l)).1
    obtain ⟨fl, rfl, hg⟩ := partsB_parts h1
    have hlen : (fsts (pIs fl)).length = fl.length := by rw [fsts_pIs, vIs_length, List.length_map]
    rw [pIs_length] at h8 ⊢
    rw [hlen] at hle
    have hlen8 := hg.2.2.2
    have e0 : vI (toF x) = x := vI_toF' (by omega) (by omega)
    rw [hx] at hnot hy
    have hxn : toF x ∉ fl.map Prod.fst := fun hm => hnot (by
      rw [fsts_pIs, ← e0]
      exact List.mem_map_of_mem hm)
    have hx0 : toF x ≠ 0 := fun e => by
      rw [e, vI_zero] at e0
      omega
    rw [pIs_toP] at hy
    have hg2 : ∀ v : F, GoodP (fl ++ [(toF x, v)]) := fun v => ⟨by
        rw [List.map_append, List.nodup_append]
        refine ⟨hg.1, by simp, fun a ha b hb => ?_⟩
        simp at hb
        rintro rfl
        exact hxn (hb ▸ ha), fun p hp => by
        rcases List.mem_append.1 hp with hp | hp
        · exact hg.2.1 p hp
        · simp at hp
          rw [hp]; exact hx0, by simp, by simp; omega⟩
    refine ⟨?_, ⟨hs.1, by omega⟩, by omega, hg.2.2.1, ?_⟩
    · have e : pIs fl ++ [(x, y)] = pIs (fl ++ [(toF x, fitF fl (toF s) (toF x))]) := by
        unfold pIs
        rw [List.map_append, List.map_cons, List.map_nil, pI, e0, hy]
      have t := throughF_good (hg2 (fitF fl (toF s) (toF x))) 0
      rw [vI_zero] at t
      rw [e, t, fitF_joins fl hg.1 hg.2.1 _ _ hxn, vI_toF' hs.1 (by omega)]
    · intro o o0 o1 hne
      refine ⟨vI (fitF fl (toF o) (toF x)), ?_, ?_⟩
      · unfold fitsF
        have : smallB o = true := by unfold smallB; exact decide_eq_true_iff.2 ⟨o0, by omega⟩
        rw [if_pos ⟨⟨h1, by rw [pIs_length]; exact h8⟩, this⟩, hx, pIs_toP]
      · rw [← hy]
        intro e
        have e2 := vI_inj e
        refine fitF_unlike fl hg.1 hg.2.1 (toF o) (toF s) (toF x) hxn (fun e3 => hne ?_) e2
        have := congrArg vI e3
        rw [vI_toF' o0 o1, vI_toF' hs.1 (by omega)] at this
        exact this
  · simp at h

/-- The running sum. -/
def sumI (zs : List Int) : Int := zs.foldl (fun n k => (n + k) % 1499) 0
theorem sumI_step {zs : List Int} {k : Nat} (h : k < zs.length) : sumI (zs.take (k + 1)) = (sumI (zs.take k) + zs.getD k 0) % 1499 := by
  unfold sumI
  rw [List.take_succ_eq_append_getElem h, List.foldl_append]
  simp [List.getD, h]
theorem sumI_run : ∀ (fs : List F) (a : F), (vIs fs).foldl (fun n k => (n + k) % 1499) (vI a) = vI (a + fs.foldr (fun x v => v + x) 0)
  | [], a => by show vI a = vI (a + 0); congr 1; grind -lia
  | b :: r, a => by
    show (vIs r).foldl _ ((vI a + vI b) % 1499) = _
    rw [vI_add, sumI_run r, List.foldr_cons]
    congr 1
    grind -lia
theorem weights_tell {xs zs : List Int} (h : weightsF xs = (zs, true)) : sumI zs = 1 ∧ (∀ k, k < zs.length → 0 ≤ zs.getD k 0 ∧ zs.getD k 0 < 1499) ∧ ∀ k, k ≤ zs.length → 0 ≤ sumI (zs.take k) ∧ sumI (zs.take k) < 1499 := by
  unfold weightsF at h
  split at h
  · rename_i hc
    simp only [Prod.mk.injEq, and_true] at h
    obtain ⟨fs, rfl, hn, h0, h1, h8⟩ := placesB_parts hc
    rw [vIs_toF] at h
    subst h
    refine ⟨?_, fun k hk => ?_, fun k hk => ?_⟩
    · unfold sumI
      have := sumI_run (wts fs 0) 0
      rw [vI_zero] at this
      rw [this]
      have e : (wts fs 0).foldr (fun x v => v + x) 0 = fs.foldr (fun x v => v + wtF fs x 0) 0 := by
        unfold wts; rw [List.foldr_map]
      rw [e, weights_one fs hn (fun e => by rw [e] at h1; simp at h1) 0]
      rfl
    · rw [vIs_length] at hk
      rw [vIs_getD _ _ hk]; exact vI_mem _
    · have e : (vIs (wts fs 0)).take k = vIs ((wts fs 0).take k) := by unfold vIs; rw [List.map_take]
      unfold sumI
      have := sumI_run ((wts fs 0).take k) 0
      rw [vI_zero] at this
      rw [e, this]; exact vI_mem _
  · simp at h
theorem poly_tell {l : List (Int × Int)} {zs : List Int} (h : polyThF l = (zs, true)) : ∀ k, k < l.length → valueF zs (l.getD k (0, 0)).1 = ((l.getD k (0, 0)).2, true) := by
  unfold polyThF at h
  split at h
  · rename_i hc
    simp only [Prod.mk.injEq, and_true] at h
    obtain ⟨fl, rfl, hg⟩ := partsB_parts hc
    rw [pIs_toP] at h
    subst h
    intro k hk
    rw [pIs_length] at hk
    have e : (pIs fl).getD k (0, 0) = pI (fl[k]) := by unfold pIs; simp [List.getD, hk]
    have hl := polyF_length fl hg.1
    rw [e]
    show valueF _ (vI (fl[k]).1) = (vI (fl[k]).2, true)
    rw [valueF_good (by rw [hl]; exact hg.2.2.1) (by rw [hl]; exact hg.2.2.2), polyF_ev fl hg.1, thF_at fl hg.1 _ (List.getElem_mem hk)]
  · simp at h

end Go.Proofs.Ytamppekadobagaa
