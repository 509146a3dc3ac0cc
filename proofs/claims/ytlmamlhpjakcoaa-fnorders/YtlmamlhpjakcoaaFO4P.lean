/- Plain facts for the law on orders. -/
import Derived.Test.YtlmamlhpjakcoaaNS4
import Derived.Test.YtlmamlhpjakcoaaOS4
import Derived.Test.YtlmamlhpjakcoaaSH4
namespace Go.Proofs.Ytlmamlhpjakcoaa
set_option linter.unusedVariables false
set_option linter.unusedSimpArgs false
open Go.RowKit

theorem orderF_true {x y : Int} {zs : List Int} (h : orderF x y = (zs, true)) : ∃ m N : Nat, x = m ∧ y = N ∧ m ≤ 9 ∧ N < fac m ∧ zs = ordL m (upI m) N := by
  unfold orderF at h
  split at h
  · rename_i hc
    simp only [Prod.mk.injEq, and_true] at h
    exact ⟨x.toNat, y.toNat, by omega, by omega, by omega, by omega, h.symm⟩
  · simp at h
theorem orderF_of {m N : Nat} (hm : m ≤ 9) (hN : N < fac m) : orderF m N = (ordL m (upI m) N, true) := by
  unfold orderF
  rw [if_pos ⟨by omega, by omega, by simpa using hN⟩]
  simp
theorem numberF_ord {m N : Nat} (hm : m ≤ 9) (hN : N < fac m) : numberF (ordL m (upI m) N) = ((N : Int), true) := by
  unfold numberF
  rw [if_pos ((ordB_iff _).2 (isOrd_ordL hm hN)), num_ord m (upI m) N (upI_length m) (up_upI m) hN]
theorem ordersF_of {m : Nat} (hm : m ≤ 9) : ordersF m = (((fac m : Nat) : Int), true) := by
  unfold ordersF
  rw [if_pos ⟨by omega, by omega⟩]
  simp
theorem firstLess_step {ys zs : List Int} {m k : Nat} (hy : ys.length = m) (hz : zs.length = m) (hk : k < m) : firstLess (ys.drop k) (zs.drop k) = if ys.getD k 0 = zs.getD k 0 then firstLess (ys.drop (k + 1)) (zs.drop (k + 1)) else decide (ys.getD k 0 < zs.getD k 0) := by
  rw [drop_getD hy hk, drop_getD hz hk]; rfl
theorem firstLess_end {ys zs : List Int} {m k : Nat} (hy : ys.length = m) (hk : m ≤ k) : firstLess (ys.drop k) (zs.drop k) = false := by
  rw [List.drop_of_length_le (by omega)]; simp [firstLess]

/-- How often a text is there. -/
def cntS (t : ByteArray) (l : List ByteArray) : Nat := (l.filter (fun x => x.toList == t.toList)).length
theorem cntS_le (t : ByteArray) (l : List ByteArray) : cntS t l ≤ l.length := List.length_filter_le _ _
theorem cntS_step {t : ByteArray} {l : List ByteArray} {n j : Nat} (hl : l.length = n) (h : j < n) : cntS t (l.take (j + 1)) = cntS t (l.take j) + (if ((l.getD j ByteArray.empty).toList == t.toList) = true then 1 else 0) := by
  have hj : j < l.length := by omega
  rw [List.take_succ_eq_append_getElem hj]
  unfold cntS
  rw [List.filter_append, List.length_append]
  have e : l.getD j ByteArray.empty = l[j] := by simp [List.getD, hj]
  rw [e]
  by_cases hh : (l[j].toList == t.toList) = true
  · simp [hh]
  · simp [hh]
theorem swap_perm {l : List ByteArray} {k i : Nat} (hk : k < l.length) (hi : i < l.length) : (swapS l k i).Perm l := by
  unfold swapS
  have e1 : l.getD i ByteArray.empty = l[i] := by simp [List.getD, hi]
  have e2 : l.getD k ByteArray.empty = l[k] := by simp [List.getD, hk]
  rw [e1, e2]
  exact List.set_set_perm hk hi
theorem shuf_perm {ds : List Int} (hn : nonneg ds = true) : ∀ (k : Nat) (l : List ByteArray), k < ds.length → ds.length = l.length → (shufF ds k l).Perm l
  | 0, l, _, _ => List.Perm.refl _
  | k + 1, l, hk, hl => by
    rw [shufF]
    have ho : otherN ds (k + 1) ≤ k + 1 := other_lt (nonneg_at hn hk)
    exact (shuf_perm hn k _ (by omega) (by rw [swapS_length]; exact hl)).trans (swap_perm (by omega) (by omega))
theorem shuffle_cnt {ds : List Int} {ls zs : List ByteArray} (h : shuffleF ds ls = (zs, true)) (t : ByteArray) : cntS t zs = cntS t ls ∧ zs.length = ls.length := by
  unfold shuffleF at h
  split at h
  · rename_i hc
    simp only [Prod.mk.injEq, and_true] at h
    simp only [shufG, Bool.and_eq_true, decide_eq_true_eq] at hc
    rw [← h]
    refine ⟨?_, shufF_length _ _ _⟩
    by_cases h0 : ls.length = 0
    · rw [h0]; rfl
    · exact ((shuf_perm hc.2.2 (ls.length - 1) ls (by omega) hc.2.1).filter _).length_eq
  · simp at h

end Go.Proofs.Ytlmamlhpjakcoaa
