/- Plain facts on decimal digits, and the specification's OfDigits. -/
import Derived.Test.YtcklmgifboceaaaDoorSpecTimes2
import Derived.Test.YtcklmgifboceaaaDoorBigOf
import Derived.Test.YtcklmgifboceaaaDoorImplOne
namespace Go.Proofs.YtcklmgifboceaaaDoor
set_option linter.unusedVariables false
set_option maxRecDepth 1000000
set_option linter.unusedSimpArgs false
open Go.RowKit

def byts (s : ByteArray) : List Int := s.data.toList.map (fun b => (b.toNat : Int))

theorem byts_length (s : ByteArray) : (byts s).length = s.size := by simp [byts]
theorem byts_getD (s : ByteArray) (k : Nat) (h : k < s.size) : (byts s).getD k 0 = (s[k].toNat : Int) := by
  have h1 : k < (byts s).length := by rw [byts_length]; exact h
  simp only [List.getD, List.getElem?_eq_getElem h1, Option.getD_some]
  simp only [byts, List.getElem_map]
  rfl

def decV (l : List Int) : Int := l.foldl (fun acc c => 10 * acc + (c - 48)) 0

theorem decV_snoc (l : List Int) (c : Int) : decV (l ++ [c]) = 10 * decV l + (c - 48) := by simp [decV, List.foldl_append]

def DigAll (l : List Int) : Prop := ∀ c ∈ l, 48 ≤ c ∧ c ≤ 57

theorem digAll_take_succ {l : List Int} {k : Nat} (h : DigAll (l.take k)) (hk : k < l.length) (hc : 48 ≤ l.getD k 0 ∧ l.getD k 0 ≤ 57) : DigAll (l.take (k + 1)) := by
  rw [take_snoc_getD l k hk]
  intro c hm
  rcases List.mem_append.1 hm with hm | hm
  · exact h c hm
  · simp only [List.mem_singleton] at hm
    rw [hm]; exact hc

theorem decV_succ {l : List Int} {k : Nat} (hk : k < l.length) : decV (l.take (k + 1)) = 10 * decV (l.take k) + (l.getD k 0 - 48) := by
  rw [take_snoc_getD l k hk, decV_snoc]

theorem decV_bd {l : List Int} : ∀ k, k ≤ l.length → DigAll (l.take k) → 0 ≤ decV (l.take k) ∧ decV (l.take k) < (10 : Int) ^ k
  | 0, _, _ => by simp [decV]
  | k + 1, hk, h => by
    have hd : DigAll (l.take k) := fun c hc => h c (by rw [take_snoc_getD l k (by omega)]; exact List.mem_append_left _ hc)
    have hl := h (l.getD k 0) (by rw [take_snoc_getD l k (by omega)]; simp)
    obtain ⟨i1, i2⟩ := decV_bd k (by omega) hd
    rw [decV_succ (by omega), Int.pow_succ]
    omega

theorem pow10_30 {k : Nat} (h : k ≤ 30) : (10 : Int) ^ k ≤ 1000000000000000000000000000000 := by
  have : ∀ j : Fin 31, (10 : Int) ^ j.val ≤ 1000000000000000000000000000000 := by decide
  exact this ⟨k, by omega⟩

theorem decV_mono {l : List Int} (hd : DigAll l) : ∀ j k, k + j = l.length → decV (l.take k) ≤ decV l
  | 0, k, h => by rw [List.take_of_length_le (by omega)]; exact Int.le_refl _
  | j + 1, k, h => by
    have ih := decV_mono hd j (k + 1) (by omega)
    have hl := hd (l.getD k 0) (by
      simp only [List.getD, List.getElem?_eq_getElem (show k < l.length by omega), Option.getD_some]; exact List.getElem_mem _)
    have hb := (decV_bd (l := l) k (by omega) (fun c hc => hd c (List.mem_of_mem_take hc))).1
    rw [decV_succ (by omega)] at ih
    omega

def digOk (l : List Int) : Bool := l.all (fun c => decide (48 ≤ c) && decide (c ≤ 57))
theorem digOk_iff (l : List Int) : digOk l = true ↔ DigAll l := by simp [digOk, DigAll]

def digF (l : List Int) : List Int × Bool := if l.length < 1 ∨ 30 < l.length ∨ (1 < l.length ∧ l.getD 0 0 = 48) then ([], false) else if digOk l then tellF (decV l) else ([], false)

theorem digF_len {l : List Int} (h : l.length < 1 ∨ 30 < l.length ∨ (1 < l.length ∧ l.getD 0 0 = 48)) : digF l = ([], false) := by rw [digF, if_pos h]

theorem digF_bad {l : List Int} {k : Nat} (hk : k < l.length) (h : ¬ (48 ≤ l.getD k 0 ∧ l.getD k 0 ≤ 57)) : digF l = ([], false) := by
  have : digOk l = false := by
    rw [Bool.eq_false_iff]
    intro e
    apply h
    refine (digOk_iff l).1 e (l.getD k 0) ?_
    simp only [List.getD, List.getElem?_eq_getElem hk, Option.getD_some]; exact List.getElem_mem _
  rw [digF, this]; simp

theorem digF_over {l : List Int} {k : Nat} (hk : k ≤ l.length) (h : 79228162514264337593543950336 ≤ decV (l.take k)) : digF l = ([], false) := by
  by_cases hl : l.length < 1 ∨ 30 < l.length ∨ (1 < l.length ∧ l.getD 0 0 = 48)
  · exact digF_len hl
  · rw [digF, if_neg hl]
    cases hd : digOk l
    · simp
    · have := decV_mono ((digOk_iff l).1 hd) (l.length - k) k (by omega)
      rw [tellF_bad (by omega)]; simp

theorem digF_good {l : List Int} (hl : ¬ (l.length < 1 ∨ 30 < l.length ∨ (1 < l.length ∧ l.getD 0 0 = 48))) (hd : DigAll l) : digF l = tellF (decV l) := by
  rw [digF, if_neg hl, (digOk_iff l).2 hd]; simp

theorem digF_short {l zs : List Int} {fb : Bool} (h : digF l = (zs, fb)) : zs.length ≤ 6 := by
  by_cases hl : l.length < 1 ∨ 30 < l.length ∨ (1 < l.length ∧ l.getD 0 0 = 48)
  · rw [digF_len hl] at h
    simp only [Prod.mk.injEq] at h
    rw [← h.1]; simp
  · rw [digF, if_neg hl] at h
    cases hd : digOk l
    · rw [hd] at h
      simp at h
      rw [h.1]; simp
    · rw [hd] at h
      simp only [if_true] at h
      have hda := (digOk_iff l).1 hd
      have := (decV_bd (l := l) l.length (Nat.le_refl _) (by rw [List.take_of_length_le (Nat.le_refl _)]; exact hda)).1
      rw [List.take_of_length_le (Nat.le_refl _)] at this
      exact tellF_short this h

end Go.Proofs.YtcklmgifboceaaaDoor
