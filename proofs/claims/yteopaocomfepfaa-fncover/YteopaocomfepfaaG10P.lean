/- Chapter 10: the law's own walk over what was said and what went out never finds a text that was not said. -/
import Derived.Test.YteopaocomfepfaaF10P
namespace Go.Proofs.Yteopaocomfepfaa
set_option linter.unusedVariables false
set_option maxRecDepth 1000000
set_option linter.unusedSimpArgs false

def gStep (said : List ByteArray) (k : Nat) (s : ByteArray) : Nat := if k < said.length ∧ said.getD k ByteArray.empty = s then k + 1 else k
def gK (said tx : List ByteArray) : Nat := tx.foldl (gStep said) 0
theorem gK_snoc (said tx : List ByteArray) (s : ByteArray) : gK said (tx ++ [s]) = gStep said (gK said tx) s := by
  unfold gK; rw [List.foldl_append]; rfl
theorem gStep_le {said : List ByteArray} {k : Nat} (s : ByteArray) (h : k ≤ said.length) : gStep said k s ≤ said.length ∧ k ≤ gStep said k s ∧ gStep said k s ≤ k + 1 := by
  unfold gStep
  split <;> omega
/-- What the walk has found is what has gone out, and beyond it only empty texts. -/
structure GOk (said a : List ByteArray) (k : Nat) : Prop where
  lo : a.length ≤ k
  hi : k ≤ said.length
  em : ∀ j, a.length ≤ j → j < k → said.getD j ByteArray.empty = ByteArray.empty
theorem gStep_new {said : List ByteArray} {k : Nat} {s : ByteArray} (h : gStep said k s ≠ k) : k < said.length ∧ said.getD k ByteArray.empty = s ∧ gStep said k s = k + 1 := by
  unfold gStep at h ⊢
  by_cases e : k < said.length ∧ said.getD k ByteArray.empty = s
  · rw [if_pos e]; exact ⟨e.1, e.2, rfl⟩
  · rw [if_neg e] at h; exact absurd rfl h
theorem prefix_at {a r : List ByteArray} {s : ByteArray} : (a ++ [s] ++ r).getD a.length ByteArray.empty = s := by
  simp [List.getD]
theorem GOk.none {said a : List ByteArray} {k : Nat} (h : GOk said a k) : GOk said a (gStep said k ByteArray.empty) := by
  obtain ⟨h1, h2, h3⟩ := gStep_le ByteArray.empty h.hi
  refine ⟨Nat.le_trans h.lo h2, h1, fun j hj hk => ?_⟩
  by_cases hjk : j < k
  · exact h.em j hj hjk
  · obtain rfl : j = k := by omega
    exact (gStep_new (by omega)).2.1
theorem GOk.gone {a r : List ByteArray} {s : ByteArray} {k : Nat} (h : GOk (a ++ [s] ++ r) a k) : GOk (a ++ [s] ++ r) (a ++ [s]) (gStep (a ++ [s] ++ r) k s) ∧ ((k < (a ++ [s] ++ r).length ∧ (a ++ [s] ++ r).getD k ByteArray.empty = s) ∨ s = ByteArray.empty) := by
  have hs : (a ++ [s] ++ r).getD a.length ByteArray.empty = s := prefix_at
  have hlen : (a ++ [s]).length = a.length + 1 := by simp
  have hlt : a.length < (a ++ [s] ++ r).length := by simp
  generalize (a ++ [s] ++ r) = said at *
  obtain ⟨h1, h2, h3⟩ := gStep_le s h.hi
  by_cases hk : k = a.length
  · subst hk
    have e : gStep said a.length s = a.length + 1 := by unfold gStep; rw [if_pos ⟨hlt, hs⟩]
    refine ⟨⟨by omega, by omega, fun j hj hj2 => ?_⟩, Or.inl ⟨hlt, hs⟩⟩
    omega
  · have hlo := h.lo
    have e : s = ByteArray.empty := by rw [← hs]; exact h.em a.length (Nat.le_refl _) (by omega)
    refine ⟨⟨by omega, h1, fun j hj hj2 => ?_⟩, Or.inr e⟩
    by_cases hjk : j < k
    · exact h.em j (by omega) hjk
    · obtain rfl : j = k := by omega
      rw [(gStep_new (said := said) (k := j) (s := s) (by omega)).2.1]; exact e
theorem out_ok {a tx : List ByteArray} (h : Out a tx) : ∀ r, GOk (a ++ r) a (gK (a ++ r) tx) := by
  induction h with
  | nil => intro r; exact ⟨Nat.le_refl _, Nat.zero_le _, fun j _ hj => absurd hj (Nat.not_lt_zero _)⟩
  | gone s h ih =>
    intro r
    rw [gK_snoc]
    have := ih ([s] ++ r)
    rw [← List.append_assoc] at this
    exact this.gone.1
  | none h ih =>
    intro r
    rw [gK_snoc]
    exact (ih r).none
/-- At every text the walk goes on. -/
theorem out_fine {a tx : List ByteArray} (h : Out a tx) : ∀ (r : List ByteArray) (i : Nat), i < tx.length → (gK (a ++ r) (tx.take i) < (a ++ r).length ∧ (a ++ r).getD (gK (a ++ r) (tx.take i)) ByteArray.empty = tx.getD i ByteArray.empty) ∨ tx.getD i ByteArray.empty = ByteArray.empty := by
  induction h with
  | nil => intro r i hi; exact absurd hi (Nat.not_lt_zero _)
  | @gone a tx s h ih =>
    intro r i hi
    by_cases hlt : i < tx.length
    · have := ih ([s] ++ r) i hlt
      rw [← List.append_assoc] at this
      rw [List.take_append_of_le_length (by omega)]
      have e : (tx ++ [s]).getD i ByteArray.empty = tx.getD i ByteArray.empty := by simp [List.getD, List.getElem?_append_left hlt]
      rw [e]
      exact this
    · obtain rfl : i = tx.length := by simp at hi; omega
      have e : (tx ++ [s]).getD tx.length ByteArray.empty = s := by simp [List.getD]
      rw [e, List.take_append_of_le_length (Nat.le_refl _), List.take_length]
      have := out_ok h ([s] ++ r)
      rw [← List.append_assoc] at this
      exact this.gone.2
  | @none a tx h ih =>
    intro r i hi
    by_cases hlt : i < tx.length
    · rw [List.take_append_of_le_length (by omega)]
      have e : (tx ++ [ByteArray.empty]).getD i ByteArray.empty = tx.getD i ByteArray.empty := by simp [List.getD, List.getElem?_append_left hlt]
      rw [e]
      exact ih r i hlt
    · obtain rfl : i = tx.length := by simp at hi; omega
      exact Or.inr (by simp [List.getD])
theorem gK_take {said tx : List ByteArray} {i : Nat} (h : i < tx.length) : gK said (tx.take (i + 1)) = gStep said (gK said (tx.take i)) (tx.getD i ByteArray.empty) := by
  rw [take_snoc ByteArray.empty h, gK_snoc]
theorem gK_le (said tx : List ByteArray) : ∀ i, i ≤ tx.length → gK said (tx.take i) ≤ said.length ∧ gK said (tx.take i) ≤ i := by
  intro i
  induction i with
  | zero => intro _; exact ⟨Nat.zero_le _, Nat.le_refl _⟩
  | succ i ih =>
    intro hi
    obtain ⟨h1, h2⟩ := ih (by omega)
    rw [gK_take (by omega)]
    have := gStep_le (tx.getD i ByteArray.empty) h1
    exact ⟨this.1, by omega⟩

end Go.Proofs.Yteopaocomfepfaa
