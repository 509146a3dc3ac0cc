/- Chapter 8: plain facts: lists in order, sets that are rising, texts by bytes, tags, mixes. -/
import Derived.Test.YtaokmjbhgkfnfaaBSs
namespace Go.Proofs.Ytaokmjbhgkfnfaa
set_option linter.unusedVariables false
set_option maxRecDepth 1000000
set_option linter.unusedSimpArgs false

/-- An order that is told by a Bool. -/
structure OrdB {α : Type} (lt : α → α → Bool) : Prop where
  irr : ∀ x, lt x x = false
  trans : ∀ {x y z}, lt x y = true → lt y z = true → lt x z = true
  tot : ∀ {x y}, lt x y = false → lt y x = false → x = y

variable {α : Type} (lt : α → α → Bool)

/-- How many from the front on are below x. -/
def posL (x : α) : List α → Nat
  | [] => 0
  | a :: r => if lt a x = true then posL x r + 1 else 0
/-- x at its place. -/
def insL (x : α) (l : List α) : List α := l.take (posL lt x l) ++ x :: l.drop (posL lt x l)
/-- Rising. -/
def Ris (l : List α) : Prop := l.Pairwise (fun a b => lt a b = true)
/-- Rising, told neighbour by neighbour. -/
def risB : List α → Bool
  | a :: b :: r => lt a b && risB (b :: r)
  | _ => true

variable {lt}

theorem posL_le (x : α) : ∀ l, posL lt x l ≤ l.length
  | [] => Nat.le_refl _
  | a :: r => by
    unfold posL
    split
    · have := posL_le x r; simp; omega
    · simp
theorem pos_lt (x d : α) : ∀ (l : List α) (k : Nat), k < posL lt x l → lt (l.getD k d) x = true
  | [], k, h => by simp [posL] at h
  | a :: r, k, h => by
    unfold posL at h
    split at h
    · rename_i ha
      cases k with
      | zero => simpa using ha
      | succ k => simpa using pos_lt x d r k (by omega)
    · omega
theorem pos_at (x d : α) : ∀ (l : List α), posL lt x l < l.length → lt (l.getD (posL lt x l) d) x = false
  | [], h => by simp [posL] at h
  | a :: r, h => by
    unfold posL at h ⊢
    by_cases ha : lt a x = true
    · rw [if_pos ha] at h ⊢
      simpa using pos_at x d r (by simp at h; omega)
    · rw [if_neg ha] at h ⊢
      simpa using ha
theorem ris_getD {l : List α} (h : Ris lt l) (d : α) {i j : Nat} (hij : i < j) (hj : j < l.length) : lt (l.getD i d) (l.getD j d) = true := by
  have := List.pairwise_iff_getElem.1 h i j (by omega) hj hij
  simpa [List.getD, show i < l.length by omega, hj] using this
theorem pos_ge (O : OrdB lt) {l : List α} (h : Ris lt l) (x d : α) {k : Nat} (hk : posL lt x l ≤ k) (hl : k < l.length) : lt (l.getD k d) x = false := by
  have h0 := pos_at (lt := lt) x d l (by omega)
  by_cases e : k = posL lt x l
  · rw [e]; exact h0
  · have h1 := ris_getD h d (show posL lt x l < k by omega) hl
    cases h2 : lt (l.getD k d) x with
    | false => rfl
    | true => rw [O.trans h1 h2] at h0; cases h0
theorem pos_mem (O : OrdB lt) {l : List α} (h : Ris lt l) (x d : α) : x ∈ l ↔ posL lt x l < l.length ∧ l.getD (posL lt x l) d = x := by
  constructor
  · intro hx
    obtain ⟨i, hi, e⟩ := List.getElem_of_mem hx
    have e' : l.getD i d = x := by simpa [List.getD, hi] using e
    have h1 : ¬ i < posL lt x l := fun hlt => by
      have := pos_lt x d l i hlt
      rw [e', O.irr] at this; cases this
    have h2 : ¬ posL lt x l < i := fun hlt => by
      have h0 := pos_at (lt := lt) x d l (by omega)
      have := ris_getD h d hlt hi
      rw [e', h0] at this; cases this
    have : i = posL lt x l := by omega
    subst this
    exact ⟨hi, e'⟩
  · rintro ⟨h1, h2⟩
    rw [← h2]
    simp only [List.getD, List.getElem?_eq_getElem h1, Option.getD_some]
    exact List.getElem_mem _
theorem insL_length (x : α) (l : List α) : (insL lt x l).length = l.length + 1 := by
  have := posL_le (lt := lt) x l
  simp [insL]; omega
theorem insL_mem (x y : α) (l : List α) : y ∈ insL lt x l ↔ y = x ∨ y ∈ l := by
  unfold insL
  have e : l = l.take (posL lt x l) ++ l.drop (posL lt x l) := (List.take_append_drop _ _).symm
  constructor
  · intro h
    rcases List.mem_append.1 h with h | h
    · exact Or.inr (List.mem_of_mem_take h)
    · rcases List.mem_cons.1 h with h | h
      · exact Or.inl h
      · exact Or.inr (List.mem_of_mem_drop h)
  · rintro (h | h)
    · exact List.mem_append.2 (Or.inr (List.mem_cons.2 (Or.inl h)))
    · rw [e] at h
      rcases List.mem_append.1 h with h | h
      · exact List.mem_append.2 (Or.inl h)
      · exact List.mem_append.2 (Or.inr (List.mem_cons.2 (Or.inr h)))
theorem insL_cons (x a : α) (r : List α) : insL lt x (a :: r) = if lt a x = true then a :: insL lt x r else x :: a :: r := by
  unfold insL
  by_cases h : lt a x = true
  · rw [if_pos h]; simp [posL, h]
  · rw [if_neg h]; simp [posL, h]
theorem insL_ris (O : OrdB lt) (x : α) : ∀ {l : List α}, Ris lt l → x ∉ l → Ris lt (insL lt x l)
  | [], _, _ => by simp [insL, posL, Ris]
  | a :: r, h, hx => by
    rw [insL_cons]
    obtain ⟨h1, h2⟩ := List.pairwise_cons.1 h
    by_cases ha : lt a x = true
    · rw [if_pos ha]
      refine List.pairwise_cons.2 ⟨fun y hy => ?_, insL_ris O x h2 (fun e => hx (List.mem_cons.2 (Or.inr e)))⟩
      rcases (insL_mem x y r).1 hy with e | e
      · rw [e]; exact ha
      · exact h1 y e
    · rw [if_neg ha]
      have hxa : lt x a = true := by
        cases e : lt x a with
        | true => rfl
        | false => exact absurd (O.tot e (by simpa using ha)) (fun e => hx (by rw [e]; simp))
      refine List.pairwise_cons.2 ⟨fun y hy => ?_, h⟩
      rcases List.mem_cons.1 hy with e | e
      · rw [e]; exact hxa
      · exact O.trans hxa (h1 y e)
theorem risB_ris (O : OrdB lt) : ∀ {l : List α}, risB lt l = true ↔ Ris lt l
  | [] => by simp [risB, Ris]
  | [a] => by simp [risB, Ris]
  | a :: b :: r => by
    have ih := risB_ris O (l := b :: r)
    rw [risB, Bool.and_eq_true, ih]
    constructor
    · rintro ⟨h1, h2⟩
      refine List.pairwise_cons.2 ⟨fun y hy => ?_, h2⟩
      rcases List.mem_cons.1 hy with e | e
      · rw [e]; exact h1
      · exact O.trans h1 ((List.pairwise_cons.1 h2).1 y e)
    · intro h
      obtain ⟨h1, h2⟩ := List.pairwise_cons.1 h
      exact ⟨h1 b (by simp), h2⟩
theorem risB_at (d : α) : ∀ {l : List α}, risB lt l = true ↔ ∀ i, i + 1 < l.length → lt (l.getD i d) (l.getD (i + 1) d) = true
  | [] => by simp [risB]
  | [a] => by simp [risB]
  | a :: b :: r => by
    have ih := risB_at d (l := b :: r)
    rw [risB, Bool.and_eq_true, ih]
    constructor
    · rintro ⟨h1, h2⟩ i hi
      cases i with
      | zero => simpa using h1
      | succ i => simpa using h2 i (by simpa using hi)
    · intro h
      exact ⟨by simpa using h 0 (by simp), fun i hi => by simpa using h (i + 1) (by simpa using hi)⟩

/-- By numbers. -/
def ltI (a b : Int) : Bool := decide (a < b)
theorem ordI : OrdB ltI where
  irr x := by simp [ltI]
  trans h1 h2 := by simp [ltI] at *; omega
  tot h1 h2 := by simp [ltI] at *; omega

/-- A mix. -/
structure MixV where
  pool : List ByteArray
  least : Int
  wait : Int
  old : Int
  seen : List Int
def MixV.zero : MixV := ⟨[], 0, 0, 0, []⟩

end Go.Proofs.Ytaokmjbhgkfnfaa
