/- Chapter 15: plain facts: how many pairs a seat is from a goal. -/
import Derived.Test.YtbjpkklonjlmiaaP15
namespace Go.Proofs.Ytbjpkklonjlmiaa
set_option linter.unusedVariables false
set_option maxRecDepth 1000000
set_option linter.unusedSimpArgs false

/-- One step looked at in a round. -/
def relax (r : Int) (far : List Int) (y : Stp) : List Int := if far.getD y.2.1.toNat 0 = r ∧ far.getD y.1.toNat 0 = -1 then far.set y.1.toNat (r + 1) else far
/-- Whether a seat is found in a round. -/
def found (r : Int) (far : List Int) (steps : List Stp) (i : Nat) : Bool := decide (far.getD i 0 = -1) && steps.any fun y => decide (y.1.toNat = i) && decide (far.getD y.2.1.toNat 0 = r)
theorem found_iff {r : Int} {far : List Int} {steps : List Stp} {i : Nat} : found r far steps i = true ↔ far.getD i 0 = -1 ∧ ∃ y ∈ steps, y.1.toNat = i ∧ far.getD y.2.1.toNat 0 = r := by
  unfold found
  simp only [Bool.and_eq_true, decide_eq_true_eq, List.any_eq_true]
/-- A round. -/
def bump (r : Int) (far : List Int) (steps : List Stp) : List Int := (List.range far.length).map fun i => if found r far steps i = true then r + 1 else far.getD i 0
theorem bump_length (r : Int) (far : List Int) (steps : List Stp) : (bump r far steps).length = far.length := by simp [bump]
theorem bump_get {r : Int} {far : List Int} {steps : List Stp} {i : Nat} (h : i < far.length) : (bump r far steps).getD i 0 = if found r far steps i = true then r + 1 else far.getD i 0 := by simp [bump, List.getD, h]
theorem bump_nil (r : Int) (far : List Int) : bump r far [] = far := by
  refine ext_getD (bump_length _ _ _) (fun i hi => ?_)
  rw [bump_length] at hi
  rw [bump_get hi, if_neg]
  rw [found_iff]
  rintro ⟨_, y, hy, _⟩
  simp at hy
theorem bump_congr {r : Int} {far : List Int} {a b : List Stp} (h : ∀ y, y ∈ a ↔ y ∈ b) : bump r far a = bump r far b := by
  refine ext_getD (by rw [bump_length, bump_length]) (fun i hi => ?_)
  rw [bump_length] at hi
  rw [bump_get hi, bump_get hi]
  have : found r far a i = found r far b i := by
    rw [Bool.eq_iff_iff, found_iff, found_iff]
    simp only [h]
  rw [this]
theorem bump_snoc {r : Int} {far : List Int} {l : List Stp} {y : Stp} (hr : 0 ≤ r) (h1 : y.1.toNat < far.length) (h2 : y.2.1.toNat < far.length) : relax r (bump r far l) y = bump r far (l ++ [y]) := by
  have e2 : (bump r far l).getD y.2.1.toNat 0 = r ↔ far.getD y.2.1.toNat 0 = r := by
    rw [bump_get h2]
    split
    · rename_i h
      rw [found_iff] at h
      constructor <;> intro k <;> omega
    · exact Iff.rfl
  have e1 : (bump r far l).getD y.1.toNat 0 = -1 ↔ far.getD y.1.toNat 0 = -1 ∧ found r far l y.1.toNat = false := by
    rw [bump_get h1]
    cases hf : found r far l y.1.toNat
    · simp
    · simp only [if_true]; constructor
      · intro k; omega
      · rintro ⟨_, k⟩; cases k
  have hs : ∀ i, found r far (l ++ [y]) i = (found r far l i || (decide (far.getD i 0 = -1) && (decide (y.1.toNat = i) && decide (far.getD y.2.1.toNat 0 = r)))) := fun i => by
    unfold found
    rw [List.any_append, Bool.and_or_distrib_left]
    simp
  refine ext_getD (by unfold relax; split <;> simp [bump_length]) (fun i hi => ?_)
  have hil : i < far.length := by
    have : (relax r (bump r far l) y).length = far.length := by unfold relax; split <;> simp [bump_length]
    omega
  rw [bump_get hil, hs]
  unfold relax
  simp only [e2, e1]
  by_cases hc : far.getD y.2.1.toNat 0 = r ∧ far.getD y.1.toNat 0 = -1 ∧ found r far l y.1.toNat = false
  · rw [if_pos hc, getD_set9 _ _ _ _ (by rw [bump_length]; exact h1)]
    by_cases e : i = y.1.toNat
    · subst e
      rw [if_pos rfl, if_pos]
      rw [decide_eq_true hc.2.1, decide_eq_true hc.1]; simp
    · rw [if_neg e, bump_get hil]
      have : decide (y.1.toNat = i) = false := decide_eq_false (fun h => e h.symm)
      rw [this]
      simp
  · rw [if_neg hc, bump_get hil]
    cases hf : found r far l i with
    | true => simp
    | false =>
      rw [Bool.false_or, if_neg (by simp), if_neg]
      intro h
      simp only [Bool.and_eq_true, decide_eq_true_eq] at h
      obtain ⟨a, b, c⟩ := h
      subst b
      exact hc ⟨c, a, hf⟩

/-- How far each seat is, behind d rounds. -/
def farN (steps : List Stp) (n g : Nat) : Nat → List Int
  | 0 => (List.replicate n (-1)).set g 0
  | d + 1 => bump d (farN steps n g d) steps
theorem farN_length (steps : List Stp) (n g : Nat) : ∀ d, (farN steps n g d).length = n
  | 0 => by simp [farN]
  | d + 1 => by rw [farN, bump_length, farN_length]
theorem farN_congr {a b : List Stp} (h : ∀ y, y ∈ a ↔ y ∈ b) (n g : Nat) : ∀ d, farN a n g d = farN b n g d
  | 0 => rfl
  | d + 1 => by rw [farN, farN, farN_congr h n g d, bump_congr h]
theorem farN_zero {steps : List Stp} {n g i : Nat} (hi : i < n) : (farN steps n g 0).getD i 0 = if i = g then 0 else -1 := by
  by_cases hg : g < n
  · rw [farN, getD_set9 _ _ _ _ (by simpa using hg)]
    simp [List.getD, hi]
  · rw [farN, List.set_eq_of_length_le (by simpa using Nat.le_of_not_lt hg), if_neg (by omega)]
    simp [List.getD, hi]

/-- What holds of the numbers behind d rounds. -/
structure FarOk (steps : List Stp) (n g d : Nat) (far : List Int) : Prop where
  len : far.length = n
  lo : ∀ i, i < n → -1 ≤ far.getD i 0
  hi : ∀ i, i < n → far.getD i 0 ≤ d
  z : ∀ i, i < n → (far.getD i 0 = 0 ↔ i = g)
  near : ∀ i, i < n → 1 ≤ far.getD i 0 → ∃ y ∈ steps, y.1.toNat = i ∧ far.getD y.2.1.toNat 0 = far.getD i 0 - 1
  back : ∀ y ∈ steps, 0 ≤ far.getD y.2.1.toNat 0 → far.getD y.2.1.toNat 0 < d → 0 ≤ far.getD y.1.toNat 0

theorem farN_ok {steps : List Stp} {n m g : Nat} (hb : StB n m steps) (hg : g < n) : ∀ d, FarOk steps n g d (farN steps n g d)
  | 0 => by
    refine ⟨farN_length _ _ _ _, fun i hi => ?_, fun i hi => ?_, fun i hi => ?_, fun i hi h => ?_, fun y hy h0 h1 => by omega⟩ <;> rw [farN_zero hi] at * <;> split at * <;> simp_all
  | d + 1 => by
    have ih := farN_ok (n := n) (m := m) hb hg d
    have L : ∀ i, i < n → i < (farN steps n g d).length := fun i hi => by rw [ih.len]; exact hi
    have G : ∀ i, i < n → (farN steps n g (d + 1)).getD i 0 = if found d (farN steps n g d) steps i = true then (d : Int) + 1 else (farN steps n g d).getD i 0 := fun i hi => bump_get (L i hi)
    have keep : ∀ i, i < n → 0 ≤ (farN steps n g d).getD i 0 → (farN steps n g (d + 1)).getD i 0 = (farN steps n g d).getD i 0 := fun i hi h => by
      rw [G i hi, if_neg]
      rw [found_iff]
      rintro ⟨h1, _⟩
      omega
    refine ⟨farN_length _ _ _ _, fun i hi => ?_, fun i hi => ?_, fun i hi => ?_, fun i hi h => ?_, fun y hy h0 h1 => ?_⟩
    · rw [G i hi]; split
      · omega
      · exact ih.lo i hi
    · rw [G i hi]; split
      · omega
      · have := ih.hi i hi; omega
    · rw [G i hi]
      split
      · rename_i hf
        rw [found_iff] at hf
        have := ih.z i hi
        constructor
        · intro k; omega
        · intro k; have := this.2 k; omega
      · exact ih.z i hi
    · rw [G i hi] at h ⊢
      split at h
      · rename_i hf
        rw [found_iff] at hf
        rw [if_pos (found_iff.2 hf)]
        obtain ⟨_, y, hy, e1, e2⟩ := hf
        have hy2 := hb y hy
        refine ⟨y, hy, e1, ?_⟩
        rw [keep _ (by omega) (by omega), e2]; omega
      · rename_i hf
        rw [if_neg hf]
        obtain ⟨y, hy, e1, e2⟩ := ih.near i hi h
        have hy2 := hb y hy
        exact ⟨y, hy, e1, by rw [keep _ (by omega) (by omega)]; exact e2⟩
    · have hy2 := hb y hy
      have i1 : y.1.toNat < n := by omega
      have i2 : y.2.1.toNat < n := by omega
      rw [G _ i2] at h0 h1
      rw [G _ i1]
      split at h0
      · rename_i hf; rw [if_pos hf] at h1; omega
      · rename_i hf
        rw [if_neg hf] at h1
        split
        · omega
        · rename_i hn
          by_cases e : (farN steps n g d).getD y.2.1.toNat 0 = d
          · by_cases e3 : (farN steps n g d).getD y.1.toNat 0 = -1
            · exact absurd (found_iff.2 ⟨e3, y, hy, rfl, e⟩) hn
            · have := ih.lo _ i1; omega
          · exact ih.back y hy h0 (by omega)

/-- How far each seat is from a goal; -1 where no way leads there. -/
def farL (steps : List Stp) (n g : Nat) : List Int := farN steps n g n
theorem farL_length (steps : List Stp) (n g : Nat) : (farL steps n g).length = n := farN_length _ _ _ _
theorem farL_congr {a b : List Stp} (h : ∀ y, y ∈ a ↔ y ∈ b) (n g : Nat) : farL a n g = farL b n g := farN_congr h n g n

/-- A round of the specification: each pair forth and back. -/
theorem relax_lt {r : Int} {far : List Int} {y : Stp} (h : -1 ≤ far.getD y.1.toNat 0) : relax r far y = if far.getD y.2.1.toNat 0 = r ∧ far.getD y.1.toNat 0 < 0 then far.set y.1.toNat (r + 1) else far := by
  unfold relax
  have : far.getD y.1.toNat 0 = -1 ↔ far.getD y.1.toNat 0 < 0 := by omega
  simp only [this]
theorem bump_lo {r : Int} {far : List Int} {l : List Stp} {n : Nat} (hr : 0 ≤ r) (hl : far.length = n) (h : ∀ i, i < n → -1 ≤ far.getD i 0) : ∀ i, i < n → -1 ≤ (bump r far l).getD i 0 := fun i hi => by
  rw [bump_get (by omega)]
  split
  · omega
  · exact h i hi

end Go.Proofs.Ytbjpkklonjlmiaa
