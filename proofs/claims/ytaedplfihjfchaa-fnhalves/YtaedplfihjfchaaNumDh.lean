/- Bits of a list of limbs, from the top; a quotient and a rest bit by bit. -/
import Derived.Test.YtaedplfihjfchaaNumh
namespace Go.Proofs.Ytaedplfihjfchaa
set_option linter.unusedVariables false
set_option maxRecDepth 1000000
set_option linter.unusedSimpArgs false

/-- The number that the bits from number i on make. -/
def hiV (xs : List Int) (i : Nat) : Int := val (xs.drop (i / 16)) / 2 ^ (i % 16)
/-- Bit number i. -/
def bitV (xs : List Int) (i : Nat) : Int := xs.getD (i / 16) 0 / 2 ^ (i % 16) % 2

theorem below16 {b : Nat} (h : b < 16) : b = 0 ∨ b = 1 ∨ b = 2 ∨ b = 3 ∨ b = 4 ∨ b = 5 ∨ b = 6 ∨ b = 7 ∨ b = 8 ∨ b = 9 ∨ b = 10 ∨ b = 11 ∨ b = 12 ∨ b = 13 ∨ b = 14 ∨ b = 15 := by omega

theorem bit_split {b : Nat} (hb : b < 15) {X x Y : Int} (e : X = x + 65536 * Y) (h0 : 0 ≤ x) (h1 : x < 65536) : X / 2 ^ b = 2 * (X / 2 ^ (b + 1)) + x / 2 ^ b % 2 := by
  subst e
  rcases below16 (show b < 16 by omega) with rfl | rfl | rfl | rfl | rfl | rfl | rfl | rfl | rfl | rfl | rfl | rfl | rfl | rfl | rfl | rfl
  all_goals (try simp only [Nat.reduceAdd, Int.reducePow])
  all_goals omega

theorem hiV_step {xs : List Int} (h : Digs xs) (i : Nat) : hiV xs i = 2 * hiV xs (i + 1) + bitV xs i := by
  have e := val_drop' xs (i / 16)
  have d := h.getD (i / 16)
  unfold hiV bitV
  by_cases hb : i % 16 = 15
  · rw [show (i + 1) / 16 = i / 16 + 1 by omega, show (i + 1) % 16 = 0 by omega, hb]
    generalize val (xs.drop (i / 16)) = X at e ⊢
    generalize val (xs.drop (i / 16 + 1)) = Y at e ⊢
    generalize xs.getD (i / 16) 0 = x at e d ⊢
    simp only [Int.reducePow]
    omega
  · rw [show (i + 1) / 16 = i / 16 by omega, show (i + 1) % 16 = i % 16 + 1 by omega]
    exact bit_split (by omega) e d.1 d.2

theorem hiV_top (xs : List Int) : hiV xs (16 * xs.length) = 0 := by
  unfold hiV
  rw [show 16 * xs.length / 16 = xs.length by omega, List.drop_length]
  simp [val]

theorem hiV_zero (xs : List Int) : hiV xs 0 = val xs := by simp [hiV]

theorem hiV_nonneg {xs : List Int} (h : Digs xs) (i : Nat) : 0 ≤ hiV xs i :=
  Int.ediv_nonneg (val_nonneg (h.drop _)) (Int.le_of_lt (Int.pow_pos (by omega)))

theorem bitV_bd (xs : List Int) (i : Nat) : 0 ≤ bitV xs i ∧ bitV xs i ≤ 1 := by
  unfold bitV; omega

theorem hiV_le {xs : List Int} (h : Digs xs) : ∀ i : Nat, hiV xs i ≤ val xs
  | 0 => by rw [hiV_zero]; exact Int.le_refl _
  | i + 1 => by
    have h1 := hiV_le h i
    have h2 := hiV_step h i
    have h3 := hiV_nonneg h (i + 1)
    have h4 := bitV_bd xs i
    omega

theorem ed_unique {V B q r : Int} (hB : 0 < B) (e : r + B * q = V) (h0 : 0 ≤ r) (h1 : r < B) : V / B = q ∧ V % B = r :=
  (Int.ediv_emod_unique hB).2 ⟨e, h0, h1⟩

theorem div_low {V B b : Int} (hB : 0 < B) (h0 : 0 ≤ b) (h : 2 * (V % B) + b < B) : (2 * V + b) / B = 2 * (V / B) ∧ (2 * V + b) % B = 2 * (V % B) + b := by
  have e := Int.emod_add_mul_ediv V B
  have n := Int.emod_nonneg V (show B ≠ 0 by omega)
  refine ed_unique hB ?_ (by omega) h
  rw [Int.mul_left_comm]
  omega

theorem div_high {V B b : Int} (hB : 0 < B) (h1 : b ≤ 1) (h : ¬ 2 * (V % B) + b < B) : (2 * V + b) / B = 2 * (V / B) + 1 ∧ (2 * V + b) % B = 2 * (V % B) + b - B := by
  have e := Int.emod_add_mul_ediv V B
  have n := Int.emod_lt_of_pos V hB
  refine ed_unique hB ?_ (by omega) (by omega)
  rw [Int.mul_add, Int.mul_left_comm, Int.mul_one]
  omega

/-- The row O holds the bits of Q from number k on, and nought below. -/
def OQ (O : List Int) (k : Nat) (Q : Int) : Prop := O.length = 6 ∧ Digs O ∧ val (O.drop (k / 16)) = Q * 2 ^ (k % 16) ∧ ∀ j, j < k / 16 → O.getD j 0 = 0

theorem oq_top : OQ [0, 0, 0, 0, 0, 0] 96 0 := by
  refine ⟨rfl, digs_replicate 6, rfl, fun j hj => ?_⟩
  match j, hj with
  | 0, _ => rfl
  | 1, _ => rfl
  | 2, _ => rfl
  | 3, _ => rfl
  | 4, _ => rfl
  | 5, _ => rfl
  | j + 6, h => omega

theorem oq_end {O : List Int} {Q : Int} (h : OQ O 0 Q) : val O = Q := by
  have := h.2.2.1
  simpa using this

theorem oq_here {O : List Int} {i : Nat} {Q : Int} (h : OQ O (i + 1) Q) : val (O.drop (i / 16)) = 2 * Q * 2 ^ (i % 16) := by
  obtain ⟨_, _, h1, h2⟩ := h
  by_cases hb : i % 16 = 15
  · rw [show (i + 1) / 16 = i / 16 + 1 by omega, show (i + 1) % 16 = 0 by omega] at h1
    have h3 := h2 (i / 16) (by omega)
    rw [val_drop', h3, h1, hb]
    simp only [Int.reducePow]
    omega
  · rw [show (i + 1) / 16 = i / 16 by omega, show (i + 1) % 16 = i % 16 + 1 by omega] at h1
    rw [h1, Int.pow_succ, Int.mul_comm 2 Q, Int.mul_assoc, Int.mul_comm 2]

theorem oq_low {O : List Int} {i : Nat} {Q : Int} (h : OQ O (i + 1) Q) : OQ O i (2 * Q) :=
  ⟨h.1, h.2.1, oq_here h, fun j hj => h.2.2.2 j (by omega)⟩

theorem mult_room {b : Nat} (hb : b < 16) {x Y Q : Int} (e : x + 65536 * Y = 2 * Q * 2 ^ b) (h0 : 0 ≤ x) (h1 : x < 65536) : 0 ≤ x + 2 ^ b ∧ x + 2 ^ b < 65536 ∧ x + 2 ^ b + 65536 * Y = (2 * Q + 1) * 2 ^ b := by
  rcases below16 hb with rfl | rfl | rfl | rfl | rfl | rfl | rfl | rfl | rfl | rfl | rfl | rfl | rfl | rfl | rfl | rfl
  all_goals (simp only [Int.reducePow] at e ⊢)
  all_goals omega

theorem oq_room {O : List Int} {i : Nat} {Q : Int} (h : OQ O (i + 1) Q) : 0 ≤ O.getD (i / 16) 0 + 2 ^ (i % 16) ∧ O.getD (i / 16) 0 + 2 ^ (i % 16) < 65536 ∧ O.getD (i / 16) 0 + 2 ^ (i % 16) + 65536 * val (O.drop (i / 16 + 1)) = (2 * Q + 1) * 2 ^ (i % 16) := by
  have e := oq_here h
  rw [val_drop'] at e
  exact mult_room (by omega) e (h.2.1.getD _).1 (h.2.1.getD _).2

theorem digs_set {O : List Int} (h : Digs O) (j : Nat) {x : Int} (h0 : 0 ≤ x) (h1 : x < 65536) : Digs (O.set j x) := by
  intro y hy
  rcases List.mem_or_eq_of_mem_set hy with h2 | rfl
  · exact h y h2
  · exact ⟨h0, h1⟩

theorem oq_high {O : List Int} {i : Nat} {Q : Int} (hi : i < 96) (h : OQ O (i + 1) Q) : OQ (O.set (i / 16) (O.getD (i / 16) 0 + 2 ^ (i % 16))) i (2 * Q + 1) := by
  obtain ⟨r0, r1, r2⟩ := oq_room h
  refine ⟨by rw [List.length_set]; exact h.1, digs_set h.2.1 _ r0 r1, ?_, fun j hj => ?_⟩
  · rw [val_drop', List.drop_set_of_lt (by omega), ← r2]
    congr 1
    rw [List.getD_eq_getElem?_getD, List.getElem?_set_self (by rw [h.1]; omega)]
    rfl
  · rw [List.getD_eq_getElem?_getD, List.getElem?_set_ne (by omega), ← List.getD_eq_getElem?_getD]
    exact h.2.2.2 j (by omega)

end Go.Proofs.Ytaedplfihjfchaa
