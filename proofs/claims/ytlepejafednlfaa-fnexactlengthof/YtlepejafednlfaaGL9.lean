/- Chapter 9: the least common multiple of both sides. -/
import Derived.Test.YtlepejafednlfaaCY9
namespace Go.Proofs.Ytlepejafednlfaa
set_option linter.unusedVariables false
set_option maxRecDepth 1000000
set_option linter.unusedSimpArgs false
open Go.RowKit

theorem lcm_first {a b j : Nat} (ha : 0 < a) (hj : 0 < j) (hd : b ∣ a * j) (hm : ∀ i, 0 < i → i < j → ¬ b ∣ a * i) (hb : 0 < b) : Nat.lcm a b = a * j := by
  obtain ⟨t, ht⟩ := Nat.dvd_lcm_left a b
  have h1 : Nat.lcm a b ∣ a * j := Nat.lcm_dvd (Nat.dvd_mul_right _ _) hd
  have hpos : 0 < Nat.lcm a b := Nat.lcm_pos ha hb
  have htp : 0 < t := by
    rcases Nat.eq_zero_or_pos t with h | h
    · rw [h] at ht; omega
    · exact h
  have h2 : b ∣ a * t := by rw [← ht]; exact Nat.dvd_lcm_right a b
  have h3 : ¬ t < j := fun h => hm t htp h h2
  have h4 : a * t ≤ a * j := by rw [← ht]; exact Nat.le_of_dvd (Nat.mul_pos ha hj) h1
  have h5 : t ≤ j := Nat.le_of_mul_le_mul_left h4 ha
  rw [ht, show t = j by omega]

set_option maxHeartbeats 2000000 in
theorem leastMultiple_c (a b : Nat) (w : World) (ha : 0 < a) (ha2 : a ≤ 512) (hb : 0 < b) (hb2 : b ≤ 9) :
    Calls Try.prog 85 #[.int .i64 a, .int .i64 b] w fun e w' => e = .returned (.int .i64 (Nat.lcm a b : Nat)) ∧ w' = w := by
  obtain ⟨R, hR⟩ : ∃ R, R = Nat.lcm a b := ⟨_, rfl⟩
  rw [← hR]
  have HR : Hid (R = Nat.lcm a b) := hR
  have hbn : ((b : Int) == 0) = false := by rw [beq_eq_false_iff_ne]; omega
  have hbz : ¬ (b : Int) = 0 := by omega
  clear hR
  go_enter Try.func85, Try.ntmps85
  go_wp2
  go_loop [5] (fun mv => ∃ (j M : Nat), mv = .int .i64 M ∧ M = a * j ∧ 0 < j ∧ j ≤ b ∧ Hid (∀ i, 0 < i → i < j → ¬ b ∣ a * i)) (fun mv => a * b + 1 - (intOf mv).toNat)
  case atStart => exact ⟨1, a, rfl, by omega, by omega, by omega, fun i h1 h2 => by omega⟩
  case round =>
    obtain ⟨j, M, rfl, hM, hj, hjb, hS⟩ := hrel
    have hle : M ≤ a * b := by rw [hM]; exact Nat.mul_le_mul_left _ hjb
    have hab : a * b ≤ 512 * 9 := Nat.mul_le_mul ha2 hb2
    have hte : Int.tmod (M : Int) (b : Int) = ((M % b : Nat) : Int) := by rw [Int.tmod_eq_emod_of_nonneg (by omega)]; rfl
    have hme : (M : Int) % (b : Int) = ((M % b : Nat) : Int) := rfl
    by_cases hd : M % b = 0
    · have HE : Hid (R = M) := by
        show _ = _
        rw [HR.out, hM]
        exact lcm_first ha hj (by rw [← hM]; exact Nat.dvd_of_mod_eq_zero hd) hS.out hb
      have hq : (Int.tmod (M : Int) (b : Int) != 0) = false := by rw [hte, hd]; rfl
      have hq2 : (((M : Int) % (b : Int)) != 0) = false := by rw [hme, hd]; rfl
      clear hM hd hte hme
      go_wp2
      go_ret
      exact ⟨ret_int (by rw [HE.out]), rfl⟩
    · have hq : (Int.tmod (M : Int) (b : Int) != 0) = true := by rw [hte, bne_iff_ne]; omega
      have hq2 : (((M : Int) % (b : Int)) != 0) = true := by rw [hme, bne_iff_ne]; omega
      have hjl : j < b := by
        rcases Nat.lt_or_ge j b with h | h
        · exact h
        · have : j = b := by omega
          rw [this] at hM
          rw [hM, Nat.mul_mod_left] at hd
          exact absurd rfl hd
      have HS : Hid (∀ i, 0 < i → i < j + 1 → ¬ b ∣ a * i) := fun i h1 h2 => by
        by_cases e : i = j
        · rw [e, ← hM]; exact fun h => hd (Nat.mod_eq_zero_of_dvd h)
        · exact hS.out i h1 (by omega)
      have hM2 : M + a = a * (j + 1) := by rw [hM, Nat.mul_add, Nat.mul_one]
      have HM2 : Hid (M + a = a * (j + 1)) := hM2
      have hle2 : M + a ≤ a * b := by rw [hM2]; exact Nat.mul_le_mul_left _ (by omega)
      obtain ⟨ab, hab'⟩ : ∃ ab, ab = a * b := ⟨_, rfl⟩
      rw [← hab'] at hle hle2 hab ⊢
      clear hM hM2 hd hte hme hS
      go_wp2
      go_round
      case rel => exact ⟨j + 1, M + a, by go_num, HM2.out, by omega, by omega, HS⟩
      case measure => simp [intOf]; omega

set_option maxHeartbeats 2000000 in
theorem l9Gcd_c (a b : Nat) (w : World) (ha2 : a ≤ 512) (hb2 : b ≤ 9) :
    Calls Try.prog 88 #[.int .i64 a, .int .i64 b] w fun e w' => e = .returned (.int .i64 (Nat.gcd a b : Nat)) ∧ w' = w := by
  obtain ⟨R, hR⟩ : ∃ R, R = Nat.gcd a b := ⟨_, rfl⟩
  rw [← hR]
  have HR : Hid (Nat.gcd a b = R) := hR.symm
  clear hR
  go_enter Try.func88, Try.ntmps88
  go_wp2
  go_loop [0, 1] (fun av bv => ∃ (x y : Nat), av = .int .i64 x ∧ bv = .int .i64 y ∧ x ≤ 512 ∧ y ≤ 9 ∧ Hid (Nat.gcd x y = R)) (fun _ bv => (intOf bv).toNat)
  case atStart => exact ⟨a, b, rfl, rfl, ha2, hb2, HR⟩
  case round =>
    obtain ⟨x, y, rfl, rfl, hx, hy, hG⟩ := hrel
    by_cases h0 : 0 < y
    · have hi0 : (0 : Int) < (y : Int) := by omega
      have hyz : ¬ (y : Int) = 0 := by omega
      have hbn : ((y : Int) == 0) = false := by rw [beq_eq_false_iff_ne]; omega
      obtain ⟨r, hr⟩ : ∃ r, r = x % y := ⟨_, rfl⟩
      have hte : Int.tmod (x : Int) (y : Int) = (r : Int) := by rw [Int.tmod_eq_emod_of_nonneg (by omega), hr]; rfl
      have hme : (x : Int) % (y : Int) = (r : Int) := by rw [hr]; rfl
      have hry : r < y := by rw [hr]; exact Nat.mod_lt _ h0
      have HG : Hid (Nat.gcd y r = R) := by
        show _ = _
        rw [hr, ← hG.out, Nat.gcd_comm x y, Nat.gcd_rec y x, Nat.gcd_comm]
      clear hr hG
      go_wp2
      go_round
      case rel => exact ⟨y, r, rfl, by go_num, by omega, by omega, HG⟩
      case measure => simp [intOf]; omega
    · obtain rfl : y = 0 := by omega
      have HE : Hid (x = R) := by show _ = _; rw [← hG.out, Nat.gcd_zero_right]
      go_wp2
      go_ret
      exact ⟨ret_int (by rw [HE.out]), rfl⟩

theorem lcm_div {a b : Nat} : a / Nat.gcd a b * b = Nat.lcm a b := by
  rw [Nat.lcm, Nat.div_mul_right_comm (Nat.gcd_dvd_left a b)]

end Go.Proofs.Ytlepejafednlfaa
