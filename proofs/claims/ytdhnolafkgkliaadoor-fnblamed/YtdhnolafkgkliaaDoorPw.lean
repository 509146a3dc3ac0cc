/- Plain facts: powers modulo 2999, and the steps of the way from bit to bit. -/
import Derived.Test.YtdhnolafkgkliaaDoorChecked
namespace Go.Proofs.YtdhnolafkgkliaaDoor
set_option linter.unusedVariables false
set_option maxRecDepth 1000000
set_option linter.unusedSimpArgs false

/-- a to the k, modulo the great prime. -/
def pw (a : Int) (k : Nat) : Int := a ^ k % 2999

theorem pw_lo (a : Int) (k : Nat) : 0 ≤ pw a k := Int.emod_nonneg _ (by decide)
theorem pw_hi (a : Int) (k : Nat) : pw a k < 2999 := Int.emod_lt_of_pos _ (by decide)

theorem emod_pow (a m : Int) : ∀ k : Nat, (a % m) ^ k % m = a ^ k % m
  | 0 => by simp
  | k + 1 => by rw [Int.pow_succ, Int.pow_succ, Int.mul_emod, emod_pow a m k, Int.emod_emod, ← Int.mul_emod]

/-- What is still to come of a power: n times a to the k. -/
def pwS (n a : Int) (k : Nat) : Int := n * a ^ k % 2999

theorem pwS_start (a : Int) (k : Nat) : pwS 1 a k = pw a k := by simp [pwS, pw]
theorem pwS_zero {n : Int} (a : Int) (h0 : 0 ≤ n) (h1 : n < 2999) : pwS n a 0 = n := by
  simp only [pwS, Int.pow_zero, Int.mul_one]; exact Int.emod_eq_of_lt h0 h1

theorem sq_pow (a : Int) (q : Nat) : (a * a) ^ q = a ^ (2 * q) := by
  rw [Int.pow_mul]; congr 1; rw [show (2 : Nat) = 1 + 1 from rfl, Int.pow_succ, Int.pow_succ, Int.pow_zero, Int.one_mul]

theorem pwS_even {n a : Int} {k : Nat} (h : k % 2 = 0) : pwS n (a * a % 2999) (k / 2) = pwS n a k := by
  unfold pwS
  rw [Int.mul_emod, emod_pow, ← Int.mul_emod, sq_pow, show 2 * (k / 2) = k by omega]

theorem pwS_odd {n a : Int} {k : Nat} (h : k % 2 = 1) : pwS (n * a % 2999) (a * a % 2999) (k / 2) = pwS n a k := by
  unfold pwS
  rw [Int.mul_emod, emod_pow, Int.emod_emod, ← Int.mul_emod, sq_pow, Int.mul_assoc, ← Int.pow_succ', show 2 * (k / 2) + 1 = k by omega]

theorem pwS_mod (n a : Int) (k : Nat) : pwS (n % 2999) a k = pwS n a k := by
  unfold pwS; rw [Int.mul_emod, Int.emod_emod, ← Int.mul_emod]

theorem prod_lt {x y : Int} (x0 : 0 ≤ x) (x1 : x < 2999) (y0 : 0 ≤ y) (y1 : y < 2999) : 0 ≤ x * y ∧ x * y < 8994001 := by
  refine ⟨Int.mul_nonneg x0 y0, ?_⟩
  have h : x * y ≤ 2998 * y := Int.mul_le_mul_of_nonneg_right (by omega) y0
  omega

end Go.Proofs.YtdhnolafkgkliaaDoor
