/- Chapter 4: the round; blocks and keys as they are tested. -/
import Derived.Test.YtlepejafednlfaaNum4
namespace Go.Proofs.Ytlepejafednlfaa
set_option linter.unusedVariables false
set_option maxRecDepth 1000000
set_option linter.unusedSimpArgs false
open Go.RowKit

theorem ret_int {a b : Int} (h : a = b) : Ending.returned (.int .i64 a) = .returned (.int .i64 b) := by rw [h]

theorem l1In_c (x lo hi : Int) (w : World) :
    Calls Try.prog 95 #[.int .i64 x, .int .i64 lo, .int .i64 hi] w fun e w' => e = .returned (.bool (decide (lo ≤ x ∧ x ≤ hi))) ∧ w' = w := by
  by_cases h1 : lo ≤ x
  · by_cases h2 : x ≤ hi
    · rw [decide_eq_true ⟨h1, h2⟩]
      go_enter Try.func95, Try.ntmps95
      go_wp2
      go_ret
      exact ⟨rfl, rfl⟩
    · rw [decide_eq_false (by omega)]
      go_enter Try.func95, Try.ntmps95
      go_wp2
      go_ret
      exact ⟨rfl, rfl⟩
  · rw [decide_eq_false (by omega)]
    go_enter Try.func95, Try.ntmps95
    go_wp2
    go_ret
    exact ⟨rfl, rfl⟩

/-- A block, or a key. -/
def blockB (x : Int) : Bool := decide (0 ≤ x ∧ x ≤ 65535)

theorem rnd_bd {x y : Nat} (hx : x < 256) (hy : y < 256) : x * x + x * y + 29 < 200000 := by
  have h1 : x * x ≤ 255 * 255 := Nat.mul_le_mul (by omega) (by omega)
  have h2 : x * y ≤ 255 * 255 := Nat.mul_le_mul (by omega) (by omega)
  omega

theorem w64 {n : Int} (h : 0 ≤ n ∧ n < 9223372036854775808) : wrap64 n = n := by
  unfold wrap64; omega
theorem rnd_val {x y : Nat} (hx : x < 256) (hy : y < 256) : (wrap64 (wrap64 (wrap64 ((x : Int) * x) + wrap64 ((x : Int) * y)) + 29)).tmod 65521 = ((x * x + x * y + 29) % 65521 : Nat) := by
  have hb := rnd_bd hx hy
  have e1 : (x : Int) * x = ((x * x : Nat) : Int) := by simp
  have e2 : (x : Int) * y = ((x * y : Nat) : Int) := by simp
  rw [e1, e2]
  generalize x * x = p at *
  generalize x * y = q at *
  rw [w64 (n := (p : Int)) (by omega), w64 (n := (q : Int)) (by omega), w64 (n := (p : Int) + q) (by omega), w64 (n := (p : Int) + q + 29) (by omega), Int.tmod_eq_emod_of_nonneg (by omega)]
  omega

/-- RoundOf, of both. -/
def roundF (x y : Int) : Int × Bool := if blockB x = true ∧ (0 ≤ y ∧ y ≤ 255) then ((rndN x.toNat y.toNat : Int), true) else (0, false)

end Go.Proofs.Ytlepejafednlfaa
