/- The specification's ShiftBig. -/
import Derived.Test.YtaedplfihjfchaaSpecDivh
namespace Go.Proofs.Ytaedplfihjfchaa
set_option linter.unusedVariables false
set_option maxRecDepth 1000000
set_option linter.unusedSimpArgs false
open Go.RowKit

/-- A number, so many bits up, or down. -/
def shV (V b : Int) : Int := if 0 ≤ b then V * 2 ^ b.toNat else V / 2 ^ (-b).toNat
def shiftF (xs : List Int) (b : Int) : List Int × Bool := if goodB xs && decide (-96 ≤ b ∧ b ≤ 96) then tellF (shV (val xs) b) else ([], false)

theorem shl_bd {V : Int} {k : Nat} (h0 : 0 ≤ V) (h1 : V < 79228162514264337593543950336) (hk : k ≤ 95) : 0 ≤ V * 2 ^ k ∧ V * 2 ^ k < 79228162514264337593543950336 * 39614081257132168796771975168 := by
  have e : (2 : Int) ^ k ≤ 2 ^ 95 := by
    obtain ⟨d, hd⟩ : ∃ d, 95 = k + d := ⟨95 - k, by omega⟩
    rw [hd, Int.pow_add]
    have h1 : (0 : Int) < 2 ^ d := Int.pow_pos (by omega)
    have h2 : (0 : Int) < 2 ^ k := Int.pow_pos (by omega)
    have := Int.mul_le_mul_of_nonneg_left (show (1 : Int) ≤ 2 ^ d by omega) (Int.le_of_lt h2)
    omega
  have e2 : (2 : Int) ^ 95 = 39614081257132168796771975168 := by decide
  rw [e2] at e
  have p : (0 : Int) < 2 ^ k := Int.pow_pos (by omega)
  refine ⟨Int.mul_nonneg h0 (by omega), ?_⟩
  have h2 : V * 2 ^ k ≤ V * 39614081257132168796771975168 := Int.mul_le_mul_of_nonneg_left e h0
  omega

theorem shl_step (V : Int) (k : Nat) : 2 * (V * 2 ^ k) + 0 = V * 2 ^ (k + 1) := by rw [Int.pow_succ, Int.mul_comm (2 ^ k) 2, Int.mul_left_comm, Int.add_zero]
theorem shr_step (V : Int) (k : Nat) : V / 2 ^ k / 2 = V / 2 ^ (k + 1) := by rw [Int.pow_succ, Int.ediv_ediv_of_nonneg (Int.le_of_lt (Int.pow_pos (by omega)))]
theorem shr_bd {V : Int} (k : Nat) (h0 : 0 ≤ V) : 0 ≤ V / 2 ^ k ∧ V / 2 ^ k ≤ V := ⟨Int.ediv_nonneg h0 (Int.le_of_lt (Int.pow_pos (by omega))), Int.ediv_le_self _ h0⟩

theorem own_one2 (w : World) (x : Int) : Own (w.alloc (.cells #[.int .i64 x] 3)) w.heap.size (.slice (some ⟨w.heap.size, 0, none⟩) 1 1) [x] := by
  have := World.ownsRow_lit (base := w.heap.size) (e := 3) (size := 1) w #[.int .i64 x] 1 (Nat.le_refl _) (by unfold maxLen; omega) (by simp)
  simpa [Own, cellsI] using this

theorem bigL_of {xs : List Int} (d : Digs xs) (t : trim xs = xs) : bigL (val xs) = xs := by rw [← trim_bigL d, t]

end Go.Proofs.Ytaedplfihjfchaa
