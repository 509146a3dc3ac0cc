/- The contract of the program's HalvesTimes, out of its walk. -/
import Derived.Test.YtaedplfihjfchaaDoorHalvesWalkl
namespace Go.Proofs.YtaedplfihjfchaaDoor
set_option linter.unusedVariables false
set_option maxRecDepth 1000000
set_option linter.unusedSimpArgs false
open Go.RowKit

def halfF (xs ys : List Int) : List Int × Bool := if goodB xs && goodB ys then (if 3 < xs.length ∨ 3 < ys.length then ([], false) else tellF (val xs * val ys)) else ([], false)

theorem halfF_short {xs ys zs : List Int} {fb : Bool} (h : halfF xs ys = (zs, fb)) : zs.length ≤ 6 := by
  unfold halfF at h
  split at h
  · rename_i hg
    split at h
    · simp only [Prod.mk.injEq] at h; rw [← h.1]; simp
    · exact timesF_short (xs := xs) (ys := ys) (by rw [timesF, hg, if_pos rfl]; exact h)
  · simp only [Prod.mk.injEq] at h; rw [← h.1]; simp

theorem pad3 {xs : List Int} (h : xs.length ≤ 3) : ∃ a0 a1 a2 : Int, pad6 xs = [a0, a1, a2, 0, 0, 0] := by
  match xs, h with
  | [], _ => exact ⟨0, 0, 0, rfl⟩
  | [a], _ => exact ⟨a, 0, 0, rfl⟩
  | [a, b], _ => exact ⟨a, b, 0, rfl⟩
  | [a, b, c], _ => exact ⟨a, b, c, rfl⟩
  | a :: b :: c :: d :: l, h => simp at h

theorem half_mid (A B C D : Int) : (A + B) * (C + D) - A * C - B * D = A * D + B * C := by
  rw [Int.add_mul, Int.mul_add, Int.mul_add]; omega
theorem half_all (A B C D : Int) : (A + 4294967296 * B) * (C + 4294967296 * D) = A * C + 4294967296 * (A * D + B * C) + 18446744073709551616 * (B * D) := by
  rw [Int.add_mul, Int.mul_add, Int.mul_add, Int.mul_left_comm A, Int.mul_assoc, Int.mul_assoc, Int.mul_left_comm B]; omega
theorem bd2 {a b A B : Int} (a0 : 0 ≤ a) (a1 : a ≤ A) (b0 : 0 ≤ b) (b1 : b ≤ B) : 0 ≤ a * b ∧ a * b ≤ A * B := ⟨Int.mul_nonneg a0 b0, Int.mul_le_mul a1 b1 b0 (by omega)⟩

end Go.Proofs.YtaedplfihjfchaaDoor
