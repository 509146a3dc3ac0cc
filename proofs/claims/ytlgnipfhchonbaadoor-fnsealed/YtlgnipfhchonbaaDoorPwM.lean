/- Plain facts on powers modulo 2999 for the laws on shared secrets and sealed numbers. -/
import Derived.Test.YtlgnipfhchonbaaDoorPublic
namespace Go.Proofs.YtlgnipfhchonbaaDoor
set_option linter.unusedVariables false
set_option linter.unusedSimpArgs false

def ferm (e : Nat) : Nat → Bool
  | 0 => true
  | k + 1 => ((k + 1) ^ e % 2999 == 1) && ferm e k
theorem ferm_ok : ferm 2998 2998 = true := by decide +kernel
theorem ferm_at {e : Nat} : ∀ {K n : Nat}, ferm e K = true → 1 ≤ n → n ≤ K → n ^ e % 2999 = 1
  | 0, n, _, h1, h2 => by omega
  | K + 1, n, h, h1, h2 => by
    simp only [ferm, Bool.and_eq_true, beq_iff_eq] at h
    by_cases e : n = K + 1
    · rw [e]; exact h.1
    · exact ferm_at h.2 h1 (by omega)

theorem pw_nat (k e : Nat) : pw (k : Int) e = ((k ^ e % 2999 : Nat) : Int) := by
  unfold pw
  simp

theorem pw_ferm {n : Int} (h1 : 1 ≤ n) (h2 : n ≤ 2998) : pw n 2998 = 1 := by
  obtain ⟨k, rfl⟩ : ∃ k : Nat, n = k := ⟨n.toNat, by omega⟩
  rw [pw_nat, ferm_at (n := k) ferm_ok (by omega) (by omega)]
  rfl

theorem pw_step (n : Int) (k : Nat) : n * pw n k % 2999 = pw n (k + 1) := by
  unfold pw
  rw [Int.mul_emod, Int.emod_emod, ← Int.mul_emod, Int.pow_succ, Int.mul_comm]

theorem pw_inv {n : Int} (h1 : 1 ≤ n) (h2 : n ≤ 2998) : n * pw n 2997 % 2999 = 1 := (pw_step n 2997).trans (pw_ferm h1 h2)

theorem pw_pw (a : Int) (j k : Nat) : pw (pw a j) k = pw a (j * k) := by
  unfold pw
  rw [emod_pow, ← Int.pow_mul]
theorem pw_comm (a : Int) (j k : Nat) : pw (pw a j) k = pw (pw a k) j := by
  rw [pw_pw, pw_pw, Nat.mul_comm]
theorem pw_one (k : Nat) : pw 1 k = 1 := by unfold pw; rw [Int.one_pow]; rfl
theorem pw_root : pw 4 1499 = 1 := by decide +kernel

theorem mem_of_pow {a : Int} (h0 : 0 ≤ a) (h1 : a < 2999) (h : pw a 1499 = 1) : memB a = true := by
  have ha : a ≠ 0 := fun e => by subst e; revert h; decide +kernel
  simp only [memB, Bool.and_eq_true, decide_eq_true_eq, beq_iff_eq]
  exact ⟨by omega, h⟩

theorem mem_pw4 (k : Nat) : memB (pw 4 k) = true := mem_of_pow (pw_lo _ _) (pw_hi _ _) (by rw [pw_comm, pw_root, pw_one])
theorem mem_pw {a : Int} (h : memB a = true) (k : Nat) : memB (pw a k) = true := mem_of_pow (pw_lo _ _) (pw_hi _ _) (by
  have h1 : pw a 1499 = 1 := by simp only [memB, Bool.and_eq_true, beq_iff_eq] at h; exact h.2
  rw [pw_comm, h1, pw_one])

end Go.Proofs.YtlgnipfhchonbaaDoor
