/- The contract of the program's rootTo: the powers of Root out of the table of constants, bit by bit. -/
import Derived.Test.YtobomcmjilcnaaaSealRel
import Derived.Laws.BitsLemmas
namespace Go.Proofs.Ytobomcmjilcnaaa
set_option linter.unusedVariables false
set_option maxRecDepth 1000000
set_option linter.unusedSimpArgs false
open Go.RowKit

/-- The table, and the square behind its last. -/
def sqAt (i : Nat) : Int := [4, 16, 256, 2557, 429, 1102, 2808, 493, 130, 1905, 235, 1243].getD i 0

theorem sqAt_step : ∀ i, i < 11 → sqAt (i + 1) = sqAt i * sqAt i % 2999 := by decide
theorem sqAt_bd : ∀ i, i < 11 → 0 ≤ sqAt i ∧ sqAt i < 2999 := by decide

theorem i64_and1 (n : Int) : bits .and .i64 n 1 = n % 2 := by
  have h1 : (BitVec.ofInt 64 1).toNat = 2 ^ 1 - 1 := by decide
  have key : (BitVec.ofInt 64 n &&& BitVec.ofInt 64 1).toNat = (n % ((2 ^ 64 : Nat) : Int)).toNat % 2 ^ 1 := by
    rw [BitVec.toNat_and, BitVec.toNat_ofInt, h1, Nat.and_two_pow_sub_one_eq_mod]
  show IntKind.i64.wrap ((BitVec.ofInt 64 n &&& BitVec.ofInt 64 1).toNat : Nat) = n % 2
  rw [key, IntKind.wrap_i64]
  omega

theorem bit_of (k i : Nat) : bits .and .i64 ((k : Int) / 2 ^ i) 1 = ((k / 2 ^ i % 2 : Nat) : Int) := by
  rw [i64_and1]; simp

theorem pow_half (k i : Nat) : k / 2 ^ (i + 1) = k / 2 ^ i / 2 := by rw [Nat.pow_succ, Nat.div_div_eq_div_mul]

/-- The table lies in the program's first variable. -/
def Tab (w : World) : Prop := w.cell? ⟨0, 0, none⟩ = some (.int .i64 4) ∧ w.cell? ⟨0, 1, none⟩ = some (.int .i64 16) ∧ w.cell? ⟨0, 2, none⟩ = some (.int .i64 256) ∧ w.cell? ⟨0, 3, none⟩ = some (.int .i64 2557) ∧ w.cell? ⟨0, 4, none⟩ = some (.int .i64 429) ∧ w.cell? ⟨0, 5, none⟩ = some (.int .i64 1102) ∧ w.cell? ⟨0, 6, none⟩ = some (.int .i64 2808) ∧ w.cell? ⟨0, 7, none⟩ = some (.int .i64 493) ∧ w.cell? ⟨0, 8, none⟩ = some (.int .i64 130) ∧ w.cell? ⟨0, 9, none⟩ = some (.int .i64 1905) ∧ w.cell? ⟨0, 10, none⟩ = some (.int .i64 235)

end Go.Proofs.Ytobomcmjilcnaaa
