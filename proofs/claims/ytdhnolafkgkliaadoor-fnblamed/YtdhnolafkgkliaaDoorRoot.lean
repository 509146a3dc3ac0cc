/- The contract of the program's rootTo: the powers of Root out of the table of constants, bit by bit. -/
import Derived.Test.YtdhnolafkgkliaaDoorSealRel
import Derived.Laws.BitsLemmas
namespace Go.Proofs.YtdhnolafkgkliaaDoor
set_option linter.unusedVariables false
set_option maxRecDepth 1000000
set_option linter.unusedSimpArgs false
open Go.RowKit

/-- The table, and the square behind its last. -/
def sqAt (i : Nat) : Int := [4, 16, 256, 2557, 429, 1102, 2808, 493, 130, 1905, 235, 1243].getD i 0

theorem sqAt_step : ∀ i, i < 11 → sqAt (i + 1) = sqAt i * sqAt i % 2999 := by decide
theorem sqAt_bd : ∀ i, i < 11 → 0 ≤ sqAt i ∧ sqAt i < 2999 := by decide

theorem i64_and1 (n : Int) : bits .and .i64 n 1 = n % 2 := by
  have h1 : (BitVec.ofInt 64 1).toNat = 2 ^ 1 - 1 := by decide
  have key : (BitVec.ofInt 64 n &&& BitVec.ofInt 64 1).toNat = (n % ((2 ^ 64 : Nat) : Int)).toNat % 2 ^ 1 := by
    rw [BitVec.toNat_and, BitVec.toNat_ofInt, h1, Nat.and_two_pow_sub_one_eq_mod]
  show IntKind.i64.wrap ((BitVec.ofInt 64 n &&& BitVec.ofInt 64 1).toNat : Nat) = n % 2
  rw [key, IntKind.wrap_i64]
  omega

theorem bit_of (k i : Nat) : bits .and .i64 ((k : Int) / 2 ^ i) 1 = ((k / 2 ^ i % 2 : Nat) : Int) := by
  rw [i64_and1]; simp

theorem pow_half (k i : Nat) : k / 2 ^ (i + 1) = k / 2 ^ i / 2 := by rw [Nat.pow_succ, Nat.div_div_eq_div_mul]

theorem run_tab0 (w : World) : (Instr.index 91 (.agg #[Value.int .i64 4, Value.int .i64 16, Value.int .i64 256, Value.int .i64 2557, Value.int .i64 429, Value.int .i64 1102, Value.int .i64 2808, Value.int .i64 493, Value.int .i64 130, Value.int .i64 1905, Value.int .i64 235]) (.int .i64 0)).run Tryd.prog w = .ok (.int .i64 4) w := by kernel_rfl
theorem run_tab1 (w : World) : (Instr.index 91 (.agg #[Value.int .i64 4, Value.int .i64 16, Value.int .i64 256, Value.int .i64 2557, Value.int .i64 429, Value.int .i64 1102, Value.int .i64 2808, Value.int .i64 493, Value.int .i64 130, Value.int .i64 1905, Value.int .i64 235]) (.int .i64 1)).run Tryd.prog w = .ok (.int .i64 16) w := by kernel_rfl
theorem run_tab2 (w : World) : (Instr.index 91 (.agg #[Value.int .i64 4, Value.int .i64 16, Value.int .i64 256, Value.int .i64 2557, Value.int .i64 429, Value.int .i64 1102, Value.int .i64 2808, Value.int .i64 493, Value.int .i64 130, Value.int .i64 1905, Value.int .i64 235]) (.int .i64 2)).run Tryd.prog w = .ok (.int .i64 256) w := by kernel_rfl
theorem run_tab3 (w : World) : (Instr.index 91 (.agg #[Value.int .i64 4, Value.int .i64 16, Value.int .i64 256, Value.int .i64 2557, Value.int .i64 429, Value.int .i64 1102, Value.int .i64 2808, Value.int .i64 493, Value.int .i64 130, Value.int .i64 1905, Value.int .i64 235]) (.int .i64 3)).run Tryd.prog w = .ok (.int .i64 2557) w := by kernel_rfl
theorem run_tab4 (w : World) : (Instr.index 91 (.agg #[Value.int .i64 4, Value.int .i64 16, Value.int .i64 256, Value.int .i64 2557, Value.int .i64 429, Value.int .i64 1102, Value.int .i64 2808, Value.int .i64 493, Value.int .i64 130, Value.int .i64 1905, Value.int .i64 235]) (.int .i64 4)).run Tryd.prog w = .ok (.int .i64 429) w := by kernel_rfl
theorem run_tab5 (w : World) : (Instr.index 91 (.agg #[Value.int .i64 4, Value.int .i64 16, Value.int .i64 256, Value.int .i64 2557, Value.int .i64 429, Value.int .i64 1102, Value.int .i64 2808, Value.int .i64 493, Value.int .i64 130, Value.int .i64 1905, Value.int .i64 235]) (.int .i64 5)).run Tryd.prog w = .ok (.int .i64 1102) w := by kernel_rfl
theorem run_tab6 (w : World) : (Instr.index 91 (.agg #[Value.int .i64 4, Value.int .i64 16, Value.int .i64 256, Value.int .i64 2557, Value.int .i64 429, Value.int .i64 1102, Value.int .i64 2808, Value.int .i64 493, Value.int .i64 130, Value.int .i64 1905, Value.int .i64 235]) (.int .i64 6)).run Tryd.prog w = .ok (.int .i64 2808) w := by kernel_rfl
theorem run_tab7 (w : World) : (Instr.index 91 (.agg #[Value.int .i64 4, Value.int .i64 16, Value.int .i64 256, Value.int .i64 2557, Value.int .i64 429, Value.int .i64 1102, Value.int .i64 2808, Value.int .i64 493, Value.int .i64 130, Value.int .i64 1905, Value.int .i64 235]) (.int .i64 7)).run Tryd.prog w = .ok (.int .i64 493) w := by kernel_rfl
theorem run_tab8 (w : World) : (Instr.index 91 (.agg #[Value.int .i64 4, Value.int .i64 16, Value.int .i64 256, Value.int .i64 2557, Value.int .i64 429, Value.int .i64 1102, Value.int .i64 2808, Value.int .i64 493, Value.int .i64 130, Value.int .i64 1905, Value.int .i64 235]) (.int .i64 8)).run Tryd.prog w = .ok (.int .i64 130) w := by kernel_rfl
theorem run_tab9 (w : World) : (Instr.index 91 (.agg #[Value.int .i64 4, Value.int .i64 16, Value.int .i64 256, Value.int .i64 2557, Value.int .i64 429, Value.int .i64 1102, Value.int .i64 2808, Value.int .i64 493, Value.int .i64 130, Value.int .i64 1905, Value.int .i64 235]) (.int .i64 9)).run Tryd.prog w = .ok (.int .i64 1905) w := by kernel_rfl
theorem run_tab10 (w : World) : (Instr.index 91 (.agg #[Value.int .i64 4, Value.int .i64 16, Value.int .i64 256, Value.int .i64 2557, Value.int .i64 429, Value.int .i64 1102, Value.int .i64 2808, Value.int .i64 493, Value.int .i64 130, Value.int .i64 1905, Value.int .i64 235]) (.int .i64 10)).run Tryd.prog w = .ok (.int .i64 235) w := by kernel_rfl

theorem run_tab (w : World) (i : Nat) (hi : i < 11) : (Instr.index 91 (.agg #[Value.int .i64 4, Value.int .i64 16, Value.int .i64 256, Value.int .i64 2557, Value.int .i64 429, Value.int .i64 1102, Value.int .i64 2808, Value.int .i64 493, Value.int .i64 130, Value.int .i64 1905, Value.int .i64 235]) (.int .i64 (i : Int))).run Tryd.prog w = .ok (.int .i64 (sqAt i)) w := by
  match i, hi with
  | 0, _ => exact run_tab0 w
  | 1, _ => exact run_tab1 w
  | 2, _ => exact run_tab2 w
  | 3, _ => exact run_tab3 w
  | 4, _ => exact run_tab4 w
  | 5, _ => exact run_tab5 w
  | 6, _ => exact run_tab6 w
  | 7, _ => exact run_tab7 w
  | 8, _ => exact run_tab8 w
  | 9, _ => exact run_tab9 w
  | 10, _ => exact run_tab10 w

/-- The table lies in the program's first variable. -/
def Tab (w : World) : Prop := w.cell? ⟨0, 0, none⟩ = some (.int .i64 4) ∧ w.cell? ⟨0, 1, none⟩ = some (.int .i64 16) ∧ w.cell? ⟨0, 2, none⟩ = some (.int .i64 256) ∧ w.cell? ⟨0, 3, none⟩ = some (.int .i64 2557) ∧ w.cell? ⟨0, 4, none⟩ = some (.int .i64 429) ∧ w.cell? ⟨0, 5, none⟩ = some (.int .i64 1102) ∧ w.cell? ⟨0, 6, none⟩ = some (.int .i64 2808) ∧ w.cell? ⟨0, 7, none⟩ = some (.int .i64 493) ∧ w.cell? ⟨0, 8, none⟩ = some (.int .i64 130) ∧ w.cell? ⟨0, 9, none⟩ = some (.int .i64 1905) ∧ w.cell? ⟨0, 10, none⟩ = some (.int .i64 235)

set_option maxHeartbeats 1000000 in
theorem rootTo_c (k : Nat) (w : World) (hk : k ≤ 1498) (ht : Tab w) :
    Calls Tryd.prog 53 #[.int .i64 k] w fun e w' => e = .returned (.int .i64 (pw 4 k)) ∧ w' = w := by
  obtain ⟨h0, h1, h2, h3, h4, h5, h6, h7, h8, h9, h10⟩ := ht
  have hix := fun wx i hi => run_tab wx i hi
  have HIX : Hid (∀ (wx : World) (i : Nat), i < 11 → (Instr.index 91 (.agg #[Value.int .i64 4, Value.int .i64 16, Value.int .i64 256, Value.int .i64 2557, Value.int .i64 429, Value.int .i64 1102, Value.int .i64 2808, Value.int .i64 493, Value.int .i64 130, Value.int .i64 1905, Value.int .i64 235]) (.int .i64 (i : Int))).run Tryd.prog wx = .ok (.int .i64 (sqAt i)) wx) := hix
  clear hix
  go_enter Tryd.func53, Tryd.ntmps53
  go_wp2
  clear h0 h1 h2 h3 h4 h5 h6 h7 h8 h9 h10
  go_loop [3, 7] (fun nv iv => ∃ (n : Int) (i : Nat), i ≤ 11 ∧ nv = .int .i64 n ∧ iv = .int .i64 i ∧ 0 ≤ n ∧ n < 2999 ∧ Hid (pwS n (sqAt i) (k / 2 ^ i) = pw 4 k)) (fun _ iv => 11 - (intOf iv).toNat)
  case atStart => exact ⟨1, 0, by omega, rfl, rfl, by omega, by omega, by show _ = _; rw [Nat.pow_zero, Nat.div_one]; exact pwS_start 4 k⟩
  case round =>
    obtain ⟨n, i, hi, rfl, rfl, n0, n1, HS⟩ := hrel
    by_cases hlt : i < 11
    · have hix := fun wx => HIX.out wx i hlt
      have hlt2 : (i : Int) < 11 := by omega
      have i0 : (0 : Int) ≤ (i : Int) := by omega
      have hbd := sqAt_bd i hlt
      have HE : Hid (sqAt (i + 1) = sqAt i * sqAt i % 2999) := sqAt_step i hlt
      have HH : Hid (k / 2 ^ (i + 1) = k / 2 ^ i / 2) := pow_half k i
      generalize sqAt i = q at hix hbd HE HS
      have hnq := prod_lt n0 n1 hbd.1 hbd.2
      have hbit := bit_of k i
      by_cases ho : k / 2 ^ i % 2 = 1
      · have hb1 : (bits BinOp.and IntKind.i64 ((k : Int) / 2 ^ i) 1 == 1) = true := by rw [hbit, ho]; rfl
        have HS2 : Hid (pwS (n * q % 2999) (sqAt (i + 1)) (k / 2 ^ (i + 1)) = pw 4 k) := by show _ = _; rw [HE.out, HH.out]; exact (pwS_odd ho).trans HS.out
        clear hbit ho HE HH HS
        go_wp2_with (go_at_call 80; refine (timesRests_c n q _ n0 n1 hbd.1 hbd.2).mono ?_; rintro e w' ⟨rfl, rfl⟩)
        go_round
        case rel => exact ⟨n * q % 2999, i + 1, by omega, rfl, by go_num, by omega, by omega, HS2⟩
        case measure => simp [intOf]; omega
      · have hb1 : (bits BinOp.and IntKind.i64 ((k : Int) / 2 ^ i) 1 == 1) = false := by rw [hbit, beq_eq_false_iff_ne]; omega
        have HS2 : Hid (pwS n (sqAt (i + 1)) (k / 2 ^ (i + 1)) = pw 4 k) := by show _ = _; rw [HE.out, HH.out]; exact (pwS_even (by omega)).trans HS.out
        clear hbit ho HE HH HS
        go_wp2
        go_round
        case rel => exact ⟨n, i + 1, by omega, rfl, by go_num, by omega, by omega, HS2⟩
        case measure => simp [intOf]; omega
    · obtain rfl : i = 11 := by omega
      go_wp2
      go_ret
      refine ⟨ret_int ?_, rfl⟩
      rw [← HS.out, Nat.div_eq_of_lt (show k < 2 ^ 11 by omega)]
      exact (pwS_zero _ n0 n1).symm

end Go.Proofs.YtdhnolafkgkliaaDoor
