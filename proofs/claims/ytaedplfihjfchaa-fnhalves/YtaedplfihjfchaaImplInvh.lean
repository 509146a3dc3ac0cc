/- The contract of the program's inverseInBase. -/
import Derived.Test.YtaedplfihjfchaaBaseBh
import Derived.Test.YtaedplfihjfchaaRedNh
namespace Go.Proofs.Ytaedplfihjfchaa
set_option linter.unusedVariables false
set_option maxRecDepth 1000000
set_option linter.unusedSimpArgs false
open Go.RowKit

theorem mul_bd {a b A B : Int} (a0 : 0 ≤ a) (a1 : a ≤ A) (b0 : 0 ≤ b) (b1 : b ≤ B) : 0 ≤ a * b ∧ a * b ≤ A * B :=
  ⟨Int.mul_nonneg a0 b0, Int.mul_le_mul a1 b1 b0 (by omega)⟩

theorem w64 {n : Int} (h : -9223372036854775808 ≤ n ∧ n ≤ 9223372036854775807) : wrap64 n = n := by unfold wrap64; omega

theorem inv_val {m x : Int} (h0 : 0 ≤ m) (h1 : m < 65536) (x0 : 0 ≤ x) (x1 : x < 65536) : (wrap64 (x * wrap64 (65538 - (wrap64 (m * x)).tmod 65536))).tmod 65536 = invS m x := by
  have h := mul_bd h0 (show m ≤ 65535 by omega) x0 (show x ≤ 65535 by omega)
  rw [w64 (n := m * x) (by omega), Int.tmod_eq_emod_of_nonneg h.1, w64 (n := 65538 - m * x % 65536) (by omega)]
  have h2 := mul_bd x0 (show x ≤ 65535 by omega) (show 0 ≤ 65538 - m * x % 65536 by omega) (show 65538 - m * x % 65536 ≤ 65538 by omega)
  rw [w64 (by omega), Int.tmod_eq_emod_of_nonneg h2.1]
  rfl

set_option maxHeartbeats 1000000 in
theorem inverseInBase_c (m : Int) (w : World) (h0 : 0 ≤ m) (h1 : m < 65536) :
    Calls Try.prog 38 #[.int .i64 m] w fun e w' => e = .returned (.int .i64 (invB m)) ∧ Below w.heap.size w w' := by
  obtain ⟨a0, a1⟩ := invS_bd m m
  obtain ⟨b0, b1⟩ := invS_bd m (invS m m)
  go_enter Try.func38, Try.ntmps38
  go_wp2
  refine wp_loop_rounds 4 ?_
  rw [rounds_succ]
  go_wp2
  rw [inv_val h0 h1 h0 h1]
  rw [rounds_succ]
  go_wp2
  rw [inv_val h0 h1 a0 a1]
  rw [rounds_succ]
  go_wp2
  rw [inv_val h0 h1 b0 b1]
  rw [rounds_succ]
  go_wp2
  go_ret
  exact ⟨rfl, Below.refl _ _⟩

end Go.Proofs.Ytaedplfihjfchaa
