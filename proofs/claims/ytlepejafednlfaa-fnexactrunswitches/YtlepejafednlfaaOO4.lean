/- OrdersOf: the contracts, the program's and the specification's. -/
import Derived.Test.YtlepejafednlfaaR4
import Derived.Test.YtlepejafednlfaaOrd4
namespace Go.Proofs.Ytlepejafednlfaa
set_option linter.unusedVariables false
set_option maxRecDepth 1000000
set_option linter.unusedSimpArgs false
open Go.RowKit

theorem fac_le13 {n : Nat} (h : n ≤ 13) : fac n ≤ 6227020800 := by
  have : ∀ k, k ≤ 13 → fac k ≤ 6227020800 := by decide
  exact this n h

theorem l4Orders_c (m : Nat) (w : World) (hm : m ≤ 12) :
    Calls Try.prog 80 #[.int .i64 m] w fun e w' => e = .returned (.int .i64 (fac m : Nat)) ∧ w' = w := by
  go_enter Try.func80, Try.ntmps80
  go_wp2
  go_loop [3, 4] (fun nv kv => ∃ (j : Nat) (z : Int), nv = .int .i64 z ∧ kv = .int .i64 ((j : Int) + 2) ∧ (j + 1 ≤ m ∨ j = 0) ∧ j ≤ 12 ∧ z = (fac (j + 1) : Nat)) (fun _ kv => (m + 2 - (intOf kv).toNat))
  case atStart => exact ⟨0, 1, rfl, rfl, Or.inr rfl, by omega, rfl⟩
  case round =>
    obtain ⟨j, z, rfl, rfl, hj, hj2, hz⟩ := hrel
    by_cases hlt : j + 2 ≤ m
    · have hs : (fac (j + 1 + 1) : Nat) = (j + 2) * fac (j + 1) := rfl
      have hb := fac_le13 (show j + 1 + 1 ≤ 13 by omega)
      rw [hs] at hb
      have hm : z * ((j : Int) + 2) = (((j + 2) * fac (j + 1) : Nat) : Int) := by rw [hz, Int.mul_comm]; simp
      have hw : wrap64 (z * ((j : Int) + 2)) = z * ((j : Int) + 2) := by
        rw [hm]; generalize (j + 2) * fac (j + 1) = q at *; exact w64 (by omega)
      have HM : Hid (z * ((j : Int) + 2) = (fac (j + 1 + 1) : Nat)) := by show _ = _; rw [hm, hs]
      have hle : (j : Int) + 2 ≤ (m : Int) := by omega
      clear hs hb hm hz
      go_wp2
      go_round
      case rel => exact ⟨j + 1, z * ((j : Int) + 2), by first | rw [hw] | rfl, by go_num, by omega, by omega, HM.out⟩
      case measure => simp [intOf]; omega
    · have hgt : (m : Int) < (j : Int) + 2 := by omega
      have hE : z = (fac m : Nat) := by
        rw [hz]
        rcases hj with h | h
        · rw [show m = j + 1 by omega]
        · subst h
          rcases Nat.lt_or_ge m 1 with h2 | h2
          · rw [show m = 0 by omega]; rfl
          · rw [show m = 1 by omega]
      have HE : Hid (z = (fac m : Nat)) := hE
      clear hz hj hE
      go_wp2
      go_ret
      exact ⟨ret_int HE.out, rfl⟩

def ordersF (x : Int) : Int × Bool := if 0 ≤ x ∧ x ≤ 9 then ((fac x.toNat : Nat), true) else (0, false)

end Go.Proofs.Ytlepejafednlfaa
