/- Contracts of chapter 2, the program's side: ranges, products, the power by a goto from bit to bit, members. -/
import Derived.Test.YtdhnolafkgkliaaDoorPwSpec2
import Derived.WalkMore
import Derived.ScopeJumps
namespace Go.Proofs.YtdhnolafkgkliaaDoor
set_option linter.unusedVariables false
set_option maxRecDepth 1000000
set_option linter.unusedSimpArgs false
open Go.RowKit

theorem isRest_c (x : Int) (w : World) : Calls Tryd.prog 83 #[.int .i64 x] w fun e w' => e = .returned (.bool (decide (1 ≤ x ∧ x ≤ 2998))) ∧ w' = w := by
  by_cases h1 : 1 ≤ x
  · by_cases h2 : x < 2999
    · go_enter Tryd.func83, Tryd.ntmps83
      go_wp2
      go_ret
      exact ⟨ret_bool (by simp [h1]; omega), rfl⟩
    · go_enter Tryd.func83, Tryd.ntmps83
      go_wp2
      go_ret
      exact ⟨ret_bool (by simp; omega), rfl⟩
  · go_enter Tryd.func83, Tryd.ntmps83
    go_wp2
    go_ret
    exact ⟨ret_bool (by simp; omega), rfl⟩

theorem isSecret_c (x : Int) (w : World) : Calls Tryd.prog 44 #[.int .i64 x] w fun e w' => e = .returned (.bool (decide (1 ≤ x ∧ x ≤ 1498))) ∧ w' = w := by
  by_cases h1 : 1 ≤ x
  · by_cases h2 : x < 1499
    · go_enter Tryd.func44, Tryd.ntmps44
      go_wp2
      go_ret
      exact ⟨ret_bool (by simp [h1]; omega), rfl⟩
    · go_enter Tryd.func44, Tryd.ntmps44
      go_wp2
      go_ret
      exact ⟨ret_bool (by simp; omega), rfl⟩
  · go_enter Tryd.func44, Tryd.ntmps44
    go_wp2
    go_ret
    exact ⟨ret_bool (by simp; omega), rfl⟩

theorem timesRests_c (x y : Int) (w : World) (x0 : 0 ≤ x) (x1 : x < 2999) (y0 : 0 ≤ y) (y1 : y < 2999) : Calls Tryd.prog 80 #[.int .i64 x, .int .i64 y] w fun e w' => e = .returned (.int .i64 (x * y % 2999)) ∧ w' = w := by
  have h := prod_lt x0 x1 y0 y1
  go_enter Tryd.func80, Tryd.ntmps80
  go_wp2
  go_ret
  exact ⟨rfl, rfl⟩

set_option maxHeartbeats 1000000 in
theorem powerOfRest_c (a : Int) (k : Nat) (w : World) (a0 : 0 ≤ a) (a1 : a < 2999) (hk : k ≤ 1000000) :
    Calls Tryd.prog 60 #[.int .i64 a, .int .i64 k] w fun e w' => e = .returned (.int .i64 (pw a k)) ∧ w' = w := by
  go_enter Tryd.func60, Tryd.ntmps60
  go_wp2
  refine wp_scope_jumps 0 (fun a' w' => w' = w ∧ ∃ (x n : Int) (j : Nat), (∃ (u6 u7 u8 u9 u10 u11 u12 u13 u14 u15 u16 u17 u18 u19 : Value), a' = { tmps := #[.int .i64 x, .int .i64 j, undef, undef, .int .i64 0, .int .i64 n, u6, u7, u8, u9, u10, u11, u12, u13, u14, u15, u16, u17, u18, u19], defers := [] }) ∧ 0 ≤ x ∧ x < 2999 ∧ 0 ≤ n ∧ n < 2999 ∧ j ≤ 1000000 ∧ Hid (pwS n x j = pw a k)) (fun a' _ => (intOf (a'.tmps.getD 1 undef)).toNat) rfl ?_ ?_
  · have HS : Hid (pwS 1 a k = pw a k) := pwS_start a k
    have hxx := prod_lt (x := a) (y := a) (by omega) (by omega) (by omega) (by omega)
    have hnx := prod_lt (x := 1) (y := a) (by omega) (by omega) (by omega) (by omega)
    by_cases ho : k % 2 = 1
    · have ho' : ((k : Int) % 2 == 1) = true := by rw [beq_iff_eq]; omega
      have HS2 : Hid (pwS (1 * a % 2999) (a * a % 2999) (k / 2) = pw a k) := (pwS_odd ho).trans HS.out
      by_cases hz : k / 2 = 0
      · have hz' : ¬ (0 : Int) < (k : Int) / 2 := by omega
        have hv : (1 * a % 2999) = pw a k := by rw [← HS2.out, hz]; exact (pwS_zero _ (by omega) (by omega)).symm
        have HV : Hid ((1 * a % 2999) = pw a k) := hv
        clear hv hz
        go_wp2
        go_step3
        go_wp2_with (go_at_call 80; refine (timesRests_c 1 a _ (by omega) (by omega) (by omega) (by omega)).mono ?_; rintro e w' ⟨rfl, rfl⟩)
        simp only [Exit.jump]
        go_ret
        exact ⟨ret_int (by have := HV.out; first | exact this | (rw [Int.one_mul] at this; exact this)), rfl⟩
      · have hz' : (0 : Int) < (k : Int) / 2 := by omega
        clear hz
        go_wp2
        go_step3
        go_wp2_with (first | (go_at_call 80; refine (timesRests_c 1 a _ (by omega) (by omega) (by omega) (by omega)).mono ?_; rintro e w' ⟨rfl, rfl⟩) | (go_at_call 80; refine (timesRests_c a a _ (by omega) (by omega) (by omega) (by omega)).mono ?_; rintro e w' ⟨rfl, rfl⟩))
        go_step3
        rw [Int.one_mul] at HS2
        exact ⟨rfl, rfl, (a * a % 2999), (a % 2999), k / 2, ⟨_, _, _, _, _, _, _, _, _, _, _, _, _, _, rfl⟩, by omega, by omega, by omega, by omega, by omega, HS2⟩
    · have ho' : ((k : Int) % 2 == 1) = false := by rw [beq_eq_false_iff_ne]; omega
      have HS2 : Hid (pwS 1 (a * a % 2999) (k / 2) = pw a k) := (pwS_even (by omega)).trans HS.out
      by_cases hz : k / 2 = 0
      · have hz' : ¬ (0 : Int) < (k : Int) / 2 := by omega
        have hv : 1 = pw a k := by rw [← HS2.out, hz]; exact (pwS_zero _ (by omega) (by omega)).symm
        have HV : Hid (1 = pw a k) := hv
        clear hv hz
        go_wp2
        go_step3
        go_wp2
        simp only [Exit.jump]
        go_ret
        exact ⟨ret_int (by have := HV.out; first | exact this | (rw [Int.one_mul] at this; exact this)), rfl⟩
      · have hz' : (0 : Int) < (k : Int) / 2 := by omega
        clear hz
        go_wp2
        go_step3
        go_wp2_with (go_at_call 80; refine (timesRests_c a a _ (by omega) (by omega) (by omega) (by omega)).mono ?_; rintro e w' ⟨rfl, rfl⟩)
        go_step3
        exact ⟨rfl, rfl, (a * a % 2999), 1, k / 2, ⟨_, _, _, _, _, _, _, _, _, _, _, _, _, _, rfl⟩, by omega, by omega, by omega, by omega, by omega, HS2⟩
  · rintro a' w' ⟨rfl, x, n, j, ⟨u6, u7, u8, u9, u10, u11, u12, u13, u14, u15, u16, u17, u18, u19, rfl⟩, x0, x1, n0, n1, hj, HS⟩
    have hxx := prod_lt (x := x) (y := x) (by omega) (by omega) (by omega) (by omega)
    have hnx := prod_lt (x := n) (y := x) (by omega) (by omega) (by omega) (by omega)
    by_cases ho : j % 2 = 1
    · have ho' : ((j : Int) % 2 == 1) = true := by rw [beq_iff_eq]; omega
      have HS2 : Hid (pwS (n * x % 2999) (x * x % 2999) (j / 2) = pw a k) := (pwS_odd ho).trans HS.out
      by_cases hz : j / 2 = 0
      · have hz' : ¬ (0 : Int) < (j : Int) / 2 := by omega
        have hv : (n * x % 2999) = pw a k := by rw [← HS2.out, hz]; exact (pwS_zero _ (by omega) (by omega)).symm
        have HV : Hid ((n * x % 2999) = pw a k) := hv
        clear hv hz
        go_wp2
        go_wp2_with (go_at_call 80; refine (timesRests_c n x _ (by omega) (by omega) (by omega) (by omega)).mono ?_; rintro e w' ⟨rfl, rfl⟩)
        simp only [Exit.jump]
        go_ret
        exact ⟨ret_int (by have := HV.out; first | exact this | (rw [Int.one_mul] at this; exact this)), rfl⟩
      · have hz' : (0 : Int) < (j : Int) / 2 := by omega
        clear hz
        go_wp2
        go_wp2_with (first | (go_at_call 80; refine (timesRests_c n x _ (by omega) (by omega) (by omega) (by omega)).mono ?_; rintro e w' ⟨rfl, rfl⟩) | (go_at_call 80; refine (timesRests_c x x _ (by omega) (by omega) (by omega) (by omega)).mono ?_; rintro e w' ⟨rfl, rfl⟩))
        go_step3
        refine ⟨rfl, ⟨rfl, (x * x % 2999), (n * x % 2999), j / 2, ⟨_, _, _, _, _, _, _, _, _, _, _, _, _, _, rfl⟩, by omega, by omega, by omega, by omega, by omega, HS2⟩, ?_⟩
        simp [intOf]; omega
    · have ho' : ((j : Int) % 2 == 1) = false := by rw [beq_eq_false_iff_ne]; omega
      have HS2 : Hid (pwS n (x * x % 2999) (j / 2) = pw a k) := (pwS_even (by omega)).trans HS.out
      by_cases hz : j / 2 = 0
      · have hz' : ¬ (0 : Int) < (j : Int) / 2 := by omega
        have hv : n = pw a k := by rw [← HS2.out, hz]; exact (pwS_zero _ (by omega) (by omega)).symm
        have HV : Hid (n = pw a k) := hv
        clear hv hz
        go_wp2
        simp only [Exit.jump]
        go_ret
        exact ⟨ret_int (by have := HV.out; first | exact this | (rw [Int.one_mul] at this; exact this)), rfl⟩
      · have hz' : (0 : Int) < (j : Int) / 2 := by omega
        clear hz
        go_wp2
        go_wp2_with (go_at_call 80; refine (timesRests_c x x _ (by omega) (by omega) (by omega) (by omega)).mono ?_; rintro e w' ⟨rfl, rfl⟩)
        go_step3
        refine ⟨rfl, ⟨rfl, (x * x % 2999), n, j / 2, ⟨_, _, _, _, _, _, _, _, _, _, _, _, _, _, rfl⟩, by omega, by omega, by omega, by omega, by omega, HS2⟩, ?_⟩
        simp [intOf]; omega

end Go.Proofs.YtdhnolafkgkliaaDoor
