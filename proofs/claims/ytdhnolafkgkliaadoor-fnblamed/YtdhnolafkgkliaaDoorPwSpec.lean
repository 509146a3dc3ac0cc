/- Contracts of chapter 2 that hold for plain numbers: the specification's side. -/
import Derived.Test.YtdhnolafkgkliaaDoorPw
import Derived.WalkKit
import Derived.WalkSpells
import Derived.WalkLawsBesides
import Derived.Deep.QuietTactic
import Derived.BigQuiet
namespace Go.Proofs.YtdhnolafkgkliaaDoor
set_option linter.unusedVariables false
set_option maxRecDepth 1000000
set_option linter.unusedSimpArgs false
open Go.RowKit

theorem ret_bool {a b : Bool} (h : a = b) : Ending.returned (.bool a) = .returned (.bool b) := by rw [h]
theorem ret_int {a b : Int} (h : a = b) : Ending.returned (.int .i64 a) = .returned (.int .i64 b) := by rw [h]

theorem l1In_c (x lo hi : Int) (w : World) : Calls Tryd.prog 50 #[.int .i64 x, .int .i64 lo, .int .i64 hi] w fun e w' => e = .returned (.bool (decide (lo ≤ x ∧ x ≤ hi))) ∧ w' = w := by
  by_cases h1 : lo ≤ x
  · by_cases h2 : x ≤ hi
    · go_enter Tryd.func50, Tryd.ntmps50
      go_wp2
      go_ret
      exact ⟨ret_bool (by simp [h1, h2]), rfl⟩
    · go_enter Tryd.func50, Tryd.ntmps50
      go_wp2
      go_ret
      exact ⟨ret_bool (by simp; omega), rfl⟩
  · go_enter Tryd.func50, Tryd.ntmps50
    go_wp2
    go_ret
    exact ⟨ret_bool (by simp; omega), rfl⟩

theorem l2Unit_c (x : Int) (w : World) : Calls Tryd.prog 86 #[.int .i64 x] w fun e w' => e = .returned (.bool (decide (1 ≤ x ∧ x ≤ 2998))) ∧ w' = w := by
  generalize hd : decide (1 ≤ x ∧ x ≤ 2998) = b
  go_enter Tryd.func86, Tryd.ntmps86
  go_wp2_with fail
  refine (l1In_c x 1 2998 _).mono ?_
  rw [hd]
  clear hd
  rintro e w' ⟨rfl, rfl⟩
  go_wp2
  go_ret
  exact ⟨rfl, rfl⟩

theorem l2Secret_c (x : Int) (w : World) : Calls Tryd.prog 67 #[.int .i64 x] w fun e w' => e = .returned (.bool (decide (1 ≤ x ∧ x ≤ 1498))) ∧ w' = w := by
  generalize hd : decide (1 ≤ x ∧ x ≤ 1498) = b
  go_enter Tryd.func67, Tryd.ntmps67
  go_wp2_with fail
  refine (l1In_c x 1 1498 _).mono ?_
  rw [hd]
  clear hd
  rintro e w' ⟨rfl, rfl⟩
  go_wp2
  go_ret
  exact ⟨rfl, rfl⟩

set_option maxHeartbeats 1000000 in
theorem l2Power_c (a : Int) (k : Nat) (w : World) (a0 : 0 ≤ a) (a1 : a < 2999) (hk : k ≤ 1000000) :
    Calls Tryd.prog 54 #[.int .i64 a, .int .i64 k] w fun e w' => e = .returned (.int .i64 (pw a k)) ∧ w' = w := by
  go_enter Tryd.func54, Tryd.ntmps54
  go_wp2
  go_loop [0, 1, 5] (fun av kv nv => ∃ (x n : Int) (j : Nat), av = .int .i64 x ∧ kv = .int .i64 j ∧ nv = .int .i64 n ∧ 0 ≤ x ∧ x < 2999 ∧ 0 ≤ n ∧ n < 2999 ∧ j ≤ 1000000 ∧ Hid (pwS n x j = pw a k)) (fun _ kv _ => (intOf kv).toNat)
  case atStart => exact ⟨a, 1, k, rfl, rfl, rfl, a0, a1, by omega, by omega, hk, pwS_start a k⟩
  case round =>
    obtain ⟨x, n, j, rfl, rfl, rfl, x0, x1, n0, n1, hj, HS⟩ := hrel
    by_cases hz : j = 0
    · subst hz
      go_wp2
      go_ret
      exact ⟨ret_int (by rw [← HS.out, pwS_zero x n0 n1]), rfl⟩
    · have hp : (0 : Int) < (j : Int) := by omega
      have hxx := prod_lt x0 x1 x0 x1
      have hnx := prod_lt n0 n1 x0 x1
      by_cases ho : j % 2 = 1
      · have HS2 : Hid (pwS (n * x % 2999) (x * x % 2999) (j / 2) = pw a k) := (pwS_odd ho).trans HS.out
        have ho' : ((j : Int) % 2 == 1) = true := by rw [beq_iff_eq]; omega
        go_wp2
        go_round
        case rel => exact ⟨x * x % 2999, n * x % 2999, j / 2, rfl, by go_num, rfl, by omega, by omega, by omega, by omega, by omega, HS2⟩
        case measure => simp [intOf]; omega
      · have HS2 : Hid (pwS n (x * x % 2999) (j / 2) = pw a k) := (pwS_even (by omega)).trans HS.out
        have ho' : ((j : Int) % 2 == 1) = false := by rw [beq_eq_false_iff_ne]; omega
        go_wp2
        go_round
        case rel => exact ⟨x * x % 2999, n, j / 2, rfl, by go_num, rfl, by omega, by omega, by omega, by omega, by omega, HS2⟩
        case measure => simp [intOf]; omega

/-- A member. -/
def memB (a : Int) : Bool := decide (1 ≤ a ∧ a ≤ 2998) && (pw a 1499 == 1)

theorem memB_in {a : Int} (h : memB a = true) : 1 ≤ a ∧ a ≤ 2998 := by simp [memB] at h; omega

theorem specMember_c (a : Int) (w : World) : Calls Tryd.prog 69 #[.int .i64 a] w fun e w' => e = .returned (.bool (memB a)) ∧ w' = w := by
  by_cases h : 1 ≤ a ∧ a ≤ 2998
  · have hd : decide (1 ≤ a ∧ a ≤ 2998) = true := decide_eq_true h
    have hm : memB a = (pw a 1499 == 1) := by simp [memB, h]
    rw [hm]
    clear hm
    generalize hp : pw a 1499 = p
    go_enter Tryd.func69, Tryd.ntmps69
    go_wp2_with (first
      | (go_at_call 86; refine (l2Unit_c a _).mono ?_; rw [hd]; clear hd; rintro e w' ⟨rfl, rfl⟩)
      | (go_at_call 54; refine (l2Power_c a 1499 _ (by omega) (by omega) (by omega)).mono ?_; rw [hp]; clear hp; rintro e w' ⟨rfl, rfl⟩))
    go_ret
    exact ⟨rfl, rfl⟩
  · have hd : decide (1 ≤ a ∧ a ≤ 2998) = false := decide_eq_false h
    have hm : memB a = false := by simp only [memB, hd, Bool.false_and]
    rw [hm]
    go_enter Tryd.func69, Tryd.ntmps69
    go_wp2_with (go_at_call 86; refine (l2Unit_c a _).mono ?_; rw [hd]; clear hd; rintro e w' ⟨rfl, rfl⟩)
    go_ret
    exact ⟨rfl, rfl⟩

def powB (a k : Int) : Bool := decide (1 ≤ a ∧ a ≤ 2998) && decide (0 ≤ k ∧ k ≤ 1000000)

end Go.Proofs.YtdhnolafkgkliaaDoor
