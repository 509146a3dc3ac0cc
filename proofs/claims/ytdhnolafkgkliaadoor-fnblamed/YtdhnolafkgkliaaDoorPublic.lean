/- Contracts of PublicFor on both sides, and the law on it, walked: where the table is laid it answers true at every argument and turns nothing. -/
import Derived.Test.YtdhnolafkgkliaaDoorRoot
namespace Go.Proofs.YtdhnolafkgkliaaDoor
set_option linter.unusedVariables false
set_option maxRecDepth 1000000
set_option linter.unusedSimpArgs false
open Go.RowKit

def secB (s : Int) : Bool := decide (1 ≤ s ∧ s ≤ 1498)

set_option maxHeartbeats 1000000 in
theorem specPublic_c (s : Int) (w : World) : Calls Tryd.prog 68 #[.int .i64 s] w fun e w' => e = .returned (.tuple #[.int .i64 (if secB s = true then pw 4 s.toNat else 0), .bool (secB s)]) ∧ w' = w := by
  cases g0 : decide (1 ≤ s ∧ s ≤ 1498)
  · have hb : secB s = false := by simp only [secB, g0, Bool.false_and, Bool.and_false, Bool.true_and, Bool.and_true]
    rw [hb]; clear hb
    simp only [Bool.false_eq_true, if_false]
    go_enter Tryd.func68, Tryd.ntmps68
    go_wp2_with (first | (go_at_call 67; refine (l2Secret_c _ _).mono ?_; rw [g0]; clear g0; rintro e w' ⟨rfl, rfl⟩))
    refine bodyPost_ret (v := .tuple #[.int .i64 0, .bool false]) (by simp [results, Tryd.results68, go_sem]) rfl ⟨rfl, rfl⟩
  · have hb : secB s = true := by simp only [secB, g0, Bool.and_self]
    rw [hb]; clear hb
    simp only [if_true]
    have hs := of_decide_eq_true g0
    obtain ⟨q, rfl⟩ : ∃ q : Nat, s = q := ⟨s.toNat, by omega⟩
    rw [Int.toNat_natCast]
    generalize hp : pw 4 q = r
    go_enter Tryd.func68, Tryd.ntmps68
    go_wp2_with (first | (go_at_call 67; refine (l2Secret_c _ _).mono ?_; rw [g0]; clear g0; rintro e w' ⟨rfl, rfl⟩) | (go_at_call 54; refine (l2Power_c 4 q _ (by omega) (by omega) (by omega)).mono ?_; rw [hp]; clear hp; rintro e w' ⟨rfl, rfl⟩))
    refine bodyPost_ret (v := .tuple #[.int .i64 r, .bool true]) (by simp [results, Tryd.results68, go_sem]) rfl ⟨rfl, rfl⟩

set_option maxHeartbeats 1000000 in
theorem implPublic_c (s : Int) (w : World) (ht : Tab w) : Calls Tryd.prog 26 #[.int .i64 s] w fun e w' => e = .returned (.tuple #[.int .i64 (if secB s = true then pw 4 s.toNat else 0), .bool (secB s)]) ∧ w' = w := by
  cases g0 : decide (1 ≤ s ∧ s ≤ 1498)
  · have hb : secB s = false := by simp only [secB, g0, Bool.false_and, Bool.and_false, Bool.true_and, Bool.and_true]
    rw [hb]; clear hb
    simp only [Bool.false_eq_true, if_false]
    go_enter Tryd.func26, Tryd.ntmps26
    go_wp2_with (first | (go_at_call 44; refine (isSecret_c _ _).mono ?_; rw [g0]; clear g0; rintro e w' ⟨rfl, rfl⟩))
    refine bodyPost_ret (v := .tuple #[.int .i64 0, .bool false]) (by simp [results, Tryd.results26, go_sem]) rfl ⟨rfl, rfl⟩
  · have hb : secB s = true := by simp only [secB, g0, Bool.and_self]
    rw [hb]; clear hb
    simp only [if_true]
    have HT : Hid (Tab w) := ht
    clear ht
    have hs := of_decide_eq_true g0
    obtain ⟨q, rfl⟩ : ∃ q : Nat, s = q := ⟨s.toNat, by omega⟩
    rw [Int.toNat_natCast]
    generalize hp : pw 4 q = r
    go_enter Tryd.func26, Tryd.ntmps26
    go_wp2_with (first | (go_at_call 44; refine (isSecret_c _ _).mono ?_; rw [g0]; clear g0; rintro e w' ⟨rfl, rfl⟩) | (go_at_call 53; refine (rootTo_c q _ (by omega) HT.out).mono ?_; rw [hp]; clear hp; rintro e w' ⟨rfl, rfl⟩))
    refine bodyPost_ret (v := .tuple #[.int .i64 r, .bool true]) (by simp [results, Tryd.results26, go_sem]) rfl ⟨rfl, rfl⟩

end Go.Proofs.YtdhnolafkgkliaaDoor
