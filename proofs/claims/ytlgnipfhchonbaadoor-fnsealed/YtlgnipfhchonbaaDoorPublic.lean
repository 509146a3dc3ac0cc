/- Contracts of PublicFor on both sides, and the law on it, walked: where the table is laid it answers true at every argument and turns nothing. -/
import Derived.Test.YtlgnipfhchonbaaDoorRoot
namespace Go.Proofs.YtlgnipfhchonbaaDoor
set_option linter.unusedVariables false
set_option linter.unusedSimpArgs false
open Go.RowKit

def secB (s : Int) : Bool := decide (1 ≤ s ∧ s ≤ 1498)

set_option maxHeartbeats 1000000 in
theorem specPublic_c (s : Int) (w : World) : Calls Tryd.prog 10 #[.int .i64 s] w fun e w' => e = .returned (.tuple #[.int .i64 (if secB s = true then pw 4 s.toNat else 0), .bool (secB s)]) ∧ w' = w := by
  cases g0 : decide (1 ≤ s ∧ s ≤ 1498)
  · have hb : secB s = false := by simp only [secB, g0, Bool.false_and, Bool.and_false, Bool.true_and, Bool.and_true]
    rw [hb]; clear hb
    simp only [Bool.false_eq_true, if_false]
    go_enter Tryd.func10, Tryd.ntmps10
    go_wp2_with (first | (go_at_call 40; refine (l2Secret_c _ _).mono ?_; rw [g0]; clear g0; rintro e w' ⟨rfl, rfl⟩))
    refine bodyPost_ret (v := .tuple #[.int .i64 0, .bool false]) (by simp [results, Tryd.results10, go_sem]) rfl ⟨rfl, rfl⟩
  · have hb : secB s = true := by simp only [secB, g0, Bool.and_self]
    rw [hb]; clear hb
    simp only [if_true]
    have hs := of_decide_eq_true g0
    obtain ⟨q, rfl⟩ : ∃ q : Nat, s = q := ⟨s.toNat, by omega⟩
    rw [Int.toNat_natCast]
    generalize hp : pw 4 q = r
    go_enter Tryd.func10, Tryd.ntmps10
    go_wp2_with (first | (go_at_call 40; refine (l2Secret_c _ _).mono ?_; rw [g0]; clear g0; rintro e w' ⟨rfl, rfl⟩) | (go_at_call 41; refine (l2Power_c 4 q _ (by omega) (by omega) (by omega)).mono ?_; rw [hp]; clear hp; rintro e w' ⟨rfl, rfl⟩))
    refine bodyPost_ret (v := .tuple #[.int .i64 r, .bool true]) (by simp [results, Tryd.results10, go_sem]) rfl ⟨rfl, rfl⟩

set_option maxHeartbeats 1000000 in
theorem implPublic_c (s : Int) (w : World) (ht : Tab w) : Calls Tryd.prog 9 #[.int .i64 s] w fun e w' => e = .returned (.tuple #[.int .i64 (if secB s = true then pw 4 s.toNat else 0), .bool (secB s)]) ∧ w' = w := by
  cases g0 : decide (1 ≤ s ∧ s ≤ 1498)
  · have hb : secB s = false := by simp only [secB, g0, Bool.false_and, Bool.and_false, Bool.true_and, Bool.and_true]
    rw [hb]; clear hb
    simp only [Bool.false_eq_true, if_false]
    go_enter Tryd.func9, Tryd.ntmps9
    go_wp2_with (first | (go_at_call 38; refine (isSecret_c _ _).mono ?_; rw [g0]; clear g0; rintro e w' ⟨rfl, rfl⟩))
    refine bodyPost_ret (v := .tuple #[.int .i64 0, .bool false]) (by simp [results, Tryd.results9, go_sem]) rfl ⟨rfl, rfl⟩
  · have hb : secB s = true := by simp only [secB, g0, Bool.and_self]
    rw [hb]; clear hb
    simp only [if_true]
    have HT : Hid (Tab w) := ht
    clear ht
    have hs := of_decide_eq_true g0
    obtain ⟨q, rfl⟩ : ∃ q : Nat, s = q := ⟨s.toNat, by omega⟩
    rw [Int.toNat_natCast]
    generalize hp : pw 4 q = r
    go_enter Tryd.func9, Tryd.ntmps9
    go_wp2_with (first | (go_at_call 38; refine (isSecret_c _ _).mono ?_; rw [g0]; clear g0; rintro e w' ⟨rfl, rfl⟩) | (go_at_call 39; refine (rootTo_c q _ (by omega) HT.out).mono ?_; rw [hp]; clear hp; rintro e w' ⟨rfl, rfl⟩))
    refine bodyPost_ret (v := .tuple #[.int .i64 r, .bool true]) (by simp [results, Tryd.results9, go_sem]) rfl ⟨rfl, rfl⟩

set_option maxHeartbeats 1000000 in
theorem lawPublic_c (s : Int) (w : World) (ht : Tab w) : Calls Tryd.prog 5 #[.int .i64 s] w fun e w' => e = .returned (.bool true) ∧ w' = w := by
  have hs := fun wx => specPublic_c s wx
  have hi := fun wx => implPublic_c s wx
  generalize (if secB s = true then pw 4 s.toNat else 0) = p at hs hi
  generalize secB s = b at hs hi
  have HS : Hid (∀ wx, Calls Tryd.prog 10 #[.int .i64 s] wx fun e w' => e = .returned (.tuple #[.int .i64 p, .bool b]) ∧ w' = wx) := hs
  have HI : Hid (∀ wx, Tab wx → Calls Tryd.prog 9 #[.int .i64 s] wx fun e w' => e = .returned (.tuple #[.int .i64 p, .bool b]) ∧ w' = wx) := hi
  have HT : Hid (Tab w) := ht
  clear hs hi ht
  have e1 : (p != p) = false := by simp
  have e2 : (b != b) = false := by simp
  go_enter Tryd.func5, Tryd.ntmps5
  go_wp2_with (first
    | (go_at_call 10; refine (HS.out _).mono ?_; rintro e w' ⟨rfl, rfl⟩)
    | (go_at_call 9; refine (HI.out _ HT.out).mono ?_; rintro e w' ⟨rfl, rfl⟩))
  go_ret
  exact ⟨rfl, rfl⟩

end Go.Proofs.YtlgnipfhchonbaaDoor
