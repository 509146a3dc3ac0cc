/- The laws on PowerOf, InverseOf, SharedOf and IsMember, walked: true at every argument, nothing turned. -/
import Derived.Test.YtckeodcmbdbomaaPwImpl2
namespace Go.Proofs.Ytckeodcmbdbomaa
set_option linter.unusedVariables false
set_option linter.unusedSimpArgs false
open Go.RowKit

set_option maxHeartbeats 1000000 in
theorem lawPower_c (a k : Int) (w : World) : Calls Try.prog 3 #[.int .i64 a, .int .i64 k] w fun e w' => e = .returned (.bool true) ∧ w' = w := by
  have hs := fun wx => specPower_c a k wx
  have hi := fun wx => implPower_c a k wx
  generalize (if powB a k = true then pw a k.toNat else 0) = p at hs hi
  generalize powB a k = b at hs hi
  have HS : Hid (∀ wx, Calls Try.prog 9 #[.int .i64 a, .int .i64 k] wx fun e w' => e = .returned (.tuple #[.int .i64 p, .bool b]) ∧ w' = wx) := hs
  have HI : Hid (∀ wx, Calls Try.prog 10 #[.int .i64 a, .int .i64 k] wx fun e w' => e = .returned (.tuple #[.int .i64 p, .bool b]) ∧ w' = wx) := hi
  clear hs hi
  have e1 : (p != p) = false := by simp
  have e2 : (b != b) = false := by simp
  go_enter Try.func3, Try.ntmps3
  go_wp2_with (first
    | (go_at_call 9; refine (HS.out _).mono ?_; rintro e w' ⟨rfl, rfl⟩)
    | (go_at_call 10; refine (HI.out _).mono ?_; rintro e w' ⟨rfl, rfl⟩))
  go_ret
  exact ⟨rfl, rfl⟩

set_option maxHeartbeats 1000000 in
theorem lawInverse_c (a : Int) (w : World) : Calls Try.prog 8 #[.int .i64 a] w fun e w' => e = .returned (.bool true) ∧ w' = w := by
  have hs := fun wx => specInverse_c a wx
  have hi := fun wx => implInverse_c a wx
  generalize (if unitB a = true then pw a 2997 else 0) = p at hs hi
  generalize unitB a = b at hs hi
  have HS : Hid (∀ wx, Calls Try.prog 21 #[.int .i64 a] wx fun e w' => e = .returned (.tuple #[.int .i64 p, .bool b]) ∧ w' = wx) := hs
  have HI : Hid (∀ wx, Calls Try.prog 22 #[.int .i64 a] wx fun e w' => e = .returned (.tuple #[.int .i64 p, .bool b]) ∧ w' = wx) := hi
  clear hs hi
  have e1 : (p != p) = false := by simp
  have e2 : (b != b) = false := by simp
  go_enter Try.func8, Try.ntmps8
  go_wp2_with (first
    | (go_at_call 21; refine (HS.out _).mono ?_; rintro e w' ⟨rfl, rfl⟩)
    | (go_at_call 22; refine (HI.out _).mono ?_; rintro e w' ⟨rfl, rfl⟩))
  go_ret
  exact ⟨rfl, rfl⟩

set_option maxHeartbeats 1000000 in
theorem lawShared_c (s q : Int) (w : World) : Calls Try.prog 4 #[.int .i64 s, .int .i64 q] w fun e w' => e = .returned (.bool true) ∧ w' = w := by
  have hs := fun wx => specShared_c s q wx
  have hi := fun wx => implShared_c s q wx
  generalize (if shareB s q = true then pw q s.toNat else 0) = p at hs hi
  generalize shareB s q = b at hs hi
  have HS : Hid (∀ wx, Calls Try.prog 11 #[.int .i64 s, .int .i64 q] wx fun e w' => e = .returned (.tuple #[.int .i64 p, .bool b]) ∧ w' = wx) := hs
  have HI : Hid (∀ wx, Calls Try.prog 12 #[.int .i64 s, .int .i64 q] wx fun e w' => e = .returned (.tuple #[.int .i64 p, .bool b]) ∧ w' = wx) := hi
  clear hs hi
  have e1 : (p != p) = false := by simp
  have e2 : (b != b) = false := by simp
  go_enter Try.func4, Try.ntmps4
  go_wp2_with (first
    | (go_at_call 11; refine (HS.out _).mono ?_; rintro e w' ⟨rfl, rfl⟩)
    | (go_at_call 12; refine (HI.out _).mono ?_; rintro e w' ⟨rfl, rfl⟩))
  go_ret
  exact ⟨rfl, rfl⟩

set_option maxHeartbeats 1000000 in
theorem lawMember_c (a : Int) (w : World) : Calls Try.prog 5 #[.int .i64 a] w fun e w' => e = .returned (.bool true) ∧ w' = w := by
  have hs := fun wx => specMember_c a wx
  have hi := fun wx => implMember_c a wx
  generalize memB a = b at hs hi
  have HS : Hid (∀ wx, Calls Try.prog 13 #[.int .i64 a] wx fun e w' => e = .returned (.bool b) ∧ w' = wx) := hs
  have HI : Hid (∀ wx, Calls Try.prog 14 #[.int .i64 a] wx fun e w' => e = .returned (.bool b) ∧ w' = wx) := hi
  clear hs hi
  have e2 : (b != b) = false := by simp
  go_enter Try.func5, Try.ntmps5
  go_wp2_with (first
    | (go_at_call 13; refine (HS.out _).mono ?_; rintro e w' ⟨rfl, rfl⟩)
    | (go_at_call 14; refine (HI.out _).mono ?_; rintro e w' ⟨rfl, rfl⟩))
  go_ret
  exact ⟨rfl, rfl⟩

end Go.Proofs.Ytckeodcmbdbomaa
