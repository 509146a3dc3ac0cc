/- What DigitsOf calls: divideByOne, strconv.Itoa and l1Num below ten. -/
import Derived.Test.YtcklmgifboceaaaDoorBase
import Derived.Laws.BytesArg
namespace Go.Proofs.YtcklmgifboceaaaDoor
set_option linter.unusedVariables false
set_option maxRecDepth 1000000
set_option linter.unusedSimpArgs false
open Go.RowKit

/-- The text of one digit. -/
def digS (n : Nat) : ByteArray := strOfNums [((48 + n : Nat) : Int)]
theorem digS_size (n : Nat) : (digS n).size = 1 := rfl
theorem ret_str {a b : ByteArray} (h : a = b) : Ending.returned (.string a) = .returned (.string b) := by rw [h]

theorem small_c (n : Nat) (h : n < 10) (w : World) :
    Calls Tryd.prog 70 #[.int .i64 (n : Int)] w fun e w' => e = .returned (.string (digS n)) ∧ w' = w := by
  have : n = 0 ∨ n = 1 ∨ n = 2 ∨ n = 3 ∨ n = 4 ∨ n = 5 ∨ n = 6 ∨ n = 7 ∨ n = 8 ∨ n = 9 := by omega
  rcases this with rfl | rfl | rfl | rfl | rfl | rfl | rfl | rfl | rfl | rfl
  all_goals
    go_enter Tryd.func70, Tryd.ntmps70
    go_wp2
    go_ret
    exact ⟨ret_str (by decide +kernel), rfl⟩

theorem formatInt_c (n : Nat) (h : n < 10) (w : World) :
    Calls Tryd.prog 69 #[.int .i64 (n : Int), .int .i64 10] w fun e w' => e = .returned (.string (digS n)) ∧ w' = w := by
  have h0 : (0 : Int) ≤ (n : Int) := by omega
  have h1 : (n : Int) < 100 := by omega
  go_enter Tryd.func69, Tryd.ntmps69
  go_wp2_with fail
  refine (small_c n h _).mono ?_
  rintro e w' ⟨rfl, hw⟩
  subst w'
  go_wp2
  go_ret
  exact ⟨rfl, rfl⟩

theorem iItoa_c (n : Nat) (h : n < 10) (w : World) :
    Calls Tryd.prog 67 #[.int .i64 (n : Int)] w fun e w' => e = .returned (.string (digS n)) ∧ w' = w := by
  have h0 : (0 : Int) ≤ (n : Int) := by omega
  go_enter Tryd.func67, Tryd.ntmps67
  go_wp2_with fail
  refine (formatInt_c n h _).mono ?_
  rintro e w' ⟨rfl, hw⟩
  subst w'
  go_wp2
  go_ret
  exact ⟨rfl, rfl⟩

theorem itoa_c (n : Nat) (h : n < 10) (w : World) :
    Calls Tryd.prog 47 #[.int .i64 (n : Int)] w fun e w' => e = .returned (.string (digS n)) ∧ w' = w := by
  go_enter Tryd.func47, Tryd.ntmps47
  go_wp2_with fail
  refine (iItoa_c n h _).mono ?_
  rintro e w' ⟨rfl, hw⟩
  subst w'
  go_wp2
  go_ret
  exact ⟨rfl, rfl⟩

theorem l1Num_c (n : Nat) (h : n < 10) (w : World) :
    Calls Tryd.prog 48 #[.int .i64 (n : Int)] w fun e w' => e = .returned (.string (digS n)) ∧ Below w.heap.size w w' := by
  have h0 : (n : Int) < 10 := by omega
  obtain ⟨D, hD⟩ : ∃ D : Nat, D = 48 + n := ⟨_, rfl⟩
  have hD1 : (48 + (n : Int)) = (D : Int) := by omega
  have hD2 : (D : Int) % 256 = (D : Int) := by omega
  have HS : Hid (strOfNums [(D : Int)] = digS n) := by show _ = _; rw [hD]; rfl
  have hcv := run_convert_bytes_arg (P := Tryd.prog) (w.alloc (.cells #[.int .u8 (D : Int)] 5)) 22 5 Tryd.underlying22 Tryd.underlying5 w.heap.size 0 1 1 [(D : Int)] rfl (fun i hi => by
    obtain rfl : i = 0 := by omega
    simp) 9 Tryd.underlying9
  generalize strOfNums [(D : Int)] = S at hcv HS
  clear hD
  go_enter Tryd.func48, Tryd.ntmps48
  go_wp2
  go_ret
  exact ⟨ret_str HS.out, (Below.refl _ _).alloc (Nat.le_refl _) _⟩

end Go.Proofs.YtcklmgifboceaaaDoor
