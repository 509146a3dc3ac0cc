/- Chapter 11: small functions of both sides. -/
import Derived.Test.YtdhnolafkgkliaaP11
import Derived.Test.YtdhnolafkgkliaaR11
import Derived.Test.YtdhnolafkgkliaaPwImpl2
import Derived.ChangeKeysEq
import Derived.Laws.StructEq
namespace Go.Proofs.Ytdhnolafkgkliaa
set_option linter.unusedVariables false
set_option maxRecDepth 1000000
set_option linter.unusedSimpArgs false
open Go.RowKit

theorem Try.plainInt : Try.prog.plainKey 3 = true := by kernel_rfl

theorem isHand_c (x : Int) (w : World) : Calls Try.prog 21 #[.int .i64 x] w fun e w' => e = .returned (.bool (decide (0 ≤ x ∧ x ≤ 5))) ∧ w' = w := by
  by_cases h1 : 0 ≤ x
  · by_cases h2 : x ≤ 5
    · have h3 : x < 6 := by omega
      go_enter Try.func21, Try.ntmps21
      go_wp2
      go_ret
      exact ⟨ret_bool (by simp [letB, h1, h2]), rfl⟩
    · have h3 : ¬ x < 6 := by omega
      go_enter Try.func21, Try.ntmps21
      go_wp2
      go_ret
      exact ⟨ret_bool (by simp [letB]; omega), rfl⟩
  · go_enter Try.func21, Try.ntmps21
    go_wp2
    go_ret
    exact ⟨ret_bool (by simp [letB]; omega), rfl⟩

theorem isLetterNumber_c (x : Int) (w : World) : Calls Try.prog 22 #[.int .i64 x] w fun e w' => e = .returned (.bool (letB x)) ∧ w' = w := by
  by_cases h1 : 0 ≤ x
  · by_cases h2 : x ≤ 1000
    · have h3 : x < 1001 := by omega
      go_enter Try.func22, Try.ntmps22
      go_wp2
      go_ret
      exact ⟨ret_bool (by simp [letB, h1, h2]), rfl⟩
    · have h3 : ¬ x < 1001 := by omega
      go_enter Try.func22, Try.ntmps22
      go_wp2
      go_ret
      exact ⟨ret_bool (by simp [letB]; omega), rfl⟩
  · go_enter Try.func22, Try.ntmps22
    go_wp2
    go_ret
    exact ⟨ret_bool (by simp [letB]; omega), rfl⟩

theorem l11Letter_c (x : Int) (w : World) : Calls Try.prog 18 #[.int .i64 x] w fun e w' => e = .returned (.bool (letB x)) ∧ w' = w := by
  unfold letB
  generalize hd : decide (0 ≤ x ∧ x ≤ 1000) = b
  go_enter Try.func18, Try.ntmps18
  go_wp2_with fail
  refine (l1In_c x 0 1000 _).mono ?_
  rw [hd]
  clear hd
  rintro e w' ⟨rfl, rfl⟩
  go_wp2
  go_ret
  exact ⟨rfl, rfl⟩

theorem times_lt {x y : Int} (x0 : 0 ≤ x) (x1 : x < 1499) (y0 : 0 ≤ y) (y1 : y < 1499) : 0 ≤ x * y ∧ x * y < 2247001 := by
  have h1 := Int.mul_nonneg x0 y0
  have h2 : x * y ≤ 1498 * y := Int.mul_le_mul_of_nonneg_right (by omega) y0
  omega

theorem timesSmall_c (x y : Int) (w : World) (x0 : 0 ≤ x) (x1 : x < 1499) (y0 : 0 ≤ y) (y1 : y < 1499) : Calls Try.prog 33 #[.int .i64 x, .int .i64 y] w fun e w' => e = .returned (.int .i64 (x * y % 1499)) ∧ w' = w := by
  have h := times_lt x0 x1 y0 y1
  go_enter Try.func33, Try.ntmps33
  go_wp2
  go_ret
  exact ⟨rfl, rfl⟩

theorem l11Number_c (f l : Int) (w : World) (hf : -1 ≤ f ∧ f ≤ 5) (hl : 0 ≤ l ∧ l ≤ 1000) : Calls Try.prog 31 #[.int .i64 f, .int .i64 l] w fun e w' => e = .returned (.int .i64 (numR f l)) ∧ w' = w := by
  have h0 : 0 ≤ l + 1001 * (f + 2) + 7 := by omega
  go_enter Try.func31, Try.ntmps31
  go_wp2
  go_ret
  exact ⟨rfl, rfl⟩

set_option maxHeartbeats 1000000 in
theorem signedNumber_c (f t l s : Int) (w : World) (hf : -1 ≤ f ∧ f ≤ 5) (hl : 0 ≤ l ∧ l ≤ 1000) : Calls Try.prog 34 #[.agg #[.int .i64 f, .int .i64 t, .int .i64 l, .int .i64 s]] w fun e w' => e = .returned (.int .i64 (numR f l)) ∧ Below w.heap.size w w' := by
  have h0 : 0 ≤ l + 1001 * (f + 2) + 7 := by omega
  go_enter Try.func34, Try.ntmps34
  go_wp2
  go_ret
  exact ⟨rfl, by first | exact Below.refl _ _ | exact balloc w _⟩

set_option maxHeartbeats 1000000 in
theorem unsignedFor_c (h l : Int) (w : World) (hh : -4611686018427387904 ≤ h ∧ h ≤ 4611686018427387904) : Calls Try.prog 32 #[.int .i64 h, .int .i64 l] w fun e w' => e = .returned (.agg #[.int .i64 (h - 1), .int .i64 h, .int .i64 l, .int .i64 0]) ∧ Below w.heap.size w w' := by
  go_enter Try.func32, Try.ntmps32
  go_wp2
  refine bodyPost_ret (v := .agg #[.int .i64 (h - 1), .int .i64 h, .int .i64 l, .int .i64 0]) (by simp [results, Try.results32, go_sem]) rfl ⟨rfl, ?_⟩
  first | exact Below.refl _ _ | exact balloc w _ | exact below_two w _ _

theorem run_eql_rc (a b c d p q r s : Int) (w : World) : (binOp .eql 23 (.agg #[.int .i64 a, .int .i64 b, .int .i64 c, .int .i64 d]) (.agg #[.int .i64 p, .int .i64 q, .int .i64 r, .int .i64 s])).run Try.prog w = .ok (.bool (a == p && (b == q && (c == r && d == s)))) w := by
  have p0 : ∀ a b c d : Int, (part 3 #[.int .i64 a, .int .i64 b, .int .i64 c, .int .i64 d] 0).run Try.prog w = .ok (.int .i64 a) w := fun a b c d => run_part_plain w Try.plainInt rfl
  have p1 : ∀ a b c d : Int, (part 3 #[.int .i64 a, .int .i64 b, .int .i64 c, .int .i64 d] 1).run Try.prog w = .ok (.int .i64 b) w := fun a b c d => run_part_plain w Try.plainInt rfl
  have p2 : ∀ a b c d : Int, (part 3 #[.int .i64 a, .int .i64 b, .int .i64 c, .int .i64 d] 2).run Try.prog w = .ok (.int .i64 c) w := fun a b c d => run_part_plain w Try.plainInt rfl
  have p3 : ∀ a b c d : Int, (part 3 #[.int .i64 a, .int .i64 b, .int .i64 c, .int .i64 d] 3).run Try.prog w = .ok (.int .i64 d) w := fun a b c d => run_part_plain w Try.plainInt rfl
  rw [run_eql_struct, run_equalIn_struct w 9999 23 _ _ (by kernel_rfl) (by kernel_rfl)]
  simp only [Program.fieldsOf, Try.underlying23, Op.eqFields]
  simp [p0, p1, p2, p3, run_equalIn_int w 9998 3 .i64 .i64 _ _ Try.underlying3]
  by_cases h1 : a = p
  · subst h1
    by_cases h2 : b = q
    · subst h2
      by_cases h3 : c = r
      · subst h3
        by_cases h4 : d = s
        · subst h4; simp
        · have : (d == s) = false := by simpa using h4
          simp [this, Result.andThen]
          first | done | exact h4
      · have : (c == r) = false := by simpa using h3
        simp [this, Result.andThen]
        first | done | exact fun e => absurd e h3
    · have : (b == q) = false := by simpa using h2
      simp [this, Result.andThen]
      first | done | exact fun e => absurd e h2
  · have : (a == p) = false := by simpa using h1
    simp [this, Result.andThen]
    first | done | exact fun e => absurd e h1

def forB (a b c h l : Int) : Bool := decide (a = h - 1) && (decide (b = h) && decide (c = l))

end Go.Proofs.Ytdhnolafkgkliaa
