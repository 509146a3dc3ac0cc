/- Chapter 5: the small numbers' arithmetic, the program's and the specification's, told over the field. -/
import Derived.Test.YtamppekadobagaaB3
import Derived.Test.YtamppekadobagaaL5
namespace Go.Proofs.Ytamppekadobagaa
set_option linter.unusedVariables false
set_option linter.unusedSimpArgs false
open Go.RowKit

theorem ret_int {a b : Int} (h : a = b) : Ending.returned (.int .i64 a) = .returned (.int .i64 b) := by rw [h]

/-- A number of the field as an int. -/
def vI (a : F) : Int := (a.val : Int)
theorem vI_lo (a : F) : 0 ≤ vI a := Int.natCast_nonneg _
theorem vI_hi (a : F) : vI a < 1499 := by have := a.isLt; unfold vI; omega
theorem vI_inj {a b : F} (h : vI a = vI b) : a = b := Fin.ext (by unfold vI at h; omega)
theorem vI_one : vI 1 = 1 := rfl
theorem vI_zero : vI 0 = 0 := rfl
theorem vI_mul (a b : F) : vI a * vI b % 1499 = vI (a * b) := by
  unfold vI; rw [Fin.val_mul]; omega
theorem vI_add (a b : F) : (vI a + vI b) % 1499 = vI (a + b) := by
  unfold vI; rw [Fin.val_add]; omega
theorem vI_sub (a b : F) : (vI a + 1499 - vI b) % 1499 = vI (a - b) := by
  have h1 := a.isLt
  have h2 := b.isLt
  unfold vI; rw [Fin.sub_def]; simp only []; omega
theorem vI_sub' (a b : F) : (vI a - vI b) % 1499 = vI (a - b) := by
  rw [← vI_sub]; omega
/-- The number of the field that an int is. -/
def toF (n : Int) : F := ⟨(n % 1499).toNat, by omega⟩
theorem vI_toF (n : Int) : vI (toF n) = n % 1499 := by unfold vI toF; simp only []; omega
theorem vI_toF' {n : Int} (h0 : 0 ≤ n) (h1 : n < 1499) : vI (toF n) = n := by rw [vI_toF]; omega
theorem toF_vI (a : F) : toF (vI a) = a := vI_inj (by rw [vI_toF]; have := vI_lo a; have := vI_hi a; omega)
theorem vI_mem (a : F) : 0 ≤ vI a ∧ vI a < 1499 := ⟨vI_lo a, vI_hi a⟩
theorem pr_lt {x y : Int} (hx : 0 ≤ x ∧ x < 1499) (hy : 0 ≤ y ∧ y < 1499) : 0 ≤ x * y ∧ x * y ≤ 2244004 := by
  obtain ⟨x0, x1⟩ := hx
  obtain ⟨y0, y1⟩ := hy
  refine ⟨Int.mul_nonneg x0 y0, ?_⟩
  have := Int.mul_le_mul (show x ≤ 1498 by omega) (show y ≤ 1498 by omega) y0 (by omega)
  omega

def smallB (n : Int) : Bool := decide (0 ≤ n ∧ n ≤ 1498)

theorem l1In_c (x lo hi : Int) (w : World) :
    Calls Try.prog 55 #[.int .i64 x, .int .i64 lo, .int .i64 hi] w fun e w' => e = .returned (.bool (decide (lo ≤ x ∧ x ≤ hi))) ∧ w' = w := by
  by_cases h1 : lo ≤ x
  · by_cases h2 : x ≤ hi
    · rw [decide_eq_true ⟨h1, h2⟩]
      go_enter Try.func55, Try.ntmps55
      go_wp2
      go_ret
      exact ⟨rfl, rfl⟩
    · rw [decide_eq_false (by omega)]
      go_enter Try.func55, Try.ntmps55
      go_wp2
      go_ret
      exact ⟨rfl, rfl⟩
  · rw [decide_eq_false (by omega)]
    go_enter Try.func55, Try.ntmps55
    go_wp2
    go_ret
    exact ⟨rfl, rfl⟩

theorem l5Field_c (x : Int) (w : World) :
    Calls Try.prog 69 #[.int .i64 x] w fun e w' => e = .returned (.bool (smallB x)) ∧ w' = w := by
  have h := l1In_c x 0 1498
  unfold smallB
  generalize decide (0 ≤ x ∧ x ≤ 1498) = b at h
  go_enter Try.func69, Try.ntmps69
  go_wp2_with fail
  refine (h _).mono ?_
  clear h
  rintro e w' ⟨rfl, hw⟩
  subst w'
  go_wp2
  go_ret
  exact ⟨rfl, rfl⟩

theorem isSmall_c (x : Int) (w : World) : Calls Try.prog 62 #[.int .i64 x] w fun e w' => e = .returned (.bool (smallB x)) ∧ w' = w := by
  unfold smallB
  by_cases h1 : 0 ≤ x
  · by_cases h2 : x < 1499
    · rw [decide_eq_true ⟨h1, by omega⟩]
      go_enter Try.func62, Try.ntmps62
      go_wp2
      go_ret
      exact ⟨ret_bool (by simp), rfl⟩
    · rw [decide_eq_false (by omega)]
      go_enter Try.func62, Try.ntmps62
      go_wp2
      go_ret
      exact ⟨ret_bool (by simp), rfl⟩
  · rw [decide_eq_false (by omega)]
    go_enter Try.func62, Try.ntmps62
    go_wp2
    go_ret
    exact ⟨ret_bool (by simp), rfl⟩

theorem timesSmall_c (a b : F) (w : World) : Calls Try.prog 86 #[.int .i64 (vI a), .int .i64 (vI b)] w fun e w' => e = .returned (.int .i64 (vI (a * b))) ∧ w' = w := by
  have hm := vI_mul a b
  have h := pr_lt (vI_mem a) (vI_mem b)
  generalize vI (a * b) = p at *
  generalize vI a = x at *
  generalize vI b = y at *
  have HM : Hid (x * y % 1499 = p) := hm
  clear hm
  go_enter Try.func86, Try.ntmps86
  go_wp2
  go_ret
  exact ⟨ret_int HM.out, rfl⟩

theorem lessBy_c (a b : F) (w : World) : Calls Try.prog 61 #[.int .i64 (vI a), .int .i64 (vI b)] w fun e w' => e = .returned (.int .i64 (vI (a - b))) ∧ w' = w := by
  have hm := vI_sub a b
  have ha := vI_mem a
  have hb := vI_mem b
  generalize vI (a - b) = p at *
  generalize vI a = x at *
  generalize vI b = y at *
  have HM : Hid ((x + 1499 - y) % 1499 = p) := hm
  clear hm
  go_enter Try.func61, Try.ntmps61
  go_wp2
  go_ret
  exact ⟨ret_int HM.out, rfl⟩

theorem l5Mod_c (n : Int) (w : World) (h0 : -1000000000000 ≤ n) (h1 : n ≤ 1000000000000) : Calls Try.prog 75 #[.int .i64 n] w fun e w' => e = .returned (.int .i64 (vI (toF n))) ∧ w' = w := by
  rw [vI_toF]
  by_cases hn : 0 ≤ n
  · have HE : Hid ((n % 1499 + 1499) % 1499 = n % 1499) := by show _ = _; omega
    have b0 : 0 ≤ n % 1499 := by omega
    have b1 : n % 1499 < 1499 := by omega
    go_enter Try.func75, Try.ntmps75
    go_wp2
    go_ret
    exact ⟨ret_int (by have := HE.out; omega), rfl⟩
  · have HE : Hid ((n.tmod 1499 + 1499) % 1499 = n % 1499) := by
      show _ = _
      have h2 := Int.tmod_add_mul_tdiv n 1499
      omega
    have b0 : -1499 < n.tmod 1499 := by
      have h := Int.neg_tmod (a := n) (b := 1499)
      have h3 := Int.tmod_lt_of_pos (-n) (show (0 : Int) < 1499 by decide)
      omega
    have b1 : n.tmod 1499 < 1499 := Int.tmod_lt_of_pos n (by decide)
    go_enter Try.func75, Try.ntmps75
    go_wp2
    go_ret
    exact ⟨ret_int (by have := HE.out; omega), rfl⟩

/-- A product and a power, halved. -/
theorem pw_odd {a b : F} {k : Nat} (h : k % 2 = 1) : a * b * pwF (b * b) (k / 2) = a * pwF b k := by
  rw [pwF_dbl]
  have : k = 2 * (k / 2) + 1 := by omega
  generalize k / 2 = m at *
  subst this
  rw [pwF]; grind -lia
theorem pw_even {a b : F} {k : Nat} (h : k % 2 = 0) : a * pwF (b * b) (k / 2) = a * pwF b k := by
  rw [pwF_dbl, show 2 * (k / 2) = k by omega]

set_option maxHeartbeats 1000000 in
theorem dividedBy_c (a b : F) (w : World) : Calls Try.prog 60 #[.int .i64 (vI a), .int .i64 (vI b)] w fun e w' => e = .returned (.int .i64 (vI (a * finv b))) ∧ w' = w := by
  obtain ⟨R, hR⟩ : ∃ R, R = a * finv b := ⟨_, rfl⟩
  rw [← hR]
  have HR : Hid (a * pwF b 1497 = R) := by show _ = _; rw [hR, finv]
  clear hR
  go_enter Try.func60, Try.ntmps60
  go_wp2
  go_loop [0, 1, 5] (fun x y i => ∃ (A B : F) (k : Nat), x = .int .i64 (vI A) ∧ y = .int .i64 (vI B) ∧ i = .int .i64 k ∧ k ≤ 1497 ∧ Hid (A * pwF B k = R)) (fun _ _ i => (intOf i).toNat)
  case atStart => exact ⟨a, b, 1497, rfl, rfl, rfl, Nat.le_refl _, HR⟩
  case round =>
    clear HR
    obtain ⟨A, B, k, rfl, rfl, rfl, hk, hR⟩ := hrel
    have hs := timesSmall_c B B
    by_cases hz : k = 0
    · subst hz
      have HE : Hid (A = R) := by show _ = _; rw [← hR.out, pwF]; grind -lia
      clear hR hs
      go_wp2
      go_ret
      exact ⟨ret_int (congrArg vI HE.out), rfl⟩
    · have hk0 : (0 : Int) < k := by omega
      by_cases ho : k % 2 = 1
      · have ho' : ((k : Int) % 2 == 1) = true := by rw [beq_iff_eq]; omega
        have ht := timesSmall_c A B
        have HN : Hid (A * B * pwF (B * B) (k / 2) = R) := (pw_odd ho).trans hR.out
        clear hR ho
        generalize A * B = AB at *
        generalize B * B = BB at *
        go_wp2_with fail
        refine (ht _).mono ?_
        clear ht
        rintro e w' ⟨rfl, hw⟩
        subst w'
        go_wp2_with fail
        refine (hs _).mono ?_
        clear hs
        rintro e w' ⟨rfl, hw⟩
        subst w'
        go_wp2
        go_round
        case rel => exact ⟨AB, BB, k / 2, rfl, rfl, by go_num, by omega, HN⟩
        case measure => simp [intOf]; omega
      · have ho' : ((k : Int) % 2 == 1) = false := by rw [beq_eq_false_iff_ne]; omega
        have HN : Hid (A * pwF (B * B) (k / 2) = R) := (pw_even (by omega)).trans hR.out
        clear hR ho
        generalize B * B = BB at *
        go_wp2_with fail
        refine (hs _).mono ?_
        clear hs
        rintro e w' ⟨rfl, hw⟩
        subst w'
        go_wp2
        go_round
        case rel => exact ⟨A, BB, k / 2, rfl, rfl, by go_num, by omega, HN⟩
        case measure => simp [intOf]; omega

set_option maxHeartbeats 1000000 in
theorem l5Inverse_c (b : F) (w : World) : Calls Try.prog 76 #[.int .i64 (vI b)] w fun e w' => e = .returned (.int .i64 (vI (finv b))) ∧ w' = w := by
  obtain ⟨R, hR⟩ : ∃ R, R = finv b := ⟨_, rfl⟩
  rw [← hR]
  have HR : Hid (1 * pwF b 1497 = R) := by show _ = _; rw [hR, finv]; grind -lia
  clear hR
  go_enter Try.func76, Try.ntmps76
  go_wp2
  go_loop [0, 3, 4] (fun y x i => ∃ (A B : F) (k : Nat), x = .int .i64 (vI A) ∧ y = .int .i64 (vI B) ∧ i = .int .i64 k ∧ k ≤ 1497 ∧ Hid (A * pwF B k = R)) (fun _ _ i => (intOf i).toNat)
  case atStart => exact ⟨1, b, 1497, rfl, rfl, rfl, Nat.le_refl _, HR⟩
  case round =>
    clear HR
    obtain ⟨A, B, k, rfl, rfl, rfl, hk, hR⟩ := hrel
    by_cases hz : k = 0
    · subst hz
      have HE : Hid (A = R) := by show _ = _; rw [← hR.out, pwF]; grind -lia
      clear hR
      go_wp2
      go_ret
      exact ⟨ret_int (congrArg vI HE.out), rfl⟩
    · have hk0 : (0 : Int) < k := by omega
      have hBB := vI_mul B B
      have pBB := pr_lt (vI_mem B) (vI_mem B)
      have hAB := vI_mul A B
      have pAB := pr_lt (vI_mem A) (vI_mem B)
      by_cases ho : k % 2 = 1
      · have ho' : ((k : Int) % 2 == 1) = true := by rw [beq_iff_eq]; omega
        have HN : Hid (∃ A' B' : F, vI A * vI B % 1499 = vI A' ∧ vI B * vI B % 1499 = vI B' ∧ A' * pwF B' (k / 2) = R) := ⟨A * B, B * B, hAB, hBB, (pw_odd ho).trans hR.out⟩
        clear hR ho hBB hAB
        generalize vI A = x at *
        generalize vI B = y at *
        go_wp2
        go_round
        case rel =>
          obtain ⟨A', B', e1, e2, e3⟩ := HN.out
          exact ⟨A', B', k / 2, by rw [← e1], by rw [← e2], by go_num, by omega, e3⟩
        case measure => simp [intOf]; omega
      · have ho' : ((k : Int) % 2 == 1) = false := by rw [beq_eq_false_iff_ne]; omega
        have HN : Hid (∃ B' : F, vI B * vI B % 1499 = vI B' ∧ A * pwF B' (k / 2) = R) := ⟨B * B, hBB, (pw_even (by omega)).trans hR.out⟩
        clear hR ho hBB hAB
        generalize vI B = y at *
        go_wp2
        go_round
        case rel =>
          obtain ⟨B', e2, e3⟩ := HN.out
          exact ⟨A, B', k / 2, rfl, by rw [← e2], by go_num, by omega, e3⟩
        case measure => simp [intOf]; omega

end Go.Proofs.Ytamppekadobagaa
