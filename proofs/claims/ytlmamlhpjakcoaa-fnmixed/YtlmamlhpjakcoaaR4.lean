/- Chapter 4: the round; blocks and keys as they are tested. -/
import Derived.Test.YtlmamlhpjakcoaaNum4
namespace Go.Proofs.Ytlmamlhpjakcoaa
set_option linter.unusedVariables false
set_option linter.unusedSimpArgs false
open Go.RowKit

theorem ret_int {a b : Int} (h : a = b) : Ending.returned (.int .i64 a) = .returned (.int .i64 b) := by rw [h]

theorem l1In_c (x lo hi : Int) (w : World) :
    Calls Try.prog 69 #[.int .i64 x, .int .i64 lo, .int .i64 hi] w fun e w' => e = .returned (.bool (decide (lo ≤ x ∧ x ≤ hi))) ∧ w' = w := by
  by_cases h1 : lo ≤ x
  · by_cases h2 : x ≤ hi
    · rw [decide_eq_true ⟨h1, h2⟩]
      go_enter Try.func69, Try.ntmps69
      go_wp2
      go_ret
      exact ⟨rfl, rfl⟩
    · rw [decide_eq_false (by omega)]
      go_enter Try.func69, Try.ntmps69
      go_wp2
      go_ret
      exact ⟨rfl, rfl⟩
  · rw [decide_eq_false (by omega)]
    go_enter Try.func69, Try.ntmps69
    go_wp2
    go_ret
    exact ⟨rfl, rfl⟩

/-- A block, or a key. -/
def blockB (x : Int) : Bool := decide (0 ≤ x ∧ x ≤ 65535)

theorem isBlock_c (x : Int) (w : World) :
    Calls Try.prog 53 #[.int .i64 x] w fun e w' => e = .returned (.bool (blockB x)) ∧ w' = w := by
  unfold blockB
  by_cases h1 : 0 ≤ x
  · by_cases h2 : x ≤ 65535
    · rw [decide_eq_true ⟨h1, h2⟩]
      go_enter Try.func53, Try.ntmps53
      go_wp2
      go_ret
      exact ⟨rfl, rfl⟩
    · rw [decide_eq_false (by omega)]
      go_enter Try.func53, Try.ntmps53
      go_wp2
      go_ret
      exact ⟨rfl, rfl⟩
  · rw [decide_eq_false (by omega)]
    go_enter Try.func53, Try.ntmps53
    go_wp2
    go_ret
    exact ⟨rfl, rfl⟩

theorem l4Key_c (x : Int) (w : World) :
    Calls Try.prog 57 #[.int .i64 x] w fun e w' => e = .returned (.bool (blockB x)) ∧ w' = w := by
  unfold blockB
  generalize hd : decide (0 ≤ x ∧ x ≤ 65535) = b
  go_enter Try.func57, Try.ntmps57
  go_wp2_with fail
  refine (l1In_c x 0 65535 _).mono ?_
  rw [hd]
  clear hd
  rintro e w' ⟨rfl, rfl⟩
  go_wp2
  go_ret
  exact ⟨rfl, rfl⟩

theorem rnd_bd {x y : Nat} (hx : x < 256) (hy : y < 256) : x * x + x * y + 29 < 200000 := by
  have h1 : x * x ≤ 255 * 255 := Nat.mul_le_mul (by omega) (by omega)
  have h2 : x * y ≤ 255 * 255 := Nat.mul_le_mul (by omega) (by omega)
  omega

theorem w64 {n : Int} (h : 0 ≤ n ∧ n < 9223372036854775808) : wrap64 n = n := by
  unfold wrap64; omega
theorem rnd_val {x y : Nat} (hx : x < 256) (hy : y < 256) : (wrap64 (wrap64 (wrap64 ((x : Int) * x) + wrap64 ((x : Int) * y)) + 29)).tmod 65521 = ((x * x + x * y + 29) % 65521 : Nat) := by
  have hb := rnd_bd hx hy
  have e1 : (x : Int) * x = ((x * x : Nat) : Int) := by simp
  have e2 : (x : Int) * y = ((x * y : Nat) : Int) := by simp
  rw [e1, e2]
  generalize x * x = p at *
  generalize x * y = q at *
  rw [w64 (n := (p : Int)) (by omega), w64 (n := (q : Int)) (by omega), w64 (n := (p : Int) + q) (by omega), w64 (n := (p : Int) + q + 29) (by omega), Int.tmod_eq_emod_of_nonneg (by omega)]
  omega

theorem turn_c (k h : Nat) (w : World) (hk : k < 65536) (hh : h < 256) :
    Calls Try.prog 68 #[.int .i64 k, .int .i64 h] w fun e w' => e = .returned (.int .i64 (rndN k h)) ∧ w' = w := by
  go_enter Try.func68, Try.ntmps68
  go_wp2
  go_ret
  refine ⟨ret_int ?_, rfl⟩
  have e0 : bits BinOp.and IntKind.i64 (wrap64 (↑h + bits BinOp.and IntKind.i64 (↑k) 255)) 255 = (((h + k % 256) % 256 : Nat) : Int) := by
    rw [i64_and255, i64_and255, w64 (by omega)]; omega
  have e1 : (k : Int) / 256 = ((k / 256 : Nat) : Int) := by omega
  rw [e0, e1, rnd_val (Nat.mod_lt _ (by omega)) (by omega), i64_and255]
  unfold rndN
  omega

theorem l4Round_c (k h : Nat) (w : World) (hk : k < 65536) (hh : h < 256) :
    Calls Try.prog 70 #[.int .i64 k, .int .i64 h] w fun e w' => e = .returned (.int .i64 (rndN k h)) ∧ w' = w := by
  go_enter Try.func70, Try.ntmps70
  go_wp2
  go_ret
  refine ⟨ret_int ?_, rfl⟩
  have e0 : ((h : Int) + k) % 256 = (((h + k % 256) % 256 : Nat) : Int) := by omega
  have e1 : (k : Int) / 256 = ((k / 256 : Nat) : Int) := by omega
  rw [e0, e1, rnd_val (Nat.mod_lt _ (by omega)) (by omega), Int.tmod_eq_emod_of_nonneg (by omega)]
  unfold rndN
  omega

/-- RoundOf, of both. -/
def roundF (x y : Int) : Int × Bool := if blockB x = true ∧ (0 ≤ y ∧ y ≤ 255) then ((rndN x.toNat y.toNat : Int), true) else (0, false)

theorem implRound_c (x y : Int) (w : World) (r : Int) (fb : Bool) (hF : roundF x y = (r, fb)) :
    Calls Try.prog 25 #[.int .i64 x, .int .i64 y] w fun e w' => e = .returned (.tuple #[.int .i64 r, .bool fb]) ∧ w' = w := by
  unfold roundF at hF
  have hb := isBlock_c x
  by_cases h1 : blockB x = true
  · rw [h1] at hb
    by_cases h2 : 0 ≤ y ∧ y ≤ 255
    · rw [if_pos ⟨h1, h2⟩] at hF
      simp only [Prod.mk.injEq] at hF
      obtain ⟨rfl, rfl⟩ := hF
      have hx : 0 ≤ x ∧ x ≤ 65535 := by simpa [blockB] using h1
      obtain ⟨k, rfl⟩ : ∃ k : Nat, x = k := ⟨x.toNat, by omega⟩
      obtain ⟨j, rfl⟩ : ∃ j : Nat, y = j := ⟨y.toNat, by omega⟩
      simp only [Int.toNat_natCast]
      have ht := fun wx => turn_c k j wx (by omega) (by omega)
      generalize rndN k j = z at ht
      have y0 : (0 : Int) ≤ j := by omega
      have y1 : (j : Int) ≤ 255 := by omega
      clear h1 h2 hx
      go_enter Try.func25, Try.ntmps25
      go_wp2_with (first | (go_at_call 53; refine (hb _).mono ?_; clear hb; rintro e w' ⟨rfl, rfl⟩) | (go_at_call 68; refine (ht _).mono ?_; clear ht; rintro e w' ⟨rfl, rfl⟩))
      refine bodyPost_ret (v := .tuple #[.int .i64 (z : Int), .bool true]) (by simp [results, Try.results25, go_sem]) rfl ?_
      exact ⟨rfl, rfl⟩
    · rw [if_neg (fun h => h2 h.2)] at hF
      simp only [Prod.mk.injEq] at hF
      obtain ⟨rfl, rfl⟩ := hF
      clear h1
      by_cases h3 : 0 ≤ y
      · have h4 : 255 < y := by omega
        clear h2
        go_enter Try.func25, Try.ntmps25
        go_wp2_with (go_at_call 53; refine (hb _).mono ?_; clear hb; rintro e w' ⟨rfl, rfl⟩)
        refine bodyPost_ret (v := .tuple #[.int .i64 0, .bool false]) (by simp [results, Try.results25, go_sem]) rfl ?_
        exact ⟨rfl, rfl⟩
      · have h4 : y < 0 := by omega
        clear h2 h3
        go_enter Try.func25, Try.ntmps25
        go_wp2_with (go_at_call 53; refine (hb _).mono ?_; clear hb; rintro e w' ⟨rfl, rfl⟩)
        refine bodyPost_ret (v := .tuple #[.int .i64 0, .bool false]) (by simp [results, Try.results25, go_sem]) rfl ?_
        exact ⟨rfl, rfl⟩
  · rw [if_neg (fun h => h1 h.1)] at hF
    simp only [Prod.mk.injEq] at hF
    obtain ⟨rfl, rfl⟩ := hF
    rw [Bool.eq_false_iff.2 h1] at hb
    clear h1
    go_enter Try.func25, Try.ntmps25
    go_wp2_with (go_at_call 53; refine (hb _).mono ?_; clear hb; rintro e w' ⟨rfl, rfl⟩)
    refine bodyPost_ret (v := .tuple #[.int .i64 0, .bool false]) (by simp [results, Try.results25, go_sem]) rfl ?_
    exact ⟨rfl, rfl⟩

theorem specRound_c (x y : Int) (w : World) (r : Int) (fb : Bool) (hF : roundF x y = (r, fb)) :
    Calls Try.prog 26 #[.int .i64 x, .int .i64 y] w fun e w' => e = .returned (.tuple #[.int .i64 r, .bool fb]) ∧ w' = w := by
  unfold roundF at hF
  have hb := l4Key_c x
  have hi := l1In_c y 0 255
  by_cases h1 : blockB x = true
  · rw [h1] at hb
    by_cases h2 : 0 ≤ y ∧ y ≤ 255
    · rw [if_pos ⟨h1, h2⟩] at hF
      simp only [Prod.mk.injEq] at hF
      obtain ⟨rfl, rfl⟩ := hF
      rw [decide_eq_true h2] at hi
      have hx : 0 ≤ x ∧ x ≤ 65535 := by simpa [blockB] using h1
      obtain ⟨k, rfl⟩ : ∃ k : Nat, x = k := ⟨x.toNat, by omega⟩
      obtain ⟨j, rfl⟩ : ∃ j : Nat, y = j := ⟨y.toNat, by omega⟩
      simp only [Int.toNat_natCast]
      have ht := fun wx => l4Round_c k j wx (by omega) (by omega)
      generalize rndN k j = z at ht
      clear h1 h2 hx
      go_enter Try.func26, Try.ntmps26
      go_wp2_with (first | (go_at_call 57; refine (hb _).mono ?_; clear hb; rintro e w' ⟨rfl, rfl⟩) | (go_at_call 69; refine (hi _).mono ?_; clear hi; rintro e w' ⟨rfl, rfl⟩) | (go_at_call 70; refine (ht _).mono ?_; clear ht; rintro e w' ⟨rfl, rfl⟩))
      refine bodyPost_ret (v := .tuple #[.int .i64 (z : Int), .bool true]) (by simp [results, Try.results26, go_sem]) rfl ?_
      exact ⟨rfl, rfl⟩
    · rw [if_neg (fun h => h2 h.2)] at hF
      simp only [Prod.mk.injEq] at hF
      obtain ⟨rfl, rfl⟩ := hF
      rw [decide_eq_false h2] at hi
      clear h1 h2
      go_enter Try.func26, Try.ntmps26
      go_wp2_with (first | (go_at_call 57; refine (hb _).mono ?_; clear hb; rintro e w' ⟨rfl, rfl⟩) | (go_at_call 69; refine (hi _).mono ?_; clear hi; rintro e w' ⟨rfl, rfl⟩))
      refine bodyPost_ret (v := .tuple #[.int .i64 0, .bool false]) (by simp [results, Try.results26, go_sem]) rfl ?_
      exact ⟨rfl, rfl⟩
  · rw [if_neg (fun h => h1 h.1)] at hF
    simp only [Prod.mk.injEq] at hF
    obtain ⟨rfl, rfl⟩ := hF
    rw [Bool.eq_false_iff.2 h1] at hb
    clear h1 hi
    go_enter Try.func26, Try.ntmps26
    go_wp2_with (go_at_call 57; refine (hb _).mono ?_; clear hb; rintro e w' ⟨rfl, rfl⟩)
    refine bodyPost_ret (v := .tuple #[.int .i64 0, .bool false]) (by simp [results, Try.results26, go_sem]) rfl ?_
    exact ⟨rfl, rfl⟩

end Go.Proofs.Ytlmamlhpjakcoaa
