/- Plain facts on the digits of a number: they come back from OfDigits. -/
import Derived.Test.YtcklmgifboceaaaDoorDec
namespace Go.Proofs.YtcklmgifboceaaaDoor
set_option linter.unusedVariables false
set_option maxRecDepth 1000000
set_option linter.unusedSimpArgs false
open Go.RowKit

/-- The digits of a number, none for nought. -/
def dlN (n : Nat) : List Int := if h : n = 0 then [] else dlN (n / 10) ++ [48 + ((n % 10 : Nat) : Int)]
termination_by n
decreasing_by exact Nat.div_lt_self (by omega) (by omega)

theorem dlN_zero : dlN 0 = [] := by rw [dlN]; simp
theorem dlN_pos {n : Nat} (h : 0 < n) : dlN n = dlN (n / 10) ++ [48 + ((n % 10 : Nat) : Int)] := by
  rw [dlN, dif_neg (by omega)]

/-- The digits of a number, "0" for nought. -/
def decN (n : Nat) : List Int := dlN (n / 10) ++ [48 + ((n % 10 : Nat) : Int)]

theorem decN_pos {n : Nat} (h : 0 < n) : decN n = dlN n := (dlN_pos h).symm
theorem decN_zero : decN 0 = [48] := by rw [decN, show 0 / 10 = 0 from rfl, dlN_zero]; rfl

theorem dlN_val (n : Nat) : decV (dlN n) = n := by
  induction n using Nat.strongRecOn with
  | _ n ih =>
    by_cases h : n = 0
    · subst h; rw [dlN_zero]; rfl
    · rw [dlN_pos (by omega), decV_snoc, ih (n / 10) (by omega)]
      omega

theorem dlN_dig (n : Nat) : DigAll (dlN n) := by
  induction n using Nat.strongRecOn with
  | _ n ih =>
    by_cases h : n = 0
    · subst h; rw [dlN_zero]; intro c hc; simp at hc
    · rw [dlN_pos (by omega)]
      intro c hc
      rcases List.mem_append.1 hc with hc | hc
      · exact ih (n / 10) (by omega) c hc
      · simp only [List.mem_singleton] at hc; omega

theorem dlN_len : ∀ (k n : Nat), n < 10 ^ k → (dlN n).length ≤ k
  | 0, n, h => by
    have : n = 0 := by simpa using h
    subst this; rw [dlN_zero]; simp
  | k + 1, n, h => by
    by_cases h0 : n = 0
    · subst h0; rw [dlN_zero]; simp
    · rw [dlN_pos (by omega), List.length_append]
      have := dlN_len k (n / 10) (by rw [Nat.pow_succ] at h; omega)
      simp; omega

theorem dlN_head (n : Nat) : 0 < n → ∃ c l, dlN n = c :: l ∧ c ≠ 48 := by
  induction n using Nat.strongRecOn with
  | _ n ih =>
    intro h
    rw [dlN_pos h]
    by_cases h1 : n / 10 = 0
    · rw [h1, dlN_zero]
      exact ⟨48 + ((n % 10 : Nat) : Int), [], rfl, by omega⟩
    · obtain ⟨c, l, e, hc⟩ := ih (n / 10) (by omega) (by omega)
      rw [e]
      exact ⟨c, l ++ [48 + ((n % 10 : Nat) : Int)], rfl, hc⟩

/-- Digits come back. -/
theorem digF_decN {n : Nat} (h : (n : Int) < 79228162514264337593543950336) : digF (decN n) = (bigL n, true) := by
  by_cases h0 : n = 0
  · subst h0
    rw [decN_zero, digF]
    have e : digOk [48] = true := by decide
    rw [e]
    simp only [List.length_singleton]
    rw [if_neg (by omega), if_pos trivial, show decV [48] = ((0 : Nat) : Int) from rfl, tellF_good (by omega)]
  · rw [decN_pos (by omega)]
    have hl := dlN_len 30 n (by omega)
    obtain ⟨c, l, e, hc⟩ := dlN_head n (by omega)
    have hd : digOk (dlN n) = true := (digOk_iff _).2 (dlN_dig n)
    have hv := dlN_val n
    rw [digF, hd, hv]
    rw [if_neg, if_pos rfl, tellF_good h]
    rw [e] at hl ⊢
    simp at hl ⊢
    omega

end Go.Proofs.YtcklmgifboceaaaDoor
