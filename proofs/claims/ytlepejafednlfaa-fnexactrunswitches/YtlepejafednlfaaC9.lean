/- Chapter 9: how many switches there are: both sides. -/
import Derived.Test.YtlepejafednlfaaP9
namespace Go.Proofs.Ytlepejafednlfaa
set_option linter.unusedVariables false
set_option maxRecDepth 1000000
set_option linter.unusedSimpArgs false
open Go.RowKit

theorem switchesFor_c (m : Int) (hm : portsB m = true) (w : World) : Calls Try.prog 72 #[.int .i64 m] w fun e w' => e = .returned (.int .i64 (cntI m)) ∧ w' = w := by
  have h1 : ∀ m : Int, (m = 1 ∨ m = 2) → ∀ w : World, Calls Try.prog 72 #[.int .i64 m] w fun e w' => e = .returned (.int .i64 (m - 1)) ∧ w' = w := by
    rintro m (rfl | rfl) w <;> (go_enter Try.func72, Try.ntmps72; go_wp2; go_ret; exact ⟨rfl, rfl⟩)
  have h4 : ∀ w : World, Calls Try.prog 72 #[.int .i64 4] w fun e w' => e = .returned (.int .i64 6) ∧ w' = w := by
    intro w
    go_enter Try.func72, Try.ntmps72
    go_wp2_with fail
    refine (h1 2 (Or.inr rfl) _).mono ?_
    rintro e w' ⟨rfl, hw⟩
    subst w'
    go_wp2
    go_ret
    exact ⟨rfl, rfl⟩
  have hc : m = 1 ∨ m = 2 ∨ m = 4 ∨ m = 8 := by simpa [portsB] using hm
  rcases hc with rfl | rfl | rfl | rfl
  · exact h1 1 (Or.inl rfl) w
  · exact h1 2 (Or.inr rfl) w
  · exact h4 w
  · go_enter Try.func72, Try.ntmps72
    go_wp2_with fail
    refine (h4 _).mono ?_
    rintro e w' ⟨rfl, hw⟩
    subst w'
    go_wp2
    go_ret
    exact ⟨rfl, rfl⟩

theorem l9Count_c (m : Int) (hm : portsB m = true) (w : World) : Calls Try.prog 76 #[.int .i64 m] w fun e w' => e = .returned (.int .i64 (cntI m)) ∧ w' = w := by
  have h1 : ∀ m : Int, (m = 1 ∨ m = 2) → ∀ w : World, Calls Try.prog 76 #[.int .i64 m] w fun e w' => e = .returned (.int .i64 (m - 1)) ∧ w' = w := by
    rintro m (rfl | rfl) w <;> (go_enter Try.func76, Try.ntmps76; go_wp2; go_ret; exact ⟨rfl, rfl⟩)
  have h4 : ∀ w : World, Calls Try.prog 76 #[.int .i64 4] w fun e w' => e = .returned (.int .i64 6) ∧ w' = w := by
    intro w
    go_enter Try.func76, Try.ntmps76
    go_wp2_with fail
    refine (h1 2 (Or.inr rfl) _).mono ?_
    rintro e w' ⟨rfl, hw⟩
    subst w'
    go_wp2
    go_ret
    exact ⟨rfl, rfl⟩
  have hc : m = 1 ∨ m = 2 ∨ m = 4 ∨ m = 8 := by simpa [portsB] using hm
  rcases hc with rfl | rfl | rfl | rfl
  · exact h1 1 (Or.inl rfl) w
  · exact h1 2 (Or.inr rfl) w
  · exact h4 w
  · go_enter Try.func76, Try.ntmps76
    go_wp2_with fail
    refine (h4 _).mono ?_
    rintro e w' ⟨rfl, hw⟩
    subst w'
    go_wp2
    go_ret
    exact ⟨rfl, rfl⟩

theorem isPorts_c (m : Int) (w : World) : Calls Try.prog 63 #[.int .i64 m] w fun e w' => e = .returned (.bool (portsB m)) ∧ w' = w := by
  by_cases h1 : 1 ≤ m
  · by_cases h8 : m ≤ 8
    · have hc : m = 1 ∨ m = 2 ∨ m = 3 ∨ m = 4 ∨ m = 5 ∨ m = 6 ∨ m = 7 ∨ m = 8 := by omega
      clear h1 h8
      rcases hc with rfl | rfl | rfl | rfl | rfl | rfl | rfl | rfl <;> (go_enter Try.func63, Try.ntmps63; go_wp2; go_ret; exact ⟨rfl, rfl⟩)
    · have hp : portsB m = false := by rw [portsB, decide_eq_false]; omega
      rw [hp]
      have h9 : 8 < m := by omega
      clear hp h8
      go_enter Try.func63, Try.ntmps63
      go_wp2
      go_ret
      exact ⟨rfl, rfl⟩
  · have hp : portsB m = false := by rw [portsB, decide_eq_false]; omega
    rw [hp]
    have h9 : m < 1 := by omega
    clear hp h1
    go_enter Try.func63, Try.ntmps63
    go_wp2
    go_ret
    exact ⟨rfl, rfl⟩

theorem l9Ports_c (m : Int) (w : World) : Calls Try.prog 66 #[.int .i64 m] w fun e w' => e = .returned (.bool (portsB m)) ∧ w' = w := by
  by_cases hc : m = 1 ∨ m = 2 ∨ m = 4 ∨ m = 8
  · rcases hc with rfl | rfl | rfl | rfl <;> (go_enter Try.func66, Try.ntmps66; go_wp2; go_ret; exact ⟨rfl, rfl⟩)
  · have hp : portsB m = false := by rw [portsB, decide_eq_false hc]
    rw [hp]
    have k1 : (m == 1) = false := by rw [beq_eq_false_iff_ne]; omega
    have k2 : (m == 2) = false := by rw [beq_eq_false_iff_ne]; omega
    have k4 : (m == 4) = false := by rw [beq_eq_false_iff_ne]; omega
    have k8 : (m == 8) = false := by rw [beq_eq_false_iff_ne]; omega
    clear hp hc
    go_enter Try.func66, Try.ntmps66
    go_wp2
    go_ret
    exact ⟨rfl, rfl⟩

theorem implCount_c (m : Int) (w : World) (r : Int) (fb : Bool) (hF : countF m = (r, fb)) : Calls Try.prog 21 #[.int .i64 m] w fun e w' => e = .returned (.tuple #[.int .i64 r, .bool fb]) ∧ w' = w := by
  have hp := isPorts_c m w
  unfold countF at hF
  by_cases h : portsB m = true
  · have hs := switchesFor_c m h
    rw [if_pos h] at hF
    simp only [Prod.mk.injEq] at hF
    obtain ⟨rfl, rfl⟩ := hF
    rw [h] at hp
    clear h
    go_enter Try.func21, Try.ntmps21
    go_wp2_with fail
    refine hp.mono ?_
    rintro e w' ⟨rfl, hw⟩
    subst w'
    go_wp2_with fail
    refine (hs _).mono ?_
    rintro e w' ⟨rfl, hw⟩
    subst w'
    go_wp2
    refine bodyPost_ret (v := .tuple #[.int .i64 (cntI m), .bool true]) (by simp [results, Try.results21, go_sem]; try rfl) rfl ?_
    exact ⟨rfl, rfl⟩
  · rw [if_neg h] at hF
    simp only [Prod.mk.injEq] at hF
    obtain ⟨rfl, rfl⟩ := hF
    rw [Bool.eq_false_iff.2 h] at hp
    clear h
    go_enter Try.func21, Try.ntmps21
    go_wp2_with fail
    refine hp.mono ?_
    rintro e w' ⟨rfl, hw⟩
    subst w'
    go_wp2
    refine bodyPost_ret (v := .tuple #[.int .i64 0, .bool false]) (by simp [results, Try.results21, go_sem]; try rfl) rfl ?_
    exact ⟨rfl, rfl⟩

theorem specCount_c (m : Int) (w : World) (r : Int) (fb : Bool) (hF : countF m = (r, fb)) : Calls Try.prog 26 #[.int .i64 m] w fun e w' => e = .returned (.tuple #[.int .i64 r, .bool fb]) ∧ w' = w := by
  have hp := l9Ports_c m w
  unfold countF at hF
  by_cases h : portsB m = true
  · have hs := l9Count_c m h
    rw [if_pos h] at hF
    simp only [Prod.mk.injEq] at hF
    obtain ⟨rfl, rfl⟩ := hF
    rw [h] at hp
    clear h
    go_enter Try.func26, Try.ntmps26
    go_wp2_with fail
    refine hp.mono ?_
    rintro e w' ⟨rfl, hw⟩
    subst w'
    go_wp2_with fail
    refine (hs _).mono ?_
    rintro e w' ⟨rfl, hw⟩
    subst w'
    go_wp2
    refine bodyPost_ret (v := .tuple #[.int .i64 (cntI m), .bool true]) (by simp [results, Try.results26, go_sem]; try rfl) rfl ?_
    exact ⟨rfl, rfl⟩
  · rw [if_neg h] at hF
    simp only [Prod.mk.injEq] at hF
    obtain ⟨rfl, rfl⟩ := hF
    rw [Bool.eq_false_iff.2 h] at hp
    clear h
    go_enter Try.func26, Try.ntmps26
    go_wp2_with fail
    refine hp.mono ?_
    rintro e w' ⟨rfl, hw⟩
    subst w'
    go_wp2
    refine bodyPost_ret (v := .tuple #[.int .i64 0, .bool false]) (by simp [results, Try.results26, go_sem]; try rfl) rfl ?_
    exact ⟨rfl, rfl⟩

end Go.Proofs.Ytlepejafednlfaa
