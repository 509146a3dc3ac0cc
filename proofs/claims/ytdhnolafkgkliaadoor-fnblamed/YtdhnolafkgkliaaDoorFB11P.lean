/- Chapter 11: plain facts of FnBlamed: of what RunTrip made the letter is laid to just the hand that lost it. -/
import Derived.Test.YtdhnolafkgkliaaDoorPF11
namespace Go.Proofs.YtdhnolafkgkliaaDoor
set_option linter.unusedVariables false
set_option maxRecDepth 1000000
set_option linter.unusedSimpArgs false

theorem rootL_getD {xs : List Int} {k : Nat} (h : k < xs.length) : (rootL xs).getD k 0 = pw 4 (xs.getD k 0).toNat := by
  simp [rootL, List.getD, h]

theorem rootL_pubs {xs : List Int} (h : secsH xs = true) : pubsB (rootL xs) = true := by
  have hl := secsH_len h
  unfold pubsB
  rw [Bool.and_eq_true]
  refine ⟨by simp [rootL]; omega, ?_⟩
  rw [List.all_eq_true]
  intro x hx
  unfold rootL at hx
  obtain ⟨s, _, rfl⟩ := List.mem_map.1 hx
  exact mem_pw4 _

theorem recsL_mem {xs : List Int} {l : Int} {m : Nat} {r : Rc} (h : r ∈ recsL xs l m) : ∃ j : Nat, j < m ∧ r = signR (xs.getD j 0) ((j : Int) - 1) l := by
  unfold recsL at h
  obtain ⟨j, hj, rfl⟩ := List.mem_map.1 h
  exact ⟨j, by simpa using hj, rfl⟩

/-- A hand that had the letter has a receipt, and no other one. -/
theorem has_recs {xs : List Int} {l : Int} {A h : Nat} (hl : 0 ≤ l ∧ l ≤ 1000) (hx : ∀ j, j < xs.length → 1 ≤ xs.getD j 0 ∧ xs.getD j 0 ≤ 1498) (hn : xs.length ≤ 6) (hA : A ≤ xs.length) (hh : h < xs.length) : hasR ((rootL xs).getD h 0) (h : Int) l (recsL xs l A) = decide (h < A) := by
  rw [rootL_getD hh]
  by_cases hlt : h < A
  · rw [decide_eq_true hlt]
    unfold hasR
    rw [List.any_eq_true]
    refine ⟨signR (xs.getD h 0) ((h : Int) - 1) l, ?_, ?_⟩
    · unfold recsL
      exact List.mem_map.2 ⟨h, by simpa using hlt, rfl⟩
    · have h1 := hx h hh
      unfold saysR
      rw [sign_rec (by omega) (by unfold letB; simp; omega), sign_chk (by omega)]
      simp [signR]
  · rw [decide_eq_false hlt]
    unfold hasR
    rw [List.any_eq_false]
    intro r hr
    obtain ⟨j, hj, rfl⟩ := recsL_mem hr
    unfold saysR signR
    have : ¬ ((j : Int) - 1 = (h : Int) - 1) := by omega
    simp [this]

theorem first_recs {xs : List Int} {l : Int} {A : Nat} (hl : 0 ≤ l ∧ l ≤ 1000) (hx : ∀ j, j < xs.length → 1 ≤ xs.getD j 0 ∧ xs.getD j 0 ≤ 1498) (hn : xs.length ≤ 6) (hA : A ≤ xs.length) : firstN (rootL xs) l (recsL xs l A) = A := by
  have hrl : (rootL xs).length = xs.length := by simp [rootL]
  by_cases h : A = xs.length
  · rw [firstN_all (fun j hj => by rw [hrl] at hj; rw [has_recs hl hx hn hA hj]; simp; omega), hrl, h]
  · exact firstN_no (by omega) (fun j hj => by rw [has_recs hl hx hn hA (by omega)]; simpa using hj) (by rw [has_recs hl hx hn hA (by omega)]; simp)

theorem trace_recs {xs : List Int} {l : Int} {A : Nat} (hs : secsH xs = true) (hl : 0 ≤ l ∧ l ≤ 1000) (hA : A ≤ xs.length) : traceB (rootL xs) l (recsL xs l A) = true := by
  have := secsH_len hs
  unfold traceB
  rw [rootL_pubs hs, recsL_length]
  simp [letB]
  omega

theorem gave_recs {xs : List Int} {l : Int} {A h : Nat} (hh : h + 1 < A) : gaveL (h : Int) (recsL xs l A) = [signR (xs.getD (h + 1) 0) (h : Int) l] := by
  induction A with
  | zero => omega
  | succ A ih =>
    rw [recsL_succ]
    unfold gaveL at ih ⊢
    rw [List.filter_append]
    by_cases e : h + 1 = A
    · subst e
      have hnone : (recsL xs l (h + 1)).filter (fun r => decide (r.1 = (h : Int))) = [] := by
        rw [List.filter_eq_nil_iff]
        intro r hr
        obtain ⟨j, hj, rfl⟩ := recsL_mem hr
        have : ¬ ((j : Int) - 1 = (h : Int)) := by omega
        simp [signR, this]
      rw [hnone]
      simp [signR]
    · rw [ih (by omega)]
      have : ¬ ((A : Int) - 1 = (h : Int)) := by omega
      simp [signR, this]

/-- The receipt that proves that a hand gave the letter on is right with the next hand's public part. -/
theorem gave_right {xs : List Int} {l : Int} {h : Nat} (hl : 0 ≤ l ∧ l ≤ 1000) (hx : 1 ≤ xs.getD (h + 1) 0 ∧ xs.getD (h + 1) 0 ≤ 1498) (hh : h ≤ 4) : rightB (pw 4 (xs.getD (h + 1) 0).toNat) (signR (xs.getD (h + 1) 0) (h : Int) l) = true ∧ checkB (pw 4 (xs.getD (h + 1) 0).toNat) (signR (xs.getD (h + 1) 0) (h : Int) l) = true := by
  have hc : checkB (pw 4 (xs.getD (h + 1) 0).toNat) (signR (xs.getD (h + 1) 0) (h : Int) l) = true := by
    unfold checkB
    rw [mem_pw4, sign_rec (by omega) (by unfold letB; simp; omega)]; rfl
  refine ⟨?_, hc⟩
  unfold rightB
  rw [hc, sign_chk (by omega)]; rfl

end Go.Proofs.YtdhnolafkgkliaaDoor
