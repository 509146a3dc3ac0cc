/- Chapter 5: polynomials, how both sides test them, and the specification's value. -/
import Derived.Test.YtamppekadobagaaBP3
namespace Go.Proofs.Ytamppekadobagaa
set_option linter.unusedVariables false
set_option linter.unusedSimpArgs false
open Go.RowKit

def inB (lo hi x : Int) : Bool := decide (lo ≤ x ∧ x ≤ hi)
def allIn (lo hi : Int) (xs : List Int) : Bool := xs.all (inB lo hi)
theorem drop_getD {xs : List Int} {n k : Nat} (hx : xs.length = n) (h : k < n) : xs.drop k = xs.getD k 0 :: xs.drop (k + 1) := by
  rw [List.drop_eq_getElem_cons (by omega)]
  simp [List.getD, show k < xs.length by omega]
theorem allIn_step {lo hi : Int} {xs : List Int} {n k : Nat} {x : Int} {G : Bool} (hx : xs.length = n) (h : k < n) (e : xs.getD k 0 = x) (hg : G = allIn lo hi (xs.drop k)) : G = (inB lo hi x && allIn lo hi (xs.drop (k + 1))) := by
  rw [hg, drop_getD hx h, e]; rfl
theorem allIn_end {lo hi : Int} {xs : List Int} {n k : Nat} {G : Bool} (hx : xs.length = n) (h : ¬ k < n) (hg : G = allIn lo hi (xs.drop k)) : G = true := by
  rw [hg, List.drop_of_length_le (by omega)]; rfl
set_option maxHeartbeats 400000 in
theorem l1All_at (b o n c : Nat) (lo hi : Int) (xs : List Int) (w : World) (hx : xs.length = n) (hn : n ≤ 17592186044416)
    (hc : ∀ j, j < n → w.cell? ⟨b, o + j, none⟩ = some (.int .i64 (xs.getD j 0))) :
    Calls Try.prog 84 #[.slice (some ⟨b, o, none⟩) n c, .int .i64 lo, .int .i64 hi] w fun e w' => e = .returned (.bool (allIn lo hi xs)) ∧ w' = w := by
  have HX : Hid (xs.length = n) := hx
  have HC : Hid (∀ j, j < n → w.cell? ⟨b, o + j, none⟩ = some (.int .i64 (xs.getD j 0))) := hc
  obtain ⟨G, hG⟩ : ∃ G, G = allIn lo hi xs := ⟨_, rfl⟩
  rw [← hG]
  have HG : Hid (G = allIn lo hi (xs.drop 0)) := by show G = _; simpa using hG
  clear hx hc hG
  go_enter Try.func84, Try.ntmps84
  go_wp2
  go_loop [11] (fun i => ∃ (k : Nat), k ≤ n ∧ i = .int .i64 k ∧ Hid (G = allIn lo hi (xs.drop k))) (fun i => n - (intOf i).toNat)
  case atStart => exact ⟨0, Nat.zero_le _, rfl, HG⟩
  case round =>
    clear HG
    obtain ⟨k, hk, rfl, hG⟩ := hrel
    by_cases hlt : k < n
    · have g1 := HC.out k hlt
      generalize hy : xs.getD k 0 = x at g1
      have HS : Hid (G = (inB lo hi x && allIn lo hi (xs.drop (k + 1)))) := allIn_step HX.out hlt hy hG.out
      clear hy hG
      have hi' := l1In_c x lo hi
      by_cases hin : lo ≤ x ∧ x ≤ hi
      · rw [decide_eq_true hin] at hi'
        have HN : Hid (G = allIn lo hi (xs.drop (k + 1))) := by
          show G = _
          have := HS.out
          rw [inB, decide_eq_true hin] at this
          simpa using this
        clear hin
        go_wp2_with (go_at_call 55; refine (hi' _).mono ?_; clear hi'; rintro e w' ⟨rfl, rfl⟩)
        go_round
        case rel => exact ⟨k + 1, by omega, by go_num, HN⟩
        case measure => simp [intOf]; omega
      · rw [decide_eq_false hin] at hi'
        have hG : G = false := by rw [HS.out, inB, decide_eq_false hin]; rfl
        subst hG
        clear hin
        go_wp2_with (go_at_call 55; refine (hi' _).mono ?_; clear hi'; rintro e w' ⟨rfl, rfl⟩)
        go_ret
        exact ⟨rfl, rfl⟩
    · have hG' : G = true := allIn_end HX.out hlt hG.out
      clear hG
      subst hG'
      go_wp2
      go_ret
      exact ⟨rfl, rfl⟩

theorem l1All_nil (ao : Option Addr) (c : Nat) (lo hi : Int) (w : World) :
    Calls Try.prog 84 #[.slice ao 0 c, .int .i64 lo, .int .i64 hi] w fun e w' => e = .returned (.bool true) ∧ w' = w := by
  go_enter Try.func84, Try.ntmps84
  go_wp2
  refine wp_loop_rounds 1 ?_
  rw [rounds_succ]
  go_wp2
  go_ret
  exact ⟨rfl, rfl⟩

theorem l1All_c (ao : Option Addr) (n c : Nat) (lo hi : Int) (xs : List Int) (w : World) (hx : xs.length = n) (hn : n ≤ 17592186044416) (hr : Rd w ao xs) :
    Calls Try.prog 84 #[.slice ao n c, .int .i64 lo, .int .i64 hi] w fun e w' => e = .returned (.bool (allIn lo hi xs)) ∧ w' = w := by
  rcases hr with rfl | ⟨b, o, rfl, hc⟩
  · simp at hx; subst hx; exact l1All_nil _ _ _ _ _
  · exact l1All_at b o n c lo hi xs w hx hn (by rw [← hx]; exact hc)


/-- A polynomial as it is tested. -/
def polyB (xs : List Int) : Bool := decide (1 ≤ xs.length ∧ xs.length ≤ 8) && allIn 0 1498 xs
def vIs (ps : List F) : List Int := ps.map vI
theorem vIs_length (ps : List F) : (vIs ps).length = ps.length := by simp [vIs]
theorem vIs_getD (ps : List F) (j : Nat) (h : j < ps.length) : (vIs ps).getD j 0 = vI (ps.getD j 0) := by simp [vIs, List.getD, h]
theorem allIn_vIs {xs : List Int} (h : allIn 0 1498 xs = true) : xs = vIs (xs.map toF) := by
  unfold vIs
  rw [List.map_map]
  conv => lhs; rw [← List.map_id xs]
  refine List.map_congr_left fun x hx => ?_
  have := List.all_eq_true.1 h x hx
  unfold inB at this
  rw [decide_eq_true_iff] at this
  show x = vI (toF x)
  rw [vI_toF' (by omega) (by omega)]
theorem vIs_allIn (ps : List F) : allIn 0 1498 (vIs ps) = true := by
  refine List.all_eq_true.2 fun x hx => ?_
  obtain ⟨p, _, rfl⟩ := List.mem_map.1 hx
  have h1 := vI_lo p
  have h2 := vI_hi p
  unfold inB
  rw [decide_eq_true_iff]; omega
theorem vIs_inj {ps qs : List F} (h : vIs ps = vIs qs) : ps = qs := by
  have := congrArg (List.map toF) h
  simpa [vIs, Function.comp_def, toF_vI] using this
theorem polyB_parts {xs : List Int} (h : polyB xs = true) : ∃ ps : List F, xs = vIs ps ∧ 1 ≤ ps.length ∧ ps.length ≤ 8 := by
  unfold polyB at h
  rw [Bool.and_eq_true, decide_eq_true_iff] at h
  exact ⟨xs.map toF, allIn_vIs h.2, by simpa using h.1.1, by simpa using h.1.2⟩

theorem l5Poly_c (ao : Option Addr) (n c : Nat) (xs : List Int) (w : World) (hx : xs.length = n) (hn : n ≤ 17592186044416) (hr : Rd w ao xs) :
    Calls Try.prog 54 #[.slice ao n c] w fun e w' => e = .returned (.bool (polyB xs)) ∧ w' = w := by
  have hi := l1In_c n 1 8
  have ha := fun wx (h : wx = w) => l1All_c ao n c 0 1498 xs wx hx hn (by rw [h]; exact hr)
  unfold polyB
  rw [hx]
  generalize allIn 0 1498 xs = G at ha
  by_cases h : 1 ≤ n ∧ n ≤ 8
  · rw [decide_eq_true h, Bool.true_and]
    rw [decide_eq_true (by omega)] at hi
    go_enter Try.func54, Try.ntmps54
    go_wp2_with fail
    refine (hi _).mono ?_
    clear hi
    rintro e w' ⟨rfl, hw⟩
    subst w'
    go_wp2_with fail
    refine (ha _ rfl).mono ?_
    clear ha
    rintro e w' ⟨rfl, hw⟩
    subst w'
    go_wp2
    go_ret
    exact ⟨rfl, rfl⟩
  · rw [decide_eq_false h, Bool.false_and]
    rw [decide_eq_false (by omega)] at hi
    clear ha
    go_enter Try.func54, Try.ntmps54
    go_wp2_with fail
    refine (hi _).mono ?_
    clear hi
    rintro e w' ⟨rfl, hw⟩
    subst w'
    go_wp2
    go_ret
    exact ⟨rfl, rfl⟩

set_option maxHeartbeats 400000 in
theorem isPoly_at (b o n c : Nat) (xs : List Int) (w : World) (hx : xs.length = n) (h1 : 1 ≤ n) (h8 : n ≤ 8)
    (hc : ∀ j, j < n → w.cell? ⟨b, o + j, none⟩ = some (.int .i64 (xs.getD j 0))) :
    Calls Try.prog 52 #[.slice (some ⟨b, o, none⟩) n c] w fun e w' => e = .returned (.bool (allIn 0 1498 xs)) ∧ w' = w := by
  have HX : Hid (xs.length = n) := hx
  have HC : Hid (∀ j, j < n → w.cell? ⟨b, o + j, none⟩ = some (.int .i64 (xs.getD j 0))) := hc
  obtain ⟨G, hG⟩ : ∃ G, G = allIn 0 1498 xs := ⟨_, rfl⟩
  rw [← hG]
  have HG : Hid (G = allIn 0 1498 (xs.drop 0)) := by show G = _; simpa using hG
  have h1' : ¬ (n : Int) < 1 := by omega
  have h8' : ¬ (8 : Int) < n := by omega
  clear hx hc hG
  go_enter Try.func52, Try.ntmps52
  go_wp2
  go_loop [15] (fun i => ∃ (k : Nat), k ≤ n ∧ i = .int .i64 k ∧ Hid (G = allIn 0 1498 (xs.drop k))) (fun i => n - (intOf i).toNat)
  case atStart => exact ⟨0, Nat.zero_le _, rfl, HG⟩
  case round =>
    clear HG
    obtain ⟨k, hk, rfl, hG⟩ := hrel
    by_cases hlt : k < n
    · have g1 := HC.out k hlt
      generalize hy : xs.getD k 0 = x at g1
      have HS : Hid (G = (inB 0 1498 x && allIn 0 1498 (xs.drop (k + 1)))) := allIn_step HX.out hlt hy hG.out
      clear hy hG
      have hi' := isSmall_c x
      unfold smallB at hi'
      by_cases hin : 0 ≤ x ∧ x ≤ 1498
      · rw [decide_eq_true hin] at hi'
        have HN : Hid (G = allIn 0 1498 (xs.drop (k + 1))) := by
          show G = _
          have := HS.out
          rw [inB, decide_eq_true hin] at this
          simpa using this
        clear hin
        go_wp2_with (go_at_call 62; refine (hi' _).mono ?_; clear hi'; rintro e w' ⟨rfl, rfl⟩)
        go_round
        case rel => exact ⟨k + 1, by omega, by go_num, HN⟩
        case measure => simp [intOf]; omega
      · rw [decide_eq_false hin] at hi'
        have hG : G = false := by rw [HS.out, inB, decide_eq_false hin]; rfl
        subst hG
        clear hin
        go_wp2_with (go_at_call 62; refine (hi' _).mono ?_; clear hi'; rintro e w' ⟨rfl, rfl⟩)
        go_ret
        exact ⟨rfl, rfl⟩
    · have hG' : G = true := allIn_end HX.out hlt hG.out
      clear hG
      subst hG'
      go_wp2
      go_ret
      exact ⟨rfl, rfl⟩

theorem isPoly_no (ao : Option Addr) (n c : Nat) (w : World) (h : ¬ (1 ≤ n ∧ n ≤ 8)) (hn : n ≤ 17592186044416) :
    Calls Try.prog 52 #[.slice ao n c] w fun e w' => e = .returned (.bool false) ∧ w' = w := by
  by_cases h1 : n < 1
  · have h1' : (n : Int) < 1 := by omega
    go_enter Try.func52, Try.ntmps52
    go_wp2
    go_ret
    exact ⟨rfl, rfl⟩
  · have h1' : ¬ (n : Int) < 1 := by omega
    have h8' : (8 : Int) < n := by omega
    go_enter Try.func52, Try.ntmps52
    go_wp2
    go_ret
    exact ⟨rfl, rfl⟩

theorem isPoly_c (ao : Option Addr) (n c : Nat) (xs : List Int) (w : World) (hx : xs.length = n) (hn : n ≤ 17592186044416) (hr : Rd w ao xs) :
    Calls Try.prog 52 #[.slice ao n c] w fun e w' => e = .returned (.bool (polyB xs)) ∧ w' = w := by
  unfold polyB
  rw [hx]
  by_cases h : 1 ≤ n ∧ n ≤ 8
  · rw [decide_eq_true h, Bool.true_and]
    obtain ⟨b, o, rfl, hc⟩ := hr.at hx (by omega)
    exact isPoly_at b o n c xs w hx h.1 h.2 hc
  · rw [decide_eq_false h, Bool.false_and]
    exact isPoly_no ao n c w h hn

theorem vI_horner (v x c : F) : (vI v * vI x + vI c) % 1499 = vI (v * x + c) := by
  rw [← vI_add, ← vI_mul]; omega
theorem dropF_getD {ps : List F} {k : Nat} (h : k < ps.length) : ps.drop k = ps.getD k 0 :: ps.drop (k + 1) := by
  rw [List.drop_eq_getElem_cons h]
  simp [List.getD, h]

set_option maxHeartbeats 400000 in
theorem l5Value_at (b o n c : Nat) (ps : List F) (x : F) (w : World) (hx : ps.length = n) (h8 : n ≤ 8)
    (hc : ∀ j, j < n → w.cell? ⟨b, o + j, none⟩ = some (.int .i64 (vI (ps.getD j 0)))) :
    Calls Try.prog 56 #[.slice (some ⟨b, o, none⟩) n c, .int .i64 (vI x)] w fun e w' => e = .returned (.int .i64 (vI (evF ps x))) ∧ w' = w := by
  have HX : Hid (ps.length = n) := hx
  have HC : Hid (∀ j, j < n → w.cell? ⟨b, o + j, none⟩ = some (.int .i64 (vI (ps.getD j 0)))) := hc
  clear hx hc
  go_enter Try.func56, Try.ntmps56
  go_wp2
  go_loop [5, 6] (fun u i => ∃ (k : Nat) (z : Int), k ≤ n ∧ i = .int .i64 z ∧ z + 1 = k ∧ u = .int .i64 (vI (evF (ps.drop k) x))) (fun _ i => (intOf i + 1).toNat)
  case atStart => exact ⟨n, (n : Int) - 1, Nat.le_refl _, by go_num, by omega, by rw [List.drop_of_length_le (by rw [HX.out]; exact Nat.le_refl _)]; rfl⟩
  case round =>
    obtain ⟨k, z, hk, rfl, hz, rfl⟩ := hrel
    by_cases hlt : k = 0
    · subst hlt
      have hz0 : ¬ (0 : Int) ≤ z := by omega
      have HZ : Hid (z + 1 = ((0 : Nat) : Int)) := hz
      clear hz
      go_wp2
      go_ret
      exact ⟨by simp, rfl⟩
    · obtain ⟨m, rfl⟩ : ∃ m, k = m + 1 := ⟨k - 1, by omega⟩
      obtain rfl : z = (m : Int) := by omega
      have g1 := HC.out m (by omega)
      have hd : evF (ps.drop m) x = evF (ps.drop (m + 1)) x * x + ps.getD m 0 := by rw [dropF_getD (by rw [HX.out]; omega), evF_cons]
      have hH := vI_horner (evF (ps.drop (m + 1)) x) x (ps.getD m 0)
      rw [← hd] at hH
      have hp := pr_lt (vI_mem (evF (ps.drop (m + 1)) x)) (vI_mem x)
      have hq := vI_mem (ps.getD m 0)
      generalize vI (evF (ps.drop (m + 1)) x) = v at *
      have HH : Hid ((v * vI x + vI (ps.getD m 0)) % 1499 = vI (evF (ps.drop m) x)) := hH
      generalize vI (ps.getD m 0) = q at *
      generalize vI x = y at *
      clear hH hd hz
      go_wp2
      go_round
      case rel => exact ⟨m, (m : Int) - 1, by omega, by go_num, by omega, by rw [← HH.out]⟩
      case measure => simp [intOf]

theorem RdF {w : World} {ao : Option Addr} {ps : List F} {n : Nat} (hr : Rd w ao (vIs ps)) (hx : ps.length = n) (h : n ≠ 0) : ∃ b o, ao = some ⟨b, o, none⟩ ∧ ∀ j, j < n → w.cell? ⟨b, o + j, none⟩ = some (.int .i64 (vI (ps.getD j 0))) := by
  obtain ⟨b, o, rfl, hc⟩ := hr.at (n := n) (by rw [vIs_length]; exact hx) h
  exact ⟨b, o, rfl, fun j hj => by rw [hc j hj, vIs_getD ps j (by omega)]⟩

theorem l5Value_c (ao : Option Addr) (n c : Nat) (ps : List F) (x : F) (w : World) (hx : ps.length = n) (h1 : 1 ≤ n) (h8 : n ≤ 8) (hr : Rd w ao (vIs ps)) :
    Calls Try.prog 56 #[.slice ao n c, .int .i64 (vI x)] w fun e w' => e = .returned (.int .i64 (vI (evF ps x))) ∧ w' = w := by
  obtain ⟨b, o, rfl, hc⟩ := RdF hr hx (by omega)
  exact l5Value_at b o n c ps x w hx h8 hc

end Go.Proofs.Ytamppekadobagaa
