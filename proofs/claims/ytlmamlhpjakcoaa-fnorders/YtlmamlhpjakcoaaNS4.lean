/- NumberOf of the specification: the contract. -/
import Derived.Test.YtlmamlhpjakcoaaNM4
namespace Go.Proofs.Ytlmamlhpjakcoaa
set_option linter.unusedVariables false
set_option linter.unusedSimpArgs false
open Go.RowKit

set_option maxHeartbeats 2000000 in
theorem specNumber_at (b o n c : Nat) (xs : List Int) (w : World) (hx : xs.length = n) (hn : n ≤ 9) (hcap : n ≤ c ∧ c ≤ maxLen)
    (hc : ∀ j, j < n → w.cell? ⟨b, o + j, none⟩ = some (.int .i64 (xs.getD j 0)))
    (hO : Calls Try.prog 77 #[.slice (some ⟨b, o, none⟩) n c] w fun e w' => e = .returned (.bool true) ∧ w' = w) :
    Calls Try.prog 34 #[.slice (some ⟨b, o, none⟩) n c] w fun e w' => e = .returned (.tuple #[.int .i64 (numL xs : Nat), .bool true]) ∧ w' = w := by
  have HX : Hid (xs.length = n) := hx
  have HC : Hid (∀ j, j < n → w.cell? ⟨b, o + j, none⟩ = some (.int .i64 (xs.getD j 0))) := hc
  have HO : Hid (Calls Try.prog 77 #[.slice (some ⟨b, o, none⟩) n c] w fun e w' => e = .returned (.bool true) ∧ w' = w) := hO
  have HT : Hid (numL xs ≤ 362880) := by have h1 := numL_lt xs; have h2 := fac_le9 hn; rw [hx] at h1; show _ ≤ _; omega
  have hc1 : n ≤ c := hcap.1
  have hc2 : c ≤ maxLen := hcap.2
  unfold maxLen at hc2
  clear hx hc hO hcap
  go_enter Try.func34, Try.ntmps34
  go_wp2_with (go_at_call 77; refine HO.out.mono ?_; clear HO; rintro e w' ⟨rfl, hw⟩; subst w')
  go_loop [4, 15] (fun v i => ∃ (k m : Nat), k ≤ n ∧ i = .int .i64 k ∧ v = .int .i64 m ∧ Hid (m + numL (xs.drop k) = numL xs)) (fun _ i => n - (intOf i).toNat)
  case atStart => exact ⟨0, 0, Nat.zero_le _, rfl, rfl, by show _ = _; simp⟩
  case round =>
    obtain ⟨k, m, hk, rfl, rfl, hm⟩ := hrel
    by_cases hlt : k < n
    · have g1 := HC.out k hlt
      have hkl : k < xs.length := by rw [HX.out]; exact hlt
      obtain ⟨A, hA⟩ : ∃ A : Option Addr, (if c = k + 1 then some ⟨b, o, none⟩ else some ⟨b, o + (k + 1), none⟩) = A := ⟨_, rfl⟩
      have hrd : Rd w A (xs.drop (k + 1)) := Rd.drop HX.out (by omega) HC.out (fun h => by rw [← hA, if_neg (by omega)])
      have HRD : Hid (Rd w A (xs.drop (k + 1))) := hrd
      have HYL : Hid ((xs.drop (k + 1)).length = n - (k + 1)) := by show _ = _; rw [List.length_drop, HX.out]
      have hnd := numL_drop hkl
      rw [HX.out] at hnd
      have HND : Hid (numL (xs.drop k) = lessN (xs.getD k 0) (xs.drop (k + 1)) * fac (n - (k + 1)) + numL (xs.drop (k + 1))) := hnd
      generalize xs.getD k 0 = x at g1 HND
      obtain ⟨q, hq⟩ : ∃ q, q = n - (k + 1) := ⟨_, rfl⟩
      rw [← hq] at HYL HND
      have hqi : (n : Int) - 1 - k = (q : Int) := by omega
      have hq9 : q ≤ 12 := by omega
      have hqn : n - (k + 1) = q := hq.symm
      have HQN : Hid (q = n - (k + 1)) := hq
      clear hrd hnd hkl hq
      generalize hys : xs.drop (k + 1) = ys at HRD HYL HND
      have HYS : Hid (xs.drop (k + 1) = ys) := hys
      clear hys
      go_wp2
      go_loop [7, 25] (fun lv i => ∃ (j L : Nat), j ≤ q ∧ i = .int .i64 j ∧ lv = .int .i64 L ∧ L ≤ j ∧ Hid (L = lessN x (ys.take j))) (fun _ i => q - (intOf i).toNat)
      case atStart => exact ⟨0, 0, Nat.zero_le _, rfl, rfl, Nat.le_refl _, rfl⟩
      case round =>
        obtain ⟨j, L, hj, rfl, rfl, hLj, hL⟩ := hrel
        by_cases hlj : j < q
        · obtain ⟨b', o', hAe, hcy⟩ := HRD.out.at HYL.out (by omega)
          have g2 := hcy j hlj
          have hjl : j < ys.length := by rw [HYL.out]; exact hlj
          have HS : Hid (lessN x (ys.take (j + 1)) = L + (if ys.getD j 0 < x then 1 else 0)) := by
            show _ = _
            rw [List.take_succ_eq_append_getElem hjl, lessN_app, ← hL.out]
            simp [List.getD, hjl]
          generalize ys.getD j 0 = y at g2 HS
          clear hL hjl hcy hA HRD
          subst hAe
          have hlji : (j : Int) < (q : Int) := by omega
          by_cases hy : y < x
          · go_wp2
            go_round
            case rel => exact ⟨j + 1, L + 1, by omega, by go_num, by go_num, by omega, by show _ = _; rw [HS.out, if_pos hy]⟩
            case measure => simp [intOf]; omega
          · have hy' : x ≤ y := by omega
            go_wp2
            go_round
            case rel => exact ⟨j + 1, L, by omega, by go_num, rfl, by omega, by show _ = _; rw [HS.out, if_neg (by omega)]; rfl⟩
            case measure => simp [intOf]; omega
        · have HLE : Hid (L = lessN x ys) := by show _ = _; rw [hL.out, List.take_of_length_le (by rw [HYL.out]; omega)]
          have hgj : (q : Int) ≤ (j : Int) := by omega
          have ht := fun wx => l4Orders_c q wx hq9
          have HE : Hid (m + L * fac q + numL ys = numL xs) := by
            show _ = _
            rw [← hm.out, HND.out, ← HLE.out, Nat.add_assoc]
          generalize fac q = F at ht HE HND
          have hML : m + L * F ≤ 362880 := by
            have h1 := HE.out
            have h2 := HT.out
            omega
          have hM : (L : Int) * F = ((L * F : Nat) : Int) := by simp
          generalize L * F = M at hML hM HE
          have hw : wrap64 ((L : Int) * F) = (M : Int) := by rw [hM]; exact w64 (by omega)
          clear hL hM
          go_wp2_with (go_at_call 73; refine (ht _).mono ?_; clear ht; rintro e w' ⟨rfl, hw'⟩; subst w')
          go_round
          case rel => exact ⟨k + 1, m + M, by omega, by go_num, by go_num, by show _ = _; rw [HYS.out]; exact HE.out⟩
          case measure => simp [intOf]; omega
    · have HE : Hid (m = numL xs) := by
        show _ = _
        rw [← hm.out, List.drop_of_length_le (by rw [HX.out]; omega)]
        simp [numL]
      clear hm
      go_wp2
      refine bodyPost_ret (v := .tuple #[.int .i64 (m : Int), .bool true]) (by simp [results, Try.results34, go_sem]; try rfl) rfl ?_
      exact ⟨by rw [HE.out], rfl⟩

theorem specNumber_nil (ao : Option Addr) (c : Nat) (w : World) (hO : Calls Try.prog 77 #[.slice ao 0 c] w fun e w' => e = .returned (.bool true) ∧ w' = w) :
    Calls Try.prog 34 #[.slice ao 0 c] w fun e w' => e = .returned (.tuple #[.int .i64 0, .bool true]) ∧ w' = w := by
  go_enter Try.func34, Try.ntmps34
  go_wp2_with (go_at_call 77; refine hO.mono ?_; clear hO; rintro e w' ⟨rfl, hw⟩; subst w')
  refine wp_loop_rounds 1 ?_
  rw [rounds_succ]
  go_wp2
  refine bodyPost_ret (v := .tuple #[.int .i64 0, .bool true]) (by simp [results, Try.results34, go_sem]; try rfl) rfl ?_
  exact ⟨rfl, rfl⟩

theorem specNumber_c (ao : Option Addr) (n c : Nat) (xs : List Int) (w : World) (hx : xs.length = n) (hn : n ≤ 17592186044416) (hcap : n ≤ c ∧ c ≤ maxLen) (hr : Rd w ao xs) (r : Int) (fb : Bool) (hF : numberF xs = (r, fb)) :
    Calls Try.prog 34 #[.slice ao n c] w fun e w' => e = .returned (.tuple #[.int .i64 r, .bool fb]) ∧ Below w.heap.size w w' := by
  have h : Calls Try.prog 34 #[.slice ao n c] w fun e w' => e = .returned (.tuple #[.int .i64 r, .bool fb]) ∧ w' = w := by
    have hO := l4Order_c ao n c xs w hx hn hcap hr
    unfold numberF at hF
    by_cases h : ordB xs = true
    · rw [if_pos h] at hF
      simp only [Prod.mk.injEq] at hF
      obtain ⟨rfl, rfl⟩ := hF
      rw [h] at hO
      have h9 : n ≤ 9 := by
        have := ((ordB_iff xs).1 h).1
        omega
      rcases hr with rfl | ⟨b, o, rfl, hc⟩
      · simp at hx; subst hx
        exact specNumber_nil ao c w hO
      · exact specNumber_at b o n c xs w hx h9 hcap (by rw [← hx]; exact hc) hO
    · rw [if_neg h] at hF
      simp only [Prod.mk.injEq] at hF
      obtain ⟨rfl, rfl⟩ := hF
      rw [Bool.eq_false_iff.2 h] at hO
      clear h
      go_enter Try.func34, Try.ntmps34
      go_wp2_with (go_at_call 77; refine hO.mono ?_; clear hO; rintro e w' ⟨rfl, hw⟩; subst w')
      refine bodyPost_ret (v := .tuple #[.int .i64 0, .bool false]) (by simp [results, Try.results34, go_sem]; try rfl) rfl ?_
      exact ⟨rfl, rfl⟩
  refine h.mono ?_
  rintro e w' ⟨rfl, hw⟩
  subst w'
  exact ⟨rfl, Below.refl _ _⟩

end Go.Proofs.Ytlmamlhpjakcoaa
