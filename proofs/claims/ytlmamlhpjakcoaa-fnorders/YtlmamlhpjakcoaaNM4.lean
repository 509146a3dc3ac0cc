/- NumberOf: how many are less; the program's contract. -/
import Derived.Test.YtlmamlhpjakcoaaNO4
namespace Go.Proofs.Ytlmamlhpjakcoaa
set_option linter.unusedVariables false
set_option linter.unusedSimpArgs false
open Go.RowKit

set_option maxHeartbeats 400000 in
theorem lessThan_at (b o n c : Nat) (x : Int) (xs : List Int) (w : World) (hx : xs.length = n) (hn : n ≤ 17592186044416)
    (hc : ∀ j, j < n → w.cell? ⟨b, o + j, none⟩ = some (.int .i64 (xs.getD j 0))) :
    Calls Try.prog 76 #[.int .i64 x, .slice (some ⟨b, o, none⟩) n c] w fun e w' => e = .returned (.int .i64 (lessN x xs : Nat)) ∧ w' = w := by
  have HX : Hid (xs.length = n) := hx
  have HC : Hid (∀ j, j < n → w.cell? ⟨b, o + j, none⟩ = some (.int .i64 (xs.getD j 0))) := hc
  clear hx hc
  go_enter Try.func76, Try.ntmps76
  go_wp2
  go_loop [5, 10] (fun v i => ∃ (k m : Nat), k ≤ n ∧ i = .int .i64 k ∧ v = .int .i64 m ∧ m ≤ k ∧ Hid (m = lessN x (xs.take k))) (fun _ i => n - (intOf i).toNat)
  case atStart => exact ⟨0, 0, Nat.zero_le _, rfl, rfl, Nat.le_refl _, rfl⟩
  case round =>
    obtain ⟨k, m, hk, rfl, rfl, hmk, hm⟩ := hrel
    by_cases hlt : k < n
    · have g1 := HC.out k hlt
      have hkl : k < xs.length := by rw [HX.out]; exact hlt
      have HS : Hid (lessN x (xs.take (k + 1)) = m + (if xs.getD k 0 < x then 1 else 0)) := by
        show _ = _
        rw [List.take_succ_eq_append_getElem hkl, lessN_app, ← hm.out]
        simp [List.getD, hkl]
      generalize xs.getD k 0 = y at g1 HS
      clear hm hkl
      by_cases hy : y < x
      · go_wp2
        go_round
        case rel => exact ⟨k + 1, m + 1, by omega, by go_num, by go_num, by omega, by show _ = _; rw [HS.out, if_pos hy]⟩
        case measure => simp [intOf]; omega
      · have hy' : x ≤ y := by omega
        go_wp2
        go_round
        case rel => exact ⟨k + 1, m, by omega, by go_num, rfl, by omega, by show _ = _; rw [HS.out, if_neg (by omega)]; rfl⟩
        case measure => simp [intOf]; omega
    · have HE : Hid (m = lessN x xs) := by show _ = _; rw [hm.out, List.take_of_length_le (by rw [HX.out]; omega)]
      clear hm
      go_wp2
      go_ret
      exact ⟨ret_int (by rw [HE.out]), rfl⟩

theorem lessThan_nil (ao : Option Addr) (c : Nat) (x : Int) (w : World) :
    Calls Try.prog 76 #[.int .i64 x, .slice ao 0 c] w fun e w' => e = .returned (.int .i64 0) ∧ w' = w := by
  go_enter Try.func76, Try.ntmps76
  go_wp2
  refine wp_loop_rounds 1 ?_
  rw [rounds_succ]
  go_wp2
  go_ret
  exact ⟨rfl, rfl⟩

theorem lessThan_c (ao : Option Addr) (n c : Nat) (x : Int) (xs : List Int) (w : World) (hx : xs.length = n) (hn : n ≤ 17592186044416) (hr : Rd w ao xs) :
    Calls Try.prog 76 #[.int .i64 x, .slice ao n c] w fun e w' => e = .returned (.int .i64 (lessN x xs : Nat)) ∧ w' = w := by
  rcases hr with rfl | ⟨b, o, rfl, hc⟩
  · simp at hx; subst hx; exact lessThan_nil _ _ _ _
  · exact lessThan_at b o n c x xs w hx hn (by rw [← hx]; exact hc)

/-- What is left of a list behind place k. -/
theorem Rd.drop {w : World} {b o n k : Nat} {xs : List Int} {A : Option Addr} (hx : xs.length = n) (hk : k ≤ n) (hc : ∀ j, j < n → w.cell? ⟨b, o + j, none⟩ = some (.int .i64 (xs.getD j 0))) (hA : k < n → A = some ⟨b, o + k, none⟩) : Rd w A (xs.drop k) := by
  by_cases h : k < n
  · rw [hA h]
    refine Or.inr ⟨b, o + k, rfl, fun j hj => ?_⟩
    have hj' : k + j < n := by simp at hj; omega
    rw [show o + k + j = o + (k + j) by omega, hc _ hj']
    simp [List.getD]
  · exact Or.inl (List.drop_of_length_le (by omega))

theorem numL_drop {xs : List Int} {k : Nat} (h : k < xs.length) : numL (xs.drop k) = lessN (xs.getD k 0) (xs.drop (k + 1)) * fac (xs.length - (k + 1)) + numL (xs.drop (k + 1)) := by
  rw [drop_getD rfl h]
  simp [numL]

theorem fac_step {n k : Nat} (h : k < n) : fac (n - k) = (n - k) * fac (n - (k + 1)) := by
  rw [show n - k = (n - (k + 1)) + 1 by omega, fac]

def numberF (xs : List Int) : Int × Bool := if ordB xs = true then ((numL xs : Nat), true) else (0, false)

set_option maxHeartbeats 1000000 in
theorem implNumber_at (b o n c : Nat) (xs : List Int) (w : World) (hx : xs.length = n) (hn : n ≤ 9) (hcap : n ≤ c ∧ c ≤ maxLen)
    (hc : ∀ j, j < n → w.cell? ⟨b, o + j, none⟩ = some (.int .i64 (xs.getD j 0)))
    (hO : Calls Try.prog 75 #[.slice (some ⟨b, o, none⟩) n c] w fun e w' => e = .returned (.bool true) ∧ Below w.heap.size w w') :
    Calls Try.prog 31 #[.slice (some ⟨b, o, none⟩) n c] w fun e w' => e = .returned (.tuple #[.int .i64 (numL xs : Nat), .bool true]) ∧ Below w.heap.size w w' := by
  have HX : Hid (xs.length = n) := hx
  have hcw : ∀ wx, Below w.heap.size w wx → ∀ j, j < n → wx.cell? ⟨b, o + j, none⟩ = some (.int .i64 (xs.getD j 0)) := fun wx hb j hj => by
    rw [hb.cell (p := ⟨b, o + j, none⟩) (World.block_lt_of_cell? w _ (hc j hj))]; exact hc j hj
  have HCW : Hid (∀ wx, Below w.heap.size w wx → ∀ j, j < n → wx.cell? ⟨b, o + j, none⟩ = some (.int .i64 (xs.getD j 0))) := hcw
  have HO : Hid (Calls Try.prog 75 #[.slice (some ⟨b, o, none⟩) n c] w fun e w' => e = .returned (.bool true) ∧ Below w.heap.size w w') := hO
  have HT : Hid (numL xs ≤ 362880) := by have h1 := numL_lt xs; have h2 := fac_le9 hn; rw [hx] at h1; show _ ≤ _; omega
  have hc1 : n ≤ c := hcap.1
  have hc2 : c ≤ maxLen := hcap.2
  unfold maxLen at hc2
  clear hx hc hcw hO hcap
  go_enter Try.func31, Try.ntmps31
  go_wp2_with (go_at_call 75; refine HO.out.mono ?_; clear HO; rintro e w1 ⟨rfl, hb1⟩; have HB1 : Hid (Below w.heap.size w w1) := hb1; clear hb1)
  have HC : Hid (∀ j, j < n → w1.cell? ⟨b, o + j, none⟩ = some (.int .i64 (xs.getD j 0))) := HCW.out w1 HB1.out
  clear HCW
  go_loop [4, 12] (fun v i => ∃ (k m : Nat), k ≤ n ∧ i = .int .i64 k ∧ v = .int .i64 m ∧ Hid (m * fac (n - k) + numL (xs.drop k) = numL xs)) (fun _ i => n - (intOf i).toNat)
  case atStart => exact ⟨0, 0, Nat.zero_le _, rfl, rfl, by show _ = _; simp⟩
  case round =>
    obtain ⟨k, m, hk, rfl, rfl, hm⟩ := hrel
    by_cases hlt : k < n
    · have g1 := HC.out k hlt
      have hkl : k < xs.length := by rw [HX.out]; exact hlt
      obtain ⟨A, hA⟩ : ∃ A : Option Addr, (if c = k + 1 then some ⟨b, o, none⟩ else some ⟨b, o + (k + 1), none⟩) = A := ⟨_, rfl⟩
      have hrd : Rd w1 A (xs.drop (k + 1)) := Rd.drop HX.out (by omega) HC.out (fun h => by rw [← hA, if_neg (by omega)])
      have hl := fun cc => lessThan_c A (n - (k + 1)) cc (xs.getD k 0) (xs.drop (k + 1)) w1 (by rw [List.length_drop, HX.out]) (by omega) hrd
      have hll := lessN_le (xs.getD k 0) (xs.drop (k + 1))
      rw [List.length_drop, HX.out] at hll
      have hnd := numL_drop hkl
      rw [HX.out] at hnd
      generalize xs.getD k 0 = x at g1 hl hll hnd
      generalize lessN x (xs.drop (k + 1)) = L at hl hll hnd
      have HE : Hid ((m * (n - k) + L) * fac (n - (k + 1)) + numL (xs.drop (k + 1)) = numL xs) := by
        show _ = _
        rw [← hm.out, hnd, Nat.add_mul, Nat.mul_assoc, ← fac_step hlt, Nat.add_assoc]
      have hML : m * (n - k) + L ≤ 362880 := by
        have h1 := HE.out
        have h2 := HT.out
        have h3 : m * (n - k) + L ≤ (m * (n - k) + L) * fac (n - (k + 1)) := Nat.le_mul_of_pos_right _ (fac_pos _)
        omega
      have hM : (m : Int) * ((n : Int) - k) = ((m * (n - k) : Nat) : Int) := by
        rw [Int.natCast_mul, Int.ofNat_sub (by omega)]
      generalize m * (n - k) = M at hML hM HE
      have hw : wrap64 ((m : Int) * ((n : Int) - k)) = (M : Int) := by rw [hM]; exact w64 (by omega)
      have HRD : Hid (∀ cc, Calls Try.prog 76 #[.int .i64 x, .slice A (n - (k + 1)) cc] w1 fun e w' => e = .returned (.int .i64 (L : Nat)) ∧ w' = w1) := hl
      clear hl hm hnd hrd hM hkl
      go_wp2_with (go_at_call 76; refine (HRD.out _).mono ?_; clear HRD; rintro e w' ⟨rfl, hw'⟩; subst w')
      go_round
      case rel => exact ⟨k + 1, M + L, by omega, by go_num, by go_num, HE⟩
      case measure => simp [intOf]; omega
    · have HE : Hid (m = numL xs) := by
        show _ = _
        rw [← hm.out, show n - k = 0 by omega, List.drop_of_length_le (by rw [HX.out]; omega)]
        simp [fac, numL]
      clear hm
      go_wp2
      refine bodyPost_ret (v := .tuple #[.int .i64 (m : Int), .bool true]) (by simp [results, Try.results31, go_sem]; try rfl) rfl ?_
      exact ⟨by rw [HE.out], HB1.out⟩

theorem implNumber_nil (ao : Option Addr) (c : Nat) (w : World) (hO : Calls Try.prog 75 #[.slice ao 0 c] w fun e w' => e = .returned (.bool true) ∧ Below w.heap.size w w') :
    Calls Try.prog 31 #[.slice ao 0 c] w fun e w' => e = .returned (.tuple #[.int .i64 0, .bool true]) ∧ Below w.heap.size w w' := by
  go_enter Try.func31, Try.ntmps31
  go_wp2_with (go_at_call 75; refine hO.mono ?_; clear hO; rintro e w1 ⟨rfl, hb1⟩; have HB1 : Hid (Below w.heap.size w w1) := hb1; clear hb1)
  refine wp_loop_rounds 1 ?_
  rw [rounds_succ]
  go_wp2
  refine bodyPost_ret (v := .tuple #[.int .i64 0, .bool true]) (by simp [results, Try.results31, go_sem]; try rfl) rfl ?_
  exact ⟨rfl, HB1.out⟩

theorem implNumber_c (ao : Option Addr) (n c : Nat) (xs : List Int) (w : World) (hx : xs.length = n) (hn : n ≤ 17592186044416) (hcap : n ≤ c ∧ c ≤ maxLen) (hr : Rd w ao xs) (r : Int) (fb : Bool) (hF : numberF xs = (r, fb)) :
    Calls Try.prog 31 #[.slice ao n c] w fun e w' => e = .returned (.tuple #[.int .i64 r, .bool fb]) ∧ Below w.heap.size w w' := by
  have hO := isOrder_c ao n c xs w hx hn hcap hr
  unfold numberF at hF
  by_cases h : ordB xs = true
  · rw [if_pos h] at hF
    simp only [Prod.mk.injEq] at hF
    obtain ⟨rfl, rfl⟩ := hF
    rw [h] at hO
    have h9 : n ≤ 9 := by
      have := ((ordB_iff xs).1 h).1
      omega
    rcases hr with rfl | ⟨b, o, rfl, hc⟩
    · simp at hx; subst hx
      exact implNumber_nil ao c w hO
    · exact implNumber_at b o n c xs w hx h9 hcap (by rw [← hx]; exact hc) hO
  · rw [if_neg h] at hF
    simp only [Prod.mk.injEq] at hF
    obtain ⟨rfl, rfl⟩ := hF
    rw [Bool.eq_false_iff.2 h] at hO
    clear h
    go_enter Try.func31, Try.ntmps31
    go_wp2_with (go_at_call 75; refine hO.mono ?_; clear hO; rintro e w1 ⟨rfl, hb1⟩; have HB1 : Hid (Below w.heap.size w w1) := hb1; clear hb1)
    refine bodyPost_ret (v := .tuple #[.int .i64 0, .bool false]) (by simp [results, Try.results31, go_sem]; try rfl) rfl ?_
    exact ⟨rfl, HB1.out⟩

end Go.Proofs.Ytlmamlhpjakcoaa
