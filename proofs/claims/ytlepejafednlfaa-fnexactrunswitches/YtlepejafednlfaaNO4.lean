/- Orders: how both sides tell one. -/
import Derived.Test.YtlepejafednlfaaNL4
namespace Go.Proofs.Ytlepejafednlfaa
set_option linter.unusedVariables false
set_option maxRecDepth 1000000
set_option linter.unusedSimpArgs false
open Go.RowKit

/-- The number at i is one of an order's, and new. -/
def okAt (xs : List Int) (i : Nat) : Bool := decide (0 ≤ xs.getD i 0 ∧ xs.getD i 0 < xs.length) && !hasB (xs.getD i 0) (xs.take i)
/-- .. of the last m numbers each. -/
def okRest (xs : List Int) : Nat → Bool
  | 0 => true
  | m + 1 => okAt xs (xs.length - (m + 1)) && okRest xs m
def ordB (xs : List Int) : Bool := decide (xs.length ≤ 9) && okRest xs xs.length

theorem okRest_step {xs : List Int} {n k : Nat} {G : Bool} (hx : xs.length = n) (h : k < n) (hg : G = okRest xs (n - k)) : G = (okAt xs k && okRest xs (n - (k + 1))) := by
  rw [hg, show n - k = (n - (k + 1)) + 1 by omega, okRest, hx, show n - (n - (k + 1) + 1) = k by omega]

theorem okRest_all {xs : List Int} : ∀ m, m ≤ xs.length → (okRest xs m = true ↔ ∀ i, xs.length - m ≤ i → i < xs.length → okAt xs i = true)
  | 0, _ => ⟨fun _ i h1 h2 => by omega, fun _ => rfl⟩
  | m + 1, hm => by
    rw [okRest, Bool.and_eq_true, okRest_all m (by omega)]
    constructor
    · rintro ⟨h1, h2⟩ i h3 h4
      by_cases h : i = xs.length - (m + 1)
      · rw [h]; exact h1
      · exact h2 i (by omega) h4
    · intro h
      exact ⟨h _ (by omega) (by omega), fun i h3 h4 => h i (by omega) h4⟩

theorem okAt_iff {xs : List Int} {i : Nat} : okAt xs i = true ↔ (0 ≤ xs.getD i 0 ∧ xs.getD i 0 < xs.length) ∧ xs.getD i 0 ∉ xs.take i := by
  unfold okAt hasB
  rw [Bool.and_eq_true, decide_eq_true_eq, Bool.not_eq_true', List.contains_eq_mem, decide_eq_false_iff_not]

theorem ordB_iff (xs : List Int) : ordB xs = true ↔ isOrd xs := by
  unfold ordB isOrd
  rw [Bool.and_eq_true, decide_eq_true_eq, okRest_all _ (Nat.le_refl _)]
  refine and_congr_right fun _ => ⟨fun h i hi => okAt_iff.1 (h i (by omega) hi), fun h i _ hi => okAt_iff.2 (h i hi)⟩

theorem Rd.take {w : World} {b o n k : Nat} {xs : List Int} (hx : xs.length = n) (hk : k ≤ n) (hc : ∀ j, j < n → w.cell? ⟨b, o + j, none⟩ = some (.int .i64 (xs.getD j 0))) : Rd w (some ⟨b, o, none⟩) (xs.take k) := by
  refine Or.inr ⟨b, o, rfl, fun j hj => ?_⟩
  have hj' : j < k := by simp at hj; omega
  rw [hc j (by omega)]
  simp [List.getD, List.getElem?_take, hj']

set_option maxHeartbeats 1000000 in
theorem isOrder_at (b o n c : Nat) (xs : List Int) (w : World) (hx : xs.length = n) (hn : n ≤ 9) (hcap : n ≤ c ∧ c ≤ maxLen)
    (hc : ∀ j, j < n → w.cell? ⟨b, o + j, none⟩ = some (.int .i64 (xs.getD j 0))) :
    Calls Try.prog 62 #[.slice (some ⟨b, o, none⟩) n c] w fun e w' => e = .returned (.bool (okRest xs n)) ∧ Below w.heap.size w w' := by
  have HX : Hid (xs.length = n) := hx
  have HC : Hid (∀ j, j < n → w.cell? ⟨b, o + j, none⟩ = some (.int .i64 (xs.getD j 0))) := hc
  obtain ⟨G, hG⟩ : ∃ G, G = okRest xs n := ⟨_, rfl⟩
  rw [← hG]
  have HG : Hid (G = okRest xs (n - 0)) := by show G = _; simpa using hG
  have h9 : (n : Int) ≤ 9 := by omega
  have hc1 : n ≤ c := hcap.1
  have hc2 : c ≤ maxLen := hcap.2
  unfold maxLen at hc2
  clear hx hc hG hcap
  go_enter Try.func62, Try.ntmps62
  go_wp2
  go_loopw [10] (fun i wr => ∃ (k : Nat), k ≤ n ∧ i = .int .i64 k ∧ Hid (G = okRest xs (n - k)) ∧ Hid (Below w.heap.size w wr)) (fun i _ => n - (intOf i).toNat)
  case atStart => exact ⟨0, Nat.zero_le _, rfl, HG, Below.refl _ _⟩
  case round =>
    clear HG
    obtain ⟨k, hk, rfl, hG, hB⟩ := hrel
    by_cases hlt : k < n
    · have hbx := World.block_lt_of_cell? w _ (HC.out k hlt)
      have g1 : wr.cell? ⟨b, o + k, none⟩ = some (.int .i64 (xs.getD k 0)) := by rw [hB.out.cell (p := ⟨b, o + k, none⟩) hbx]; exact HC.out k hlt
      have HS : Hid (G = (okAt xs k && okRest xs (n - (k + 1)))) := okRest_step HX.out hlt hG.out
      have HA : Hid (okAt xs k = (decide (0 ≤ xs.getD k 0 ∧ xs.getD k 0 < n) && !hasB (xs.getD k 0) (xs.take k))) := by show _ = _; rw [okAt, HX.out]
      have HQ : Hid (∀ wx, wx = wr → Calls Try.prog 91 #[.slice (some ⟨b, o, none⟩) k c, .int .i64 (xs.getD k 0)] wx fun e w' => e = .returned (.bool (hasB (xs.getD k 0) (xs.take k))) ∧ Below wx.heap.size wx w') := fun wx h => contains_c _ k c _ (xs.take k) wx (by rw [List.length_take, HX.out]; omega) (by omega) (by rw [h]; exact (Rd.take HX.out hk HC.out).later hB.out)
      generalize xs.getD k 0 = x at g1 HA HQ
      clear hG hbx
      by_cases h0 : 0 ≤ x
      · by_cases h1 : x < (n : Int)
        · rw [decide_eq_true ⟨h0, h1⟩, Bool.true_and] at HA
          cases hh : hasB x (xs.take k) with
          | false =>
            rw [hh] at HA HQ
            have HN : Hid (G = okRest xs (n - (k + 1))) := by show _ = _; rw [HS.out, HA.out]; rfl
            clear hh
            go_wp2_with (go_at_call 91; refine (HQ.out _ rfl).mono ?_; clear HQ; rintro e w2 ⟨rfl, hb2⟩; have HB2 : Hid (Below w.heap.size w w2) := hB.out.trans (hb2.mono hB.out.size); clear hb2)
            go_roundw
            case rel => exact ⟨k + 1, by omega, by go_num, HN, HB2⟩
            case measure => simp [intOf]; omega
          | true =>
            rw [hh] at HA HQ
            have hG : G = false := by rw [HS.out, HA.out]; rfl
            clear hh
            subst hG
            go_wp2_with (go_at_call 91; refine (HQ.out _ rfl).mono ?_; clear HQ; rintro e w2 ⟨rfl, hb2⟩; have HB2 : Hid (Below w.heap.size w w2) := hB.out.trans (hb2.mono hB.out.size); clear hb2)
            go_ret
            exact ⟨rfl, HB2.out⟩
        · have h2 : (n : Int) ≤ x := by omega
          rw [decide_eq_false (fun h => h1 h.2), Bool.false_and] at HA
          have hG : G = false := by rw [HS.out, HA.out]; rfl
          subst hG
          clear HQ h1
          go_wp2
          go_ret
          exact ⟨rfl, hB.out⟩
      · have h2 : x < 0 := by omega
        rw [decide_eq_false (fun h => h0 h.1), Bool.false_and] at HA
        have hG : G = false := by rw [HS.out, HA.out]; rfl
        subst hG
        clear HQ h0
        go_wp2
        go_ret
        exact ⟨rfl, hB.out⟩
    · have hG' : G = true := by rw [hG.out, show n - k = 0 by omega]; rfl
      clear hG
      subst hG'
      go_wp2
      go_ret
      exact ⟨rfl, hB.out⟩

theorem isOrder_nil (ao : Option Addr) (c : Nat) (w : World) :
    Calls Try.prog 62 #[.slice ao 0 c] w fun e w' => e = .returned (.bool true) ∧ w' = w := by
  go_enter Try.func62, Try.ntmps62
  go_wp2
  refine wp_loop_rounds 1 ?_
  rw [rounds_succ]
  go_wp2
  go_ret
  exact ⟨rfl, rfl⟩

theorem isOrder_c (ao : Option Addr) (n c : Nat) (xs : List Int) (w : World) (hx : xs.length = n) (hn : n ≤ 17592186044416) (hcap : n ≤ c ∧ c ≤ maxLen) (hr : Rd w ao xs) :
    Calls Try.prog 62 #[.slice ao n c] w fun e w' => e = .returned (.bool (ordB xs)) ∧ Below w.heap.size w w' := by
  unfold ordB
  rw [hx]
  by_cases h : n ≤ 9
  · rw [decide_eq_true h, Bool.true_and]
    rcases hr with rfl | ⟨b, o, rfl, hc⟩
    · simp at hx; subst hx
      refine (isOrder_nil ao c w).mono ?_
      rintro e w' ⟨rfl, hw⟩
      subst w'
      exact ⟨rfl, Below.refl _ _⟩
    · exact isOrder_at b o n c xs w hx h hcap (by rw [← hx]; exact hc)
  · rw [decide_eq_false h, Bool.false_and]
    have h9 : (9 : Int) < n := by omega
    go_enter Try.func62, Try.ntmps62
    go_wp2
    go_ret
    exact ⟨rfl, Below.refl _ _⟩

set_option maxHeartbeats 1000000 in
theorem l4Order_at (b o n c : Nat) (xs : List Int) (w : World) (hx : xs.length = n) (hn : n ≤ 17592186044416) (hcap : n ≤ c ∧ c ≤ maxLen)
    (hc : ∀ j, j < n → w.cell? ⟨b, o + j, none⟩ = some (.int .i64 (xs.getD j 0))) :
    Calls Try.prog 65 #[.slice (some ⟨b, o, none⟩) n c] w fun e w' => e = .returned (.bool (okRest xs n && decide (n ≤ 9))) ∧ w' = w := by
  have HX : Hid (xs.length = n) := hx
  have HC : Hid (∀ j, j < n → w.cell? ⟨b, o + j, none⟩ = some (.int .i64 (xs.getD j 0))) := hc
  obtain ⟨G, hG⟩ : ∃ G, G = okRest xs n := ⟨_, rfl⟩
  rw [← hG]
  have HG : Hid (G = okRest xs (n - 0)) := by show G = _; simpa using hG
  have hc1 : n ≤ c := hcap.1
  have hc2 : c ≤ maxLen := hcap.2
  unfold maxLen at hc2
  obtain ⟨N9, hN9⟩ : ∃ N9, N9 = decide (n ≤ 9) := ⟨_, rfl⟩
  rw [← hN9]
  have HN9 : Hid (decide ((n : Int) ≤ 9) = N9) := by show _ = _; rw [hN9]; exact decide_eq_decide.2 (by omega)
  clear hx hc hG hcap hN9
  go_enter Try.func65, Try.ntmps65
  go_wp2
  go_loop [7] (fun i => ∃ (k : Nat), k ≤ n ∧ i = .int .i64 k ∧ Hid (G = okRest xs (n - k))) (fun i => n - (intOf i).toNat)
  case atStart => exact ⟨0, Nat.zero_le _, rfl, HG⟩
  case round =>
    clear HG
    obtain ⟨k, hk, rfl, hG⟩ := hrel
    by_cases hlt : k < n
    · have g1 := HC.out k hlt
      have HS : Hid (G = (okAt xs k && okRest xs (n - (k + 1)))) := okRest_step HX.out hlt hG.out
      have HA : Hid (okAt xs k = (decide (0 ≤ xs.getD k 0 ∧ xs.getD k 0 < n) && !hasB (xs.getD k 0) (xs.take k))) := by show _ = _; rw [okAt, HX.out]
      have HQ : Hid (∀ wx, wx = w → Calls Try.prog 96 #[.slice (some ⟨b, o, none⟩) k c, .int .i64 (xs.getD k 0)] wx fun e w' => e = .returned (.bool (hasB (xs.getD k 0) (xs.take k))) ∧ w' = wx) := fun wx h => l1Has_c _ k c _ (xs.take k) wx (by rw [List.length_take, HX.out]; omega) (by omega) (by rw [h]; exact Rd.take HX.out hk HC.out)
      generalize xs.getD k 0 = x at g1 HA HQ
      have hi := l1In_c x 0 ((n : Int) - 1)
      clear hG
      by_cases h01 : 0 ≤ x ∧ x < (n : Int)
      · rw [decide_eq_true h01, Bool.true_and] at HA
        rw [decide_eq_true (by omega)] at hi
        cases hh : hasB x (xs.take k) with
        | false =>
          rw [hh] at HA HQ
          have HN : Hid (G = okRest xs (n - (k + 1))) := by show _ = _; rw [HS.out, HA.out]; rfl
          clear hh h01
          go_wp2_with (first | (go_at_call 95; refine (hi _).mono ?_; clear hi; rintro e w' ⟨rfl, hw⟩; subst w') | (go_at_call 96; refine (HQ.out _ rfl).mono ?_; clear HQ; rintro e w' ⟨rfl, hw⟩; subst w'))
          go_round
          case rel => exact ⟨k + 1, by omega, by go_num, HN⟩
          case measure => simp [intOf]; omega
        | true =>
          rw [hh] at HA HQ
          have hG : G = false := by rw [HS.out, HA.out]; rfl
          clear hh h01
          subst hG
          go_wp2_with (first | (go_at_call 95; refine (hi _).mono ?_; clear hi; rintro e w' ⟨rfl, hw⟩; subst w') | (go_at_call 96; refine (HQ.out _ rfl).mono ?_; clear HQ; rintro e w' ⟨rfl, hw⟩; subst w'))
          go_ret
          exact ⟨rfl, rfl⟩
      · rw [decide_eq_false h01, Bool.false_and] at HA
        rw [decide_eq_false (by omega)] at hi
        have hG : G = false := by rw [HS.out, HA.out]; rfl
        subst hG
        clear HQ h01
        go_wp2_with (go_at_call 95; refine (hi _).mono ?_; clear hi; rintro e w' ⟨rfl, hw⟩; subst w')
        go_ret
        exact ⟨rfl, rfl⟩
    · have hG' : G = true := by rw [hG.out, show n - k = 0 by omega]; rfl
      clear hG
      subst hG'
      go_wp2
      go_ret
      exact ⟨ret_bool HN9.out, rfl⟩

theorem l4Order_nil (ao : Option Addr) (c : Nat) (w : World) :
    Calls Try.prog 65 #[.slice ao 0 c] w fun e w' => e = .returned (.bool true) ∧ w' = w := by
  go_enter Try.func65, Try.ntmps65
  go_wp2
  refine wp_loop_rounds 1 ?_
  rw [rounds_succ]
  go_wp2
  go_ret
  exact ⟨rfl, rfl⟩

theorem l4Order_c (ao : Option Addr) (n c : Nat) (xs : List Int) (w : World) (hx : xs.length = n) (hn : n ≤ 17592186044416) (hcap : n ≤ c ∧ c ≤ maxLen) (hr : Rd w ao xs) :
    Calls Try.prog 65 #[.slice ao n c] w fun e w' => e = .returned (.bool (ordB xs)) ∧ w' = w := by
  unfold ordB
  rw [hx, Bool.and_comm]
  rcases hr with rfl | ⟨b, o, rfl, hc⟩
  · simp at hx; subst hx; exact l4Order_nil ao c w
  · exact l4Order_at b o n c xs w hx hn hcap (by rw [← hx]; exact hc)

end Go.Proofs.Ytlepejafednlfaa
