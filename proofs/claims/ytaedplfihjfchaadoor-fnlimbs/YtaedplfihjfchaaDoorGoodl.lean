/- Contracts of GoodBig, the program's and the specification's. -/
import Derived.Test.YtaedplfihjfchaaDoorBaseBl
namespace Go.Proofs.YtaedplfihjfchaaDoor
set_option linter.unusedVariables false
set_option maxRecDepth 1000000
set_option linter.unusedSimpArgs false
open Go.RowKit

/-- What 'good' says of the limbs. -/
def goodB (xs : List Int) : Bool := decide (xs.length ≤ 6) && xs.all (fun x => decide (0 ≤ x) && decide (x < 65536)) && decide (xs.getLast? ≠ some 0)

theorem goodB_iff (xs : List Int) : goodB xs = true ↔ xs.length ≤ 6 ∧ (∀ x ∈ xs, 0 ≤ x ∧ x < 65536) ∧ xs.getLast? ≠ some 0 := by
  simp [goodB, and_assoc]

theorem goodB_long {xs : List Int} {n : Nat} (hx : xs.length = n) (h : 6 < n) : goodB xs = false := by
  rw [Bool.eq_false_iff]; intro e; have := ((goodB_iff xs).1 e).1; omega

theorem goodB_out {xs : List Int} {n k : Nat} {x : Int} (hx : xs.length = n) (hk : k < n) (e : xs.getD k 0 = x) (h : x < 0 ∨ 65536 ≤ x) : goodB xs = false := by
  rw [Bool.eq_false_iff]; intro g
  have hm : x ∈ xs := by
    rw [← e]; simp only [List.getD, List.getElem?_eq_getElem (show k < xs.length by omega), Option.getD_some]; exact List.getElem_mem _
  have := ((goodB_iff xs).1 g).2.1 x hm
  omega

theorem getLast_getD {xs : List Int} {n : Nat} (hx : xs.length = n) (h : 0 < n) : xs.getLast? = some (xs.getD (n - 1) 0) := by
  rw [List.getLast?_eq_getElem?, hx]
  simp only [List.getD, List.getElem?_eq_getElem (show n - 1 < xs.length by omega), Option.getD_some]

theorem goodB_end {xs : List Int} {n : Nat} {y : Int} (hx : xs.length = n) (h6 : n ≤ 6) (hall : ∀ j, j < n → 0 ≤ xs.getD j 0 ∧ xs.getD j 0 < 65536) (h0 : 0 < n) (e : xs.getD (n - 1) 0 = y) : goodB xs = decide (y ≠ 0) := by
  have hl := getLast_getD hx h0
  rw [e] at hl
  have hm : ∀ x ∈ xs, 0 ≤ x ∧ x < 65536 := by
    intro x hxm
    obtain ⟨j, hj, rfl⟩ := List.getElem_of_mem hxm
    have := hall j (by omega)
    simpa [List.getD, hj] using this
  by_cases hy : y = 0
  · subst hy
    simp [Bool.eq_false_iff, goodB_iff, hl]
  · simp only [ne_eq, hy, not_false_eq_true, decide_true]
    rw [goodB_iff, hl]
    exact ⟨by omega, hm, by simpa using hy⟩

theorem ret_bool {a b : Bool} (h : a = b) : Ending.returned (.bool a) = .returned (.bool b) := by rw [h]

theorem bne_dec (y : Int) : (y != 0) = decide (y ≠ 0) := by by_cases h : y = 0 <;> simp [h]

theorem goodB_nil : goodB [] = true := by decide

set_option maxHeartbeats 400000 in
theorem implGood_at (b o n c : Nat) (xs : List Int) (w : World) (hx : xs.length = n) (hn : n ≤ 17592186044416) (hbw : b < w.heap.size)
    (hc : ∀ j, j < n → w.cell? ⟨b, o + j, none⟩ = some (.int .i64 (xs.getD j 0))) :
    Calls Tryd.prog 10 #[.agg #[.slice (some ⟨b, o, none⟩) n c]] w fun e w' => e = .returned (.bool (goodB xs)) ∧ Below w.heap.size w w' := by
  have HX : Hid (xs.length = n) := hx
  have HB : Hid (Below w.heap.size w (w.alloc (Obj.cells #[Value.slice (some ⟨b, o, none⟩) n c] 25))) := (Below.refl _ _).alloc (Nat.le_refl _) _
  clear hx
  by_cases h6 : 6 < n
  · clear hc
    go_enter Tryd.func10, Tryd.ntmps10
    go_wp2
    go_ret
    exact ⟨ret_bool (goodB_long HX.out h6).symm, HB.out⟩
  · have HC : Hid (∀ j, j < n → w.cell? ⟨b, o + j, none⟩ = some (.int .i64 (xs.getD j 0))) := hc
    clear hc
    go_enter Tryd.func10, Tryd.ntmps10
    go_wp2
    go_loop [12] (fun i => ∃ k : Nat, k ≤ n ∧ i = .int .i64 k ∧ Hid (∀ j, j < k → 0 ≤ xs.getD j 0 ∧ xs.getD j 0 < 65536)) (fun i => n - (intOf i).toNat)
    case atStart => exact ⟨0, Nat.zero_le _, rfl, fun j h => absurd h (by omega)⟩
    case round =>
      obtain ⟨k, hk, rfl, hall⟩ := hrel
      by_cases hlt : k < n
      · have g1 := HC.out k hlt
        generalize hy : xs.getD k 0 = x at g1
        have H1 : Hid (xs.getD k 0 = x) := hy
        clear hy
        by_cases hneg : x < 0
        · go_wp2
          go_ret
          exact ⟨ret_bool (goodB_out HX.out hlt H1.out (Or.inl hneg)).symm, HB.out⟩
        · by_cases hbig : 65536 ≤ x
          · go_wp2
            go_ret
            exact ⟨ret_bool (goodB_out HX.out hlt H1.out (Or.inr hbig)).symm, HB.out⟩
          · go_wp2
            go_round
            case rel => exact ⟨k + 1, by omega, by go_num, fun j hj => by
              by_cases e : j = k
              · subst e; rw [H1.out]; omega
              · exact hall.out j (by omega)⟩
            case measure => simp [intOf]; omega
      · obtain rfl : k = n := by omega
        by_cases hz : k = 0
        · subst hz
          go_wp2
          go_ret
          have : xs = [] := List.length_eq_zero_iff.1 HX.out
          subst this
          exact ⟨ret_bool goodB_nil.symm, HB.out⟩
        · have g1 := HC.out (k - 1) (by omega)
          generalize hy : xs.getD (k - 1) 0 = y at g1
          have H1 : Hid (xs.getD (k - 1) 0 = y) := hy
          clear hy
          have hp : 0 < k := by omega
          have he := goodB_end HX.out (by omega) hall.out hp H1.out
          have HE : Hid (goodB xs = decide (y ≠ 0)) := he
          clear he
          have hnz : ((k : Int) == 0) = false := by simp; omega
          go_wp2
          go_ret
          exact ⟨ret_bool (by rw [HE.out, bne_dec]), HB.out⟩

theorem implGood_nil (ao : Option Addr) (c : Nat) (w : World) :
    Calls Tryd.prog 10 #[.agg #[.slice ao 0 c]] w fun e w' => e = .returned (.bool (goodB [])) ∧ Below w.heap.size w w' := by
  have HB : Hid (Below w.heap.size w (w.alloc (Obj.cells #[Value.slice ao 0 c] 25))) := (Below.refl _ _).alloc (Nat.le_refl _) _
  go_enter Tryd.func10, Tryd.ntmps10
  go_wp2
  refine wp_loop_rounds 1 ?_
  rw [rounds_succ]
  go_wp2
  go_ret
  exact ⟨ret_bool goodB_nil.symm, HB.out⟩

theorem implGood_c (ao : Option Addr) (n c : Nat) (xs : List Int) (w : World) (hx : xs.length = n) (hn : n ≤ 17592186044416) (hr : Rd w ao xs) :
    Calls Tryd.prog 10 #[.agg #[.slice ao n c]] w fun e w' => e = .returned (.bool (goodB xs)) ∧ Below w.heap.size w w' := by
  rcases hr with rfl | ⟨b, o, rfl, hc⟩
  · simp at hx; subst hx; exact implGood_nil _ _ _
  · by_cases h0 : xs = []
    · subst h0; simp at hx; subst hx; exact implGood_nil _ _ _
    · have h1 : 0 < xs.length := List.length_pos_iff.2 h0
      exact implGood_at b o n c xs w hx hn (World.block_lt_of_cell? w _ (hc 0 h1)) (by rw [← hx]; exact hc)

theorem l1In_c (x lo hi : Int) (w : World) : Calls Tryd.prog 49 #[.int .i64 x, .int .i64 lo, .int .i64 hi] w fun e w' => e = .returned (.bool (decide (lo ≤ x ∧ x ≤ hi))) ∧ w' = w := by
  by_cases h1 : lo ≤ x
  · by_cases h2 : x ≤ hi
    · go_enter Tryd.func49, Tryd.ntmps49
      go_wp2
      go_ret
      exact ⟨ret_bool (by simp [h1, h2]), rfl⟩
    · go_enter Tryd.func49, Tryd.ntmps49
      go_wp2
      go_ret
      exact ⟨ret_bool (by simp; omega), rfl⟩
  · go_enter Tryd.func49, Tryd.ntmps49
    go_wp2
    go_ret
    exact ⟨ret_bool (by simp; omega), rfl⟩

def allB (xs : List Int) (lo hi : Int) : Bool := xs.all (fun x => decide (lo ≤ x ∧ x ≤ hi))

theorem allB_out {xs : List Int} {n k : Nat} {x lo hi : Int} (hx : xs.length = n) (hk : k < n) (e : xs.getD k 0 = x) (h : ¬ (lo ≤ x ∧ x ≤ hi)) : allB xs lo hi = false := by
  have hm : x ∈ xs := by
    rw [← e]; simp only [List.getD, List.getElem?_eq_getElem (show k < xs.length by omega), Option.getD_some]; exact List.getElem_mem _
  rw [Bool.eq_false_iff]; intro g
  simp only [allB, List.all_eq_true, decide_eq_true_eq] at g
  exact h (g x hm)

theorem allB_end {xs : List Int} {n : Nat} {lo hi : Int} (hx : xs.length = n) (hall : ∀ j, j < n → lo ≤ xs.getD j 0 ∧ xs.getD j 0 ≤ hi) : allB xs lo hi = true := by
  simp only [allB, List.all_eq_true, decide_eq_true_eq]
  intro x hxm
  obtain ⟨j, hj, rfl⟩ := List.getElem_of_mem hxm
  have := hall j (by omega)
  simpa [List.getD, hj] using this

theorem l1All_at (b o n c : Nat) (lo hi : Int) (xs : List Int) (w : World) (hx : xs.length = n) (hn : n ≤ 17592186044416)
    (hc : ∀ j, j < n → w.cell? ⟨b, o + j, none⟩ = some (.int .i64 (xs.getD j 0))) :
    Calls Tryd.prog 37 #[.slice (some ⟨b, o, none⟩) n c, .int .i64 lo, .int .i64 hi] w fun e w' => e = .returned (.bool (allB xs lo hi)) ∧ w' = w := by
  have HX : Hid (xs.length = n) := hx
  have HC : Hid (∀ j, j < n → w.cell? ⟨b, o + j, none⟩ = some (.int .i64 (xs.getD j 0))) := hc
  clear hx hc
  go_enter Tryd.func37, Tryd.ntmps37
  go_wp2
  go_loop [11] (fun i => ∃ k : Nat, k ≤ n ∧ i = .int .i64 k ∧ Hid (∀ j, j < k → lo ≤ xs.getD j 0 ∧ xs.getD j 0 ≤ hi)) (fun i => n - (intOf i).toNat)
  case atStart => exact ⟨0, Nat.zero_le _, rfl, fun j h => absurd h (by omega)⟩
  case round =>
    obtain ⟨k, hk, rfl, hall⟩ := hrel
    by_cases hlt : k < n
    · have g1 := HC.out k hlt
      generalize hy : xs.getD k 0 = x at g1
      have H1 : Hid (xs.getD k 0 = x) := hy
      clear hy
      by_cases hin : lo ≤ x ∧ x ≤ hi
      · have hd : decide (lo ≤ x ∧ x ≤ hi) = true := decide_eq_true hin
        have HI : Hid (lo ≤ x ∧ x ≤ hi) := hin
        clear hin
        go_wp2_with (go_at_call 49; refine (l1In_c x lo hi _).mono ?_; rw [hd]; clear hd; rintro e w' ⟨rfl, rfl⟩)
        go_round
        case rel => exact ⟨k + 1, by omega, by go_num, fun j hj => by
          by_cases e : j = k
          · subst e; rw [H1.out]; exact HI.out
          · exact hall.out j (by omega)⟩
        case measure => simp [intOf]; omega
      · have hd : decide (lo ≤ x ∧ x ≤ hi) = false := decide_eq_false hin
        have HI : Hid (¬ (lo ≤ x ∧ x ≤ hi)) := hin
        clear hin
        go_wp2_with (go_at_call 49; refine (l1In_c x lo hi _).mono ?_; rw [hd]; clear hd; rintro e w' ⟨rfl, rfl⟩)
        go_ret
        exact ⟨ret_bool (allB_out HX.out hlt H1.out HI.out).symm, rfl⟩
    · go_wp2
      go_ret
      obtain rfl : k = n := by omega
      exact ⟨ret_bool (allB_end HX.out hall.out).symm, rfl⟩

theorem l1All_nil (ao : Option Addr) (c : Nat) (lo hi : Int) (w : World) :
    Calls Tryd.prog 37 #[.slice ao 0 c, .int .i64 lo, .int .i64 hi] w fun e w' => e = .returned (.bool (allB [] lo hi)) ∧ w' = w := by
  go_enter Tryd.func37, Tryd.ntmps37
  go_wp2
  refine wp_loop_rounds 1 ?_
  rw [rounds_succ]
  go_wp2
  go_ret
  exact ⟨rfl, rfl⟩

theorem l1All_c (ao : Option Addr) (n c : Nat) (lo hi : Int) (xs : List Int) (w : World) (hx : xs.length = n) (hn : n ≤ 17592186044416) (hr : Rd w ao xs) :
    Calls Tryd.prog 37 #[.slice ao n c, .int .i64 lo, .int .i64 hi] w fun e w' => e = .returned (.bool (allB xs lo hi)) ∧ w' = w := by
  rcases hr with rfl | ⟨b, o, rfl, hc⟩
  · simp at hx; subst hx; exact l1All_nil _ _ _ _ _
  · exact l1All_at b o n c lo hi xs w hx hn (by rw [← hx]; exact hc)

theorem goodB_all_false {xs : List Int} (h : allB xs 0 65535 = false) : goodB xs = false := by
  rw [Bool.eq_false_iff]; intro g
  have := ((goodB_iff xs).1 g).2.1
  rw [Bool.eq_false_iff] at h
  apply h
  simp only [allB, List.all_eq_true, decide_eq_true_eq]
  intro x hx
  have := this x hx
  omega

theorem allB_getD {xs : List Int} {lo hi : Int} (h : allB xs lo hi = true) : ∀ j, j < xs.length → lo ≤ xs.getD j 0 ∧ xs.getD j 0 ≤ hi := by
  simp only [allB, List.all_eq_true, decide_eq_true_eq] at h
  intro j hj
  have := h (xs[j]) (List.getElem_mem hj)
  simpa [List.getD, hj] using this

set_option maxHeartbeats 400000 in
theorem specGood_c (ao : Option Addr) (n c : Nat) (xs : List Int) (w : World) (hx : xs.length = n) (hn : n ≤ 17592186044416) (hr : Rd w ao xs) :
    Calls Tryd.prog 11 #[.agg #[.slice ao n c]] w fun e w' => e = .returned (.bool (goodB xs)) ∧ Below w.heap.size w w' := by
  have hb0 : Below w.heap.size w (w.alloc (Obj.cells #[Value.slice ao n c] 25)) := (Below.refl _ _).alloc (Nat.le_refl _) _
  have HB : Hid (Below w.heap.size w (w.alloc (Obj.cells #[Value.slice ao n c] 25))) := hb0
  have HX : Hid (xs.length = n) := hx
  have HR : Hid (Rd w ao xs) := hr
  clear hx hr hb0
  by_cases h6 : 6 < n
  · go_enter Tryd.func11, Tryd.ntmps11
    go_wp2_with fail
    go_ret
    exact ⟨ret_bool (goodB_long HX.out h6).symm, HB.out⟩
  · cases hal : allB xs 0 65535
    · have HF : Hid (goodB xs = false) := goodB_all_false hal
      go_enter Tryd.func11, Tryd.ntmps11
      go_wp2_with (go_at_call 37; refine (l1All_c ao n c 0 65535 xs _ HX.out hn (HR.out.later HB.out)).mono ?_; rw [hal]; clear hal; rintro e w' ⟨rfl, rfl⟩)
      go_ret
      exact ⟨ret_bool HF.out.symm, HB.out⟩
    · rcases HR.out with h0 | ⟨b, o, rfl, hc⟩
      · subst h0
        have hn0 : n = 0 := by have := HX.out; simpa using this.symm
        subst hn0
        go_enter Tryd.func11, Tryd.ntmps11
        go_wp2_with (go_at_call 37; refine (l1All_c ao 0 c 0 65535 [] _ HX.out hn (HR.out.later HB.out)).mono ?_; rw [hal]; clear hal; rintro e w' ⟨rfl, rfl⟩)
        go_ret
        exact ⟨ret_bool goodB_nil.symm, HB.out⟩
      · by_cases hz : n = 0
        · subst hz
          have h0 : xs = [] := List.length_eq_zero_iff.1 HX.out
          subst h0
          clear hc
          go_enter Tryd.func11, Tryd.ntmps11
          go_wp2_with (go_at_call 37; refine (l1All_c _ 0 c 0 65535 [] _ HX.out hn (HR.out.later HB.out)).mono ?_; rw [hal]; clear hal; rintro e w' ⟨rfl, rfl⟩)
          go_ret
          exact ⟨ret_bool goodB_nil.symm, HB.out⟩
        · have hp : 0 < n := by omega
          have g1 := hc (n - 1) (by rw [HX.out]; omega)
          have hbw : b < w.heap.size := World.block_lt_of_cell? w _ g1
          generalize hy : xs.getD (n - 1) 0 = y at g1
          have hall := allB_getD hal
          rw [HX.out] at hall
          have HE : Hid (goodB xs = decide (y ≠ 0)) := goodB_end HX.out (by omega) (fun j hj => by have := hall j hj; omega) hp hy
          have hnz : ((n : Int) == 0) = false := by simp; omega
          clear hc hall hy
          go_enter Tryd.func11, Tryd.ntmps11
          go_wp2_with (go_at_call 37; refine (l1All_c _ n c 0 65535 xs _ HX.out hn (HR.out.later HB.out)).mono ?_; rw [hal]; clear hal; rintro e w' ⟨rfl, rfl⟩)
          go_ret
          exact ⟨ret_bool (by rw [HE.out, bne_dec]), HB.out⟩

end Go.Proofs.YtaedplfihjfchaaDoor
