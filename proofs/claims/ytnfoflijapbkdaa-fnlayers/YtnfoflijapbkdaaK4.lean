/- Keys: how both sides test them; the specification's mix and its way back. -/
import Derived.Test.YtnfoflijapbkdaaR4
namespace Go.Proofs.Ytnfoflijapbkdaa
set_option linter.unusedVariables false
set_option maxRecDepth 1000000
set_option linter.unusedSimpArgs false
open Go.RowKit

def inB (lo hi x : Int) : Bool := decide (lo ≤ x ∧ x ≤ hi)
def allIn (lo hi : Int) (xs : List Int) : Bool := xs.all (inB lo hi)
/-- Keys that are taken. -/
def keysB (xs : List Int) : Bool := decide (xs.length ≤ 8) && allIn 0 65535 xs

theorem drop_getD {xs : List Int} {n k : Nat} (hx : xs.length = n) (h : k < n) : xs.drop k = xs.getD k 0 :: xs.drop (k + 1) := by
  rw [List.drop_eq_getElem_cons (by omega)]
  simp [List.getD, show k < xs.length by omega]
theorem allIn_step {lo hi : Int} {xs : List Int} {n k : Nat} {x : Int} {G : Bool} (hx : xs.length = n) (h : k < n) (e : xs.getD k 0 = x) (hg : G = allIn lo hi (xs.drop k)) : G = (inB lo hi x && allIn lo hi (xs.drop (k + 1))) := by
  rw [hg, drop_getD hx h, e]; rfl
theorem allIn_end {lo hi : Int} {xs : List Int} {n k : Nat} {G : Bool} (hx : xs.length = n) (h : ¬ k < n) (hg : G = allIn lo hi (xs.drop k)) : G = true := by
  rw [hg, List.drop_of_length_le (by omega)]; rfl
theorem Rd.at {w : World} {ao : Option Addr} {xs : List Int} {n : Nat} (h : Rd w ao xs) (hx : xs.length = n) (h0 : 0 < n) : ∃ b o, ao = some ⟨b, o, none⟩ ∧ ∀ j, j < n → w.cell? ⟨b, o + j, none⟩ = some (.int .i64 (xs.getD j 0)) := by
  rcases h with rfl | ⟨b, o, rfl, hc⟩
  · simp at hx; omega
  · exact ⟨b, o, rfl, by rw [← hx]; exact hc⟩

set_option maxHeartbeats 400000 in
theorem l1All_at (b o n c : Nat) (lo hi : Int) (xs : List Int) (w : World) (hx : xs.length = n) (hn : n ≤ 17592186044416)
    (hc : ∀ j, j < n → w.cell? ⟨b, o + j, none⟩ = some (.int .i64 (xs.getD j 0))) :
    Calls Try.prog 51 #[.slice (some ⟨b, o, none⟩) n c, .int .i64 lo, .int .i64 hi] w fun e w' => e = .returned (.bool (allIn lo hi xs)) ∧ w' = w := by
  have HX : Hid (xs.length = n) := hx
  have HC : Hid (∀ j, j < n → w.cell? ⟨b, o + j, none⟩ = some (.int .i64 (xs.getD j 0))) := hc
  obtain ⟨G, hG⟩ : ∃ G, G = allIn lo hi xs := ⟨_, rfl⟩
  rw [← hG]
  have HG : Hid (G = allIn lo hi (xs.drop 0)) := by show G = _; simpa using hG
  clear hx hc hG
  go_enter Try.func51, Try.ntmps51
  go_wp2
  go_loop [11] (fun i => ∃ (k : Nat), k ≤ n ∧ i = .int .i64 k ∧ Hid (G = allIn lo hi (xs.drop k))) (fun i => n - (intOf i).toNat)
  case atStart => exact ⟨0, Nat.zero_le _, rfl, HG⟩
  case round =>
    clear HG
    obtain ⟨k, hk, rfl, hG⟩ := hrel
    by_cases hlt : k < n
    · have g1 := HC.out k hlt
      generalize hy : xs.getD k 0 = x at g1
      have HS : Hid (G = (inB lo hi x && allIn lo hi (xs.drop (k + 1)))) := allIn_step HX.out hlt hy hG.out
      clear hy hG
      have hi' := l1In_c x lo hi
      by_cases hin : lo ≤ x ∧ x ≤ hi
      · rw [decide_eq_true hin] at hi'
        have HN : Hid (G = allIn lo hi (xs.drop (k + 1))) := by
          show G = _
          have := HS.out
          rw [inB, decide_eq_true hin] at this
          simpa using this
        clear hin
        go_wp2_with (go_at_call 50; refine (hi' _).mono ?_; clear hi'; rintro e w' ⟨rfl, rfl⟩)
        go_round
        case rel => exact ⟨k + 1, by omega, by go_num, HN⟩
        case measure => simp [intOf]; omega
      · rw [decide_eq_false hin] at hi'
        have hG : G = false := by rw [HS.out, inB, decide_eq_false hin]; rfl
        subst hG
        clear hin
        go_wp2_with (go_at_call 50; refine (hi' _).mono ?_; clear hi'; rintro e w' ⟨rfl, rfl⟩)
        go_ret
        exact ⟨rfl, rfl⟩
    · have hG' : G = true := allIn_end HX.out hlt hG.out
      clear hG
      subst hG'
      go_wp2
      go_ret
      exact ⟨rfl, rfl⟩

theorem l1All_nil (ao : Option Addr) (c : Nat) (lo hi : Int) (w : World) :
    Calls Try.prog 51 #[.slice ao 0 c, .int .i64 lo, .int .i64 hi] w fun e w' => e = .returned (.bool true) ∧ w' = w := by
  go_enter Try.func51, Try.ntmps51
  go_wp2
  refine wp_loop_rounds 1 ?_
  rw [rounds_succ]
  go_wp2
  go_ret
  exact ⟨rfl, rfl⟩

theorem l1All_c (ao : Option Addr) (n c : Nat) (lo hi : Int) (xs : List Int) (w : World) (hx : xs.length = n) (hn : n ≤ 17592186044416) (hr : Rd w ao xs) :
    Calls Try.prog 51 #[.slice ao n c, .int .i64 lo, .int .i64 hi] w fun e w' => e = .returned (.bool (allIn lo hi xs)) ∧ w' = w := by
  rcases hr with rfl | ⟨b, o, rfl, hc⟩
  · simp at hx; subst hx; exact l1All_nil _ _ _ _ _
  · exact l1All_at b o n c lo hi xs w hx hn (by rw [← hx]; exact hc)

theorem l4Keys_c (ao : Option Addr) (n c : Nat) (xs : List Int) (w : World) (hx : xs.length = n) (hn : n ≤ 17592186044416) (hr : Rd w ao xs) :
    Calls Try.prog 85 #[.slice ao n c] w fun e w' => e = .returned (.bool (keysB xs)) ∧ w' = w := by
  unfold keysB
  rw [hx]
  by_cases h : n ≤ 8
  · rw [decide_eq_true h, Bool.true_and]
    have hs := fun wx (h : wx = w) => l1All_c ao n c 0 65535 xs wx hx hn (by rw [h]; exact hr)
    generalize allIn 0 65535 xs = G at hs
    have h8 : (n : Int) ≤ 8 := by omega
    go_enter Try.func85, Try.ntmps85
    go_wp2_with (go_at_call 51; refine (hs _ rfl).mono ?_; rintro e w' ⟨rfl, rfl⟩)
    go_ret
    exact ⟨rfl, rfl⟩
  · rw [decide_eq_false h, Bool.false_and]
    have h8 : (8 : Int) < n := by omega
    go_enter Try.func85, Try.ntmps85
    go_wp2
    go_ret
    exact ⟨rfl, rfl⟩

set_option maxHeartbeats 400000 in
theorem areKeys_at (b o n c : Nat) (xs : List Int) (w : World) (hx : xs.length = n) (hn : n ≤ 8)
    (hc : ∀ j, j < n → w.cell? ⟨b, o + j, none⟩ = some (.int .i64 (xs.getD j 0))) :
    Calls Try.prog 76 #[.slice (some ⟨b, o, none⟩) n c] w fun e w' => e = .returned (.bool (allIn 0 65535 xs)) ∧ w' = w := by
  have HX : Hid (xs.length = n) := hx
  have HC : Hid (∀ j, j < n → w.cell? ⟨b, o + j, none⟩ = some (.int .i64 (xs.getD j 0))) := hc
  obtain ⟨G, hG⟩ : ∃ G, G = allIn 0 65535 xs := ⟨_, rfl⟩
  rw [← hG]
  have HG : Hid (G = allIn 0 65535 (xs.drop 0)) := by show G = _; simpa using hG
  have h8 : (n : Int) ≤ 8 := by omega
  clear hx hc hG
  go_enter Try.func76, Try.ntmps76
  go_wp2
  go_loop [10] (fun i => ∃ (k : Nat), k ≤ n ∧ i = .int .i64 k ∧ Hid (G = allIn 0 65535 (xs.drop k))) (fun i => n - (intOf i).toNat)
  case atStart => exact ⟨0, Nat.zero_le _, rfl, HG⟩
  case round =>
    clear HG
    obtain ⟨k, hk, rfl, hG⟩ := hrel
    by_cases hlt : k < n
    · have g1 := HC.out k hlt
      generalize hy : xs.getD k 0 = x at g1
      have HS : Hid (G = (inB 0 65535 x && allIn 0 65535 (xs.drop (k + 1)))) := allIn_step HX.out hlt hy hG.out
      clear hy hG
      have hi' := isBlock_c x
      by_cases hin : blockB x = true
      · rw [hin] at hi'
        have HN : Hid (G = allIn 0 65535 (xs.drop (k + 1))) := by
          show G = _
          have := HS.out
          rw [show inB 0 65535 x = true from hin] at this
          simpa using this
        clear hin
        go_wp2_with (go_at_call 46; refine (hi' _).mono ?_; clear hi'; rintro e w' ⟨rfl, rfl⟩)
        go_round
        case rel => exact ⟨k + 1, by omega, by go_num, HN⟩
        case measure => simp [intOf]; omega
      · rw [Bool.eq_false_iff.2 hin] at hi'
        have hG : G = false := by rw [HS.out, show inB 0 65535 x = false from Bool.eq_false_iff.2 hin]; rfl
        subst hG
        clear hin
        go_wp2_with (go_at_call 46; refine (hi' _).mono ?_; clear hi'; rintro e w' ⟨rfl, rfl⟩)
        go_ret
        exact ⟨rfl, rfl⟩
    · have hG' : G = true := allIn_end HX.out hlt hG.out
      clear hG
      subst hG'
      go_wp2
      go_ret
      exact ⟨rfl, rfl⟩

theorem areKeys_nil (ao : Option Addr) (c : Nat) (w : World) :
    Calls Try.prog 76 #[.slice ao 0 c] w fun e w' => e = .returned (.bool true) ∧ w' = w := by
  go_enter Try.func76, Try.ntmps76
  go_wp2
  refine wp_loop_rounds 1 ?_
  rw [rounds_succ]
  go_wp2
  go_ret
  exact ⟨rfl, rfl⟩

theorem areKeys_c (ao : Option Addr) (n c : Nat) (xs : List Int) (w : World) (hx : xs.length = n) (hn : n ≤ 17592186044416) (hr : Rd w ao xs) :
    Calls Try.prog 76 #[.slice ao n c] w fun e w' => e = .returned (.bool (keysB xs)) ∧ w' = w := by
  unfold keysB
  rw [hx]
  by_cases h : n ≤ 8
  · rw [decide_eq_true h, Bool.true_and]
    rcases hr with rfl | ⟨b, o, rfl, hc⟩
    · simp at hx; subst hx; exact areKeys_nil _ _ _
    · exact areKeys_at b o n c xs w hx h (by rw [← hx]; exact hc)
  · rw [decide_eq_false h, Bool.false_and]
    have h8 : (8 : Int) < n := by omega
    go_enter Try.func76, Try.ntmps76
    go_wp2
    go_ret
    exact ⟨rfl, rfl⟩

/-- Keys as plain numbers. -/
def nums (xs : List Int) : List Nat := xs.map Int.toNat
theorem nums_length (xs : List Int) : (nums xs).length = xs.length := by simp [nums]
theorem keys_at {xs : List Int} (h : allIn 0 65535 xs = true) {j : Nat} (hj : j < xs.length) : ∃ k : Nat, xs.getD j 0 = (k : Int) ∧ (nums xs).getD j 0 = k ∧ k < 65536 := by
  have hm : xs[j] ∈ xs := List.getElem_mem hj
  have h1 := List.all_eq_true.1 h _ hm
  simp only [inB, decide_eq_true_eq] at h1
  refine ⟨xs[j].toNat, ?_, ?_, by omega⟩
  · simp only [List.getD, List.getElem?_eq_getElem hj, Option.getD_some]; omega
  · simp [nums, List.getD, hj]
theorem dropN_getD {ks : List Nat} {k : Nat} (h : k < ks.length) : ks.drop k = ks.getD k 0 :: ks.drop (k + 1) := by
  rw [List.drop_eq_getElem_cons h]
  simp [List.getD, h]
theorem keysB_parts {xs : List Int} (h : keysB xs = true) : xs.length ≤ 8 ∧ allIn 0 65535 xs = true := by
  simpa [keysB] using h

end Go.Proofs.Ytnfoflijapbkdaa
