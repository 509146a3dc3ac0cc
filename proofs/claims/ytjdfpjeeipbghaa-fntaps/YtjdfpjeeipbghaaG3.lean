/- Taps: what 'good' says of them; the contracts of GoodTaps, the program's and the specification's. -/
import Derived.Test.YtjdfpjeeipbghaaB3B
namespace Go.Proofs.Ytjdfpjeeipbghaa
set_option linter.unusedVariables false
set_option linter.unusedSimpArgs false
open Go.RowKit

def goodT (last : Int) : List Int → Bool
  | [] => true
  | t :: r => decide (last < t ∧ t ≤ 12) && goodT t r

theorem drop_getD {xs : List Int} {n k : Nat} (hx : xs.length = n) (h : k < n) : xs.drop k = xs.getD k 0 :: xs.drop (k + 1) := by
  rw [List.drop_eq_getElem_cons (by omega)]
  simp [List.getD, show k < xs.length by omega]

theorem goodT_step {xs : List Int} {n k : Nat} {l t : Int} {G : Bool} (hx : xs.length = n) (h : k < n) (e : xs.getD k 0 = t) (hg : G = goodT l (xs.drop k)) : G = (decide (l < t ∧ t ≤ 12) && goodT t (xs.drop (k + 1))) := by
  rw [hg, drop_getD hx h, e]; rfl

theorem goodT_end {xs : List Int} {n k : Nat} {l : Int} {G : Bool} (hx : xs.length = n) (h : ¬ k < n) (hg : G = goodT l (xs.drop k)) : G = true := by
  rw [hg, List.drop_of_length_le (by omega)]; rfl

set_option maxHeartbeats 400000 in
theorem implGoodT_at (b o n c : Nat) (xs : List Int) (w : World) (hx : xs.length = n) (hn : n ≤ 17592186044416)
    (hc : ∀ j, j < n → w.cell? ⟨b, o + j, none⟩ = some (.int .i64 (xs.getD j 0))) :
    Calls Try.prog 22 #[.slice (some ⟨b, o, none⟩) n c] w fun e w' => e = .returned (.bool (goodT 0 xs)) ∧ w' = w := by
  have HX : Hid (xs.length = n) := hx
  have HC : Hid (∀ j, j < n → w.cell? ⟨b, o + j, none⟩ = some (.int .i64 (xs.getD j 0))) := hc
  obtain ⟨G, hG⟩ : ∃ G, G = goodT 0 xs := ⟨_, rfl⟩
  rw [← hG]
  have HG : Hid (G = goodT 0 (xs.drop 0)) := by show G = _; simpa using hG
  clear hx hc hG
  go_enter Try.func22, Try.ntmps22
  go_wp2
  go_loop [3, 8] (fun la i => ∃ (k : Nat) (l : Int), k ≤ n ∧ i = .int .i64 k ∧ la = .int .i64 l ∧ Hid (G = goodT l (xs.drop k))) (fun _ i => n - (intOf i).toNat)
  case atStart => exact ⟨0, 0, Nat.zero_le _, rfl, rfl, HG⟩
  case round =>
    clear HG
    obtain ⟨k, l, hk, rfl, rfl, hG⟩ := hrel
    by_cases hlt : k < n
    · have g1 := HC.out k hlt
      generalize hy : xs.getD k 0 = x at g1
      have HS : Hid (G = (decide (l < x ∧ x ≤ 12) && goodT x (xs.drop (k + 1)))) := goodT_step HX.out hlt hy hG.out
      clear hy hG
      by_cases h1 : l < x
      · by_cases h2 : x ≤ 12
        · go_wp2
          go_round
          case rel => exact ⟨k + 1, x, by omega, by go_num, rfl, by show G = _; have := HS.out; rw [decide_eq_true ⟨h1, h2⟩] at this; simpa using this⟩
          case measure => simp [intOf]; omega
        · have hG : G = false := by rw [HS.out, decide_eq_false (by omega)]; rfl
          subst hG
          go_wp2
          go_ret
          exact ⟨rfl, rfl⟩
      · have hG : G = false := by rw [HS.out, decide_eq_false (by omega)]; rfl
        subst hG
        go_wp2
        go_ret
        exact ⟨rfl, rfl⟩
    · have hG' : G = true := goodT_end HX.out hlt hG.out
      clear hG
      subst hG'
      go_wp2
      go_ret
      exact ⟨rfl, rfl⟩

theorem implGoodT_nil (ao : Option Addr) (c : Nat) (w : World) :
    Calls Try.prog 22 #[.slice ao 0 c] w fun e w' => e = .returned (.bool true) ∧ w' = w := by
  go_enter Try.func22, Try.ntmps22
  go_wp2
  refine wp_loop_rounds 1 ?_
  rw [rounds_succ]
  go_wp2
  go_ret
  exact ⟨rfl, rfl⟩

theorem implGoodT_c (ao : Option Addr) (n c : Nat) (xs : List Int) (w : World) (hx : xs.length = n) (hn : n ≤ 17592186044416) (hr : Rd w ao xs) :
    Calls Try.prog 22 #[.slice ao n c] w fun e w' => e = .returned (.bool (goodT 0 xs)) ∧ w' = w := by
  rcases hr with rfl | ⟨b, o, rfl, hc⟩
  · simp at hx; subst hx; exact implGoodT_nil _ _ _
  · exact implGoodT_at b o n c xs w hx hn (by rw [← hx]; exact hc)

theorem l1In_c (x lo hi : Int) (w : World) :
    Calls Try.prog 62 #[.int .i64 x, .int .i64 lo, .int .i64 hi] w fun e w' => e = .returned (.bool (decide (lo ≤ x ∧ x ≤ hi))) ∧ w' = w := by
  by_cases h1 : lo ≤ x
  · by_cases h2 : x ≤ hi
    · rw [decide_eq_true ⟨h1, h2⟩]
      go_enter Try.func62, Try.ntmps62
      go_wp2
      go_ret
      exact ⟨rfl, rfl⟩
    · rw [decide_eq_false (by omega)]
      go_enter Try.func62, Try.ntmps62
      go_wp2
      go_ret
      exact ⟨rfl, rfl⟩
  · rw [decide_eq_false (by omega)]
    go_enter Try.func62, Try.ntmps62
    go_wp2
    go_ret
    exact ⟨rfl, rfl⟩

set_option maxHeartbeats 800000 in
theorem l1Rising_at (b o n c : Nat) (xs : List Int) (w : World) (hx : xs.length = n) (hn : n ≤ 17592186044416)
    (hc : ∀ j, j < n → w.cell? ⟨b, o + j, none⟩ = some (.int .i64 (xs.getD j 0))) :
    Calls Try.prog 63 #[.slice (some ⟨b, o, none⟩) n c, .int .i64 1, .int .i64 12] w fun e w' => e = .returned (.bool (goodT 0 xs)) ∧ w' = w := by
  have HX : Hid (xs.length = n) := hx
  have HC : Hid (∀ j, j < n → w.cell? ⟨b, o + j, none⟩ = some (.int .i64 (xs.getD j 0))) := hc
  obtain ⟨G, hG⟩ : ∃ G, G = goodT 0 xs := ⟨_, rfl⟩
  rw [← hG]
  have HG : Hid (G = goodT 0 (xs.drop 0)) := by show G = _; simpa using hG
  clear hx hc hG
  go_enter Try.func63, Try.ntmps63
  go_wp2
  go_loop [11] (fun i => ∃ (k : Nat) (l : Int), k ≤ n ∧ i = .int .i64 k ∧ 0 ≤ l ∧ Hid (k = 0 → l = 0) ∧ Hid (0 < k → l = xs.getD (k - 1) 0) ∧ Hid (G = goodT l (xs.drop k))) (fun i => n - (intOf i).toNat)
  case atStart => exact ⟨0, 0, Nat.zero_le _, rfl, by omega, fun _ => rfl, fun h => absurd h (by omega), HG⟩
  case round =>
    clear HG
    obtain ⟨k, l, hk, rfl, hl, h0, hp, hG⟩ := hrel
    by_cases hlt : k < n
    · have g1 := HC.out k hlt
      generalize hy : xs.getD k 0 = x at g1
      have HY : Hid (xs.getD k 0 = x) := hy
      have HS : Hid (G = (decide (l < x ∧ x ≤ 12) && goodT x (xs.drop (k + 1)))) := goodT_step HX.out hlt hy hG.out
      clear hy hG
      by_cases hin : 1 ≤ x ∧ x ≤ 12
      · have hd : decide (1 ≤ x ∧ x ≤ 12) = true := decide_eq_true hin
        by_cases hk0 : k = 0
        · have hl0 := h0.out hk0
          have k0 : ¬ (0 : Int) < k := by omega
          clear hk0 h0
          have HN : Hid (G = goodT x (xs.drop (k + 1))) := by
            show G = _
            have := HS.out
            rw [decide_eq_true (by omega)] at this
            simpa using this
          go_wp2_with (go_at_call 62; refine (l1In_c x 1 12 _).mono ?_; rw [hd]; clear hd; rintro e w' ⟨rfl, rfl⟩)
          go_round
          case rel => exact ⟨k + 1, x, by omega, by go_num, by omega, fun h => absurd h (by omega), fun _ => HY.out.symm, HN⟩
          case measure => simp [intOf]; omega
        · have hle := hp.out (by omega)
          have g2 := HC.out (k - 1) (by omega)
          rw [← hle] at g2
          have k0 : (0 : Int) < k := by omega
          have k1 : (0 : Int) ≤ (k : Int) - 1 := by omega
          have k2 : (k : Int) - 1 < n := by omega
          have e1 : ((k : Int) - 1).toNat = k - 1 := by omega
          have HHP : Hid (0 < k → l = xs.getD (k - 1) 0) := hp
          clear hle hp h0
          by_cases hlx : l < x
          · have HN : Hid (G = goodT x (xs.drop (k + 1))) := by
              show G = _
              have := HS.out
              rw [decide_eq_true (by omega)] at this
              simpa using this
            go_wp2_with (go_at_call 62; refine (l1In_c x 1 12 _).mono ?_; rw [hd]; clear hd; rintro e w' ⟨rfl, rfl⟩)
            go_round
            case rel => exact ⟨k + 1, x, by omega, by go_num, by omega, fun h => absurd h (by omega), fun _ => HY.out.symm, HN⟩
            case measure => simp [intOf]; omega
          · have hG : G = false := by rw [HS.out, decide_eq_false (by omega)]; rfl
            subst hG
            go_wp2_with (go_at_call 62; refine (l1In_c x 1 12 _).mono ?_; rw [hd]; clear hd; rintro e w' ⟨rfl, rfl⟩)
            go_ret
            exact ⟨rfl, rfl⟩
      · have hd : decide (1 ≤ x ∧ x ≤ 12) = false := decide_eq_false hin
        have hG : G = false := by rw [HS.out, decide_eq_false (by omega)]; rfl
        subst hG
        clear hin
        go_wp2_with (go_at_call 62; refine (l1In_c x 1 12 _).mono ?_; rw [hd]; clear hd; rintro e w' ⟨rfl, rfl⟩)
        go_ret
        exact ⟨rfl, rfl⟩
    · have hG' : G = true := goodT_end HX.out hlt hG.out
      clear hG
      subst hG'
      go_wp2
      go_ret
      exact ⟨rfl, rfl⟩

theorem l1Rising_nil (ao : Option Addr) (c : Nat) (w : World) :
    Calls Try.prog 63 #[.slice ao 0 c, .int .i64 1, .int .i64 12] w fun e w' => e = .returned (.bool true) ∧ w' = w := by
  go_enter Try.func63, Try.ntmps63
  go_wp2
  refine wp_loop_rounds 1 ?_
  rw [rounds_succ]
  go_wp2
  go_ret
  exact ⟨rfl, rfl⟩

theorem l1Rising_c (ao : Option Addr) (n c : Nat) (xs : List Int) (w : World) (hx : xs.length = n) (hn : n ≤ 17592186044416) (hr : Rd w ao xs) :
    Calls Try.prog 63 #[.slice ao n c, .int .i64 1, .int .i64 12] w fun e w' => e = .returned (.bool (goodT 0 xs)) ∧ w' = w := by
  rcases hr with rfl | ⟨b, o, rfl, hc⟩
  · simp at hx; subst hx; exact l1Rising_nil _ _ _
  · exact l1Rising_at b o n c xs w hx hn (by rw [← hx]; exact hc)

theorem specGoodT_c (ao : Option Addr) (n c : Nat) (xs : List Int) (w : World) (hx : xs.length = n) (hn : n ≤ 17592186044416) (hr : Rd w ao xs) :
    Calls Try.prog 23 #[.slice ao n c] w fun e w' => e = .returned (.bool (goodT 0 xs)) ∧ w' = w := by
  have hs := fun wx (h : wx = w) => l1Rising_c ao n c xs wx hx hn (by rw [h]; exact hr)
  generalize goodT 0 xs = G at hs
  go_enter Try.func23, Try.ntmps23
  go_wp2_with (go_at_call 63; refine (hs _ rfl).mono ?_; rintro e w' ⟨rfl, rfl⟩)
  go_ret
  exact ⟨rfl, rfl⟩

end Go.Proofs.Ytjdfpjeeipbghaa
