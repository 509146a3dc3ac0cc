/- Chapter 6, the specification's side: secrets, keys, votes. -/
import Derived.Test.YtobomcmjilcnaaaDoorBQ2
import Derived.Test.YtobomcmjilcnaaaDoorP6M
import Derived.Test.YtobomcmjilcnaaaDoorNumber
namespace Go.Proofs.YtobomcmjilcnaaaDoor
set_option linter.unusedVariables false
set_option maxRecDepth 1000000
set_option linter.unusedSimpArgs false
open Go.RowKit

def allB (xs : List Int) (lo hi : Int) : Bool := xs.all (fun x => decide (lo ≤ x ∧ x ≤ hi))

theorem allB_out {xs : List Int} {n k : Nat} {x lo hi : Int} (hx : xs.length = n) (hk : k < n) (e : xs.getD k 0 = x) (h : ¬ (lo ≤ x ∧ x ≤ hi)) : allB xs lo hi = false := by
  have hm : x ∈ xs := by
    rw [← e]; simp only [List.getD, List.getElem?_eq_getElem (show k < xs.length by omega), Option.getD_some]; exact List.getElem_mem _
  rw [Bool.eq_false_iff]; intro g
  simp only [allB, List.all_eq_true, decide_eq_true_eq] at g
  exact h (g x hm)

theorem allB_end {xs : List Int} {n : Nat} {lo hi : Int} (hx : xs.length = n) (hall : ∀ j, j < n → lo ≤ xs.getD j 0 ∧ xs.getD j 0 ≤ hi) : allB xs lo hi = true := by
  simp only [allB, List.all_eq_true, decide_eq_true_eq]
  intro x hxm
  obtain ⟨j, hj, rfl⟩ := List.getElem_of_mem hxm
  have := hall j (by omega)
  simpa [List.getD, hj] using this

theorem l1All_at (b o n c : Nat) (lo hi : Int) (xs : List Int) (w : World) (hx : xs.length = n) (hn : n ≤ 17592186044416)
    (hc : ∀ j, j < n → w.cell? ⟨b, o + j, none⟩ = some (.int .i64 (xs.getD j 0))) :
    Calls Tryd.prog 56 #[.slice (some ⟨b, o, none⟩) n c, .int .i64 lo, .int .i64 hi] w fun e w' => e = .returned (.bool (allB xs lo hi)) ∧ w' = w := by
  have HX : Hid (xs.length = n) := hx
  have HC : Hid (∀ j, j < n → w.cell? ⟨b, o + j, none⟩ = some (.int .i64 (xs.getD j 0))) := hc
  clear hx hc
  go_enter Tryd.func56, Tryd.ntmps56
  go_wp2
  go_loop [11] (fun i => ∃ k : Nat, k ≤ n ∧ i = .int .i64 k ∧ Hid (∀ j, j < k → lo ≤ xs.getD j 0 ∧ xs.getD j 0 ≤ hi)) (fun i => n - (intOf i).toNat)
  case atStart => exact ⟨0, Nat.zero_le _, rfl, fun j h => absurd h (by omega)⟩
  case round =>
    obtain ⟨k, hk, rfl, hall⟩ := hrel
    by_cases hlt : k < n
    · have g1 := HC.out k hlt
      generalize hy : xs.getD k 0 = x at g1
      have H1 : Hid (xs.getD k 0 = x) := hy
      clear hy
      by_cases hin : lo ≤ x ∧ x ≤ hi
      · have hd : decide (lo ≤ x ∧ x ≤ hi) = true := decide_eq_true hin
        have HI : Hid (lo ≤ x ∧ x ≤ hi) := hin
        clear hin
        go_wp2_with (go_at_call 49; refine (l1In_c x lo hi _).mono ?_; rw [hd]; clear hd; rintro e w' ⟨rfl, rfl⟩)
        go_round
        case rel => exact ⟨k + 1, by omega, by go_num, fun j hj => by
          by_cases e : j = k
          · subst e; rw [H1.out]; exact HI.out
          · exact hall.out j (by omega)⟩
        case measure => simp [intOf]; omega
      · have hd : decide (lo ≤ x ∧ x ≤ hi) = false := decide_eq_false hin
        have HI : Hid (¬ (lo ≤ x ∧ x ≤ hi)) := hin
        clear hin
        go_wp2_with (go_at_call 49; refine (l1In_c x lo hi _).mono ?_; rw [hd]; clear hd; rintro e w' ⟨rfl, rfl⟩)
        go_ret
        exact ⟨ret_bool (allB_out HX.out hlt H1.out HI.out).symm, rfl⟩
    · go_wp2
      go_ret
      obtain rfl : k = n := by omega
      exact ⟨ret_bool (allB_end HX.out hall.out).symm, rfl⟩

theorem l1All_nil (ao : Option Addr) (c : Nat) (lo hi : Int) (w : World) :
    Calls Tryd.prog 56 #[.slice ao 0 c, .int .i64 lo, .int .i64 hi] w fun e w' => e = .returned (.bool (allB [] lo hi)) ∧ w' = w := by
  go_enter Tryd.func56, Tryd.ntmps56
  go_wp2
  refine wp_loop_rounds 1 ?_
  rw [rounds_succ]
  go_wp2
  go_ret
  exact ⟨rfl, rfl⟩

theorem l1All_c (ao : Option Addr) (n c : Nat) (lo hi : Int) (xs : List Int) (w : World) (hx : xs.length = n) (hn : n ≤ 17592186044416) (hr : Rd w ao xs) :
    Calls Tryd.prog 56 #[.slice ao n c, .int .i64 lo, .int .i64 hi] w fun e w' => e = .returned (.bool (allB xs lo hi)) ∧ w' = w := by
  rcases hr with rfl | ⟨b, o, rfl, hc⟩
  · simp at hx; subst hx; exact l1All_nil _ _ _ _ _
  · exact l1All_at b o n c lo hi xs w hx hn (by rw [← hx]; exact hc)

theorem allB_getD {xs : List Int} {lo hi : Int} (h : allB xs lo hi = true) : ∀ j, j < xs.length → lo ≤ xs.getD j 0 ∧ xs.getD j 0 ≤ hi := by
  simp only [allB, List.all_eq_true, decide_eq_true_eq] at h
  intro j hj
  have := h (xs[j]) (List.getElem_mem hj)
  simpa [List.getD, hj] using this

theorem Rd.get {w : World} {ao : Option Addr} {xs : List Int} {k : Nat} (h : Rd w ao xs) (hk : k < xs.length) : ∃ b off, ao = some ⟨b, off, none⟩ ∧ w.cell? ⟨b, off + k, none⟩ = some (.int .i64 (xs.getD k 0)) := by
  rcases h with rfl | ⟨b, o, rfl, hc⟩
  · simp at hk
  · exact ⟨b, o, rfl, hc k hk⟩
theorem RdP.get {w : World} {ao : Option Addr} {xs : List (Int × Int)} {k : Nat} (h : RdP w ao xs) (hk : k < xs.length) : ∃ b off, ao = some ⟨b, off, none⟩ ∧ w.cell? ⟨b, off + k * 2, none⟩ = some (.int .i64 (xs.getD k (0, 0)).1) ∧ w.cell? ⟨b, off + k * 2 + 1, none⟩ = some (.int .i64 (xs.getD k (0, 0)).2) := by
  rcases h with rfl | ⟨b, o, rfl, hc⟩
  · simp at hk
  · exact ⟨b, o, rfl, hc k hk⟩

theorem secs_eq {xs : List Int} {n : Nat} (hx : xs.length = n) : secsB xs = (decide (1 ≤ (n : Int) ∧ (n : Int) ≤ 5) && allB xs 1 1498) := by
  unfold secsB
  rw [hx, show xs.all secB6 = allB xs 1 1498 from rfl]
  congr 1
  exact decide_eq_decide.2 (by omega)
theorem secs_all {xs : List Int} (h : secsB xs = true) : allB xs 1 1498 = true := by
  unfold secsB at h
  rw [Bool.and_eq_true] at h
  exact h.2
theorem secs_len {xs : List Int} (h : secsB xs = true) : 1 ≤ xs.length ∧ xs.length ≤ 5 := by
  unfold secsB at h
  rw [Bool.and_eq_true, decide_eq_true_eq] at h
  exact h.1

theorem l6Secrets_c (ao : Option Addr) (n c : Nat) (xs : List Int) (w : World) (hx : xs.length = n) (hn : n ≤ 17592186044416) (hr : Rd w ao xs) :
    Calls Tryd.prog 26 #[.slice ao n c] w fun e w' => e = .returned (.bool (secsB xs)) ∧ w' = w := by
  rw [secs_eq hx]
  cases hd : decide (1 ≤ (n : Int) ∧ (n : Int) ≤ 5)
  · rw [Bool.false_and]
    go_enter Tryd.func26, Tryd.ntmps26
    go_wp2_with (go_at_call 49; refine (l1In_c n 1 5 _).mono ?_; rw [hd]; clear hd; rintro e w' ⟨rfl, rfl⟩)
    go_ret
    exact ⟨rfl, rfl⟩
  · rw [Bool.true_and]
    have ha := l1All_c ao n c 1 1498 xs w hx hn hr
    generalize allB xs 1 1498 = b at ha ⊢
    have HA : Hid (Calls Tryd.prog 56 #[.slice ao n c, .int .i64 1, .int .i64 1498] w fun e w' => e = .returned (.bool b) ∧ w' = w) := ha
    clear ha hr hx
    go_enter Tryd.func26, Tryd.ntmps26
    go_wp2_with (first | (go_at_call 49; refine (l1In_c n 1 5 _).mono ?_; rw [hd]; clear hd; rintro e w' ⟨rfl, hw⟩; subst w') | (go_at_call 56; refine HA.out.mono ?_; rintro e w' ⟨rfl, hw⟩; subst w'))
    go_ret
    exact ⟨rfl, rfl⟩

theorem rootL_snoc {xs : List Int} {k : Nat} (h : k < xs.length) : prodM 1 (rootL (xs.take (k + 1))) = prodM 1 (rootL (xs.take k)) * pw 4 (xs.getD k 0).toNat % 2999 := by
  rw [take_snoc h, rootL, List.map_append, List.map_singleton, prodM_snoc]
  rfl

set_option maxHeartbeats 1000000 in
theorem l6Key_c (ao : Option Addr) (n c : Nat) (xs : List Int) (w : World) (hx : xs.length = n) (hn : n ≤ 17592186044416) (hr : Rd w ao xs) (ha : allB xs 1 1498 = true) :
    Calls Tryd.prog 28 #[.slice ao n c] w fun e w' => e = .returned (.int .i64 (keyI xs)) ∧ w' = w := by
  have HX : Hid (xs.length = n) := hx
  have HR : Hid (Rd w ao xs) := hr
  have HA : Hid (allB xs 1 1498 = true) := ha
  clear hx hr ha
  go_enter Tryd.func28, Tryd.ntmps28
  go_wp2
  go_loop [3, 8] (fun nv iv => ∃ (k : Nat) (r : Int), k ≤ n ∧ iv = .int .i64 k ∧ nv = .int .i64 r ∧ 0 ≤ r ∧ r < 2999 ∧ Hid (prodM 1 (rootL (xs.take k)) = r)) (fun _ iv => n - (intOf iv).toNat)
  case atStart => exact ⟨0, 1, Nat.zero_le _, rfl, rfl, by omega, by omega, rfl⟩
  case round =>
    obtain ⟨k, r, hk, rfl, rfl, r0, r1, HS⟩ := hrel
    by_cases hlt : k < n
    · have hkl : k < xs.length := by rw [HX.out]; exact hlt
      obtain ⟨b, o, rfl, g1⟩ := Rd.get HR.out hkl
      have hxk := allB_getD HA.out k hkl
      have H1 : Hid (prodM 1 (rootL (xs.take (k + 1))) = r * pw 4 (xs.getD k 0).toNat % 2999) := by have := rootL_snoc hkl; rw [HS.out] at this; exact this
      generalize xs.getD k 0 = x at g1 hxk H1
      obtain ⟨q, rfl⟩ : ∃ q : Nat, x = q := ⟨x.toNat, by omega⟩
      rw [Int.toNat_natCast] at H1
      have p0 := pw_lo 4 q
      have p1 := pw_hi 4 q
      have HP : Hid (∀ wx, Calls Tryd.prog 51 #[.int .i64 4, .int .i64 q] wx fun e w' => e = .returned (.int .i64 (pw 4 q)) ∧ w' = wx) := fun wx => l2Power_c 4 q wx (by omega) (by omega) (by omega)
      generalize pw 4 q = p at p0 p1 HP H1
      have hrp := prod_lt r0 r1 p0 p1
      clear hkl
      go_wp2_with (go_at_call 51; refine (HP.out _).mono ?_; rintro e w' ⟨rfl, hw⟩; subst w')
      go_round
      case rel => exact ⟨k + 1, r * p % 2999, by omega, by go_num, rfl, by omega, by omega, H1⟩
      case measure => simp [intOf]; omega
    · go_wp2
      go_ret
      obtain rfl : k = n := by omega
      exact ⟨ret_int (by rw [← HS.out, List.take_of_length_le (by rw [HX.out]; exact Nat.le_refl _)]; rfl), rfl⟩

set_option maxHeartbeats 1000000 in
theorem specKey_c (ao : Option Addr) (n c : Nat) (xs : List Int) (w : World) (hx : xs.length = n) (hn : n ≤ 17592186044416) (hr : Rd w ao xs) :
    Calls Tryd.prog 16 #[.slice ao n c] w fun e w' => e = .returned (.tuple #[.int .i64 (if secsB xs = true then keyI xs else 0), .bool (secsB xs)]) ∧ w' = w := by
  have h1 := l6Secrets_c ao n c xs w hx hn hr
  cases hb : secsB xs
  · rw [hb] at h1
    have H1 : Hid (Calls Tryd.prog 26 #[.slice ao n c] w fun e w' => e = .returned (.bool false) ∧ w' = w) := h1
    clear h1 hr hx hb
    simp only [Bool.false_eq_true, if_false]
    go_enter Tryd.func16, Tryd.ntmps16
    go_wp2_with (go_at_call 26; refine H1.out.mono ?_; rintro e w' ⟨rfl, hw⟩; subst w')
    refine bodyPost_ret (v := .tuple #[.int .i64 0, .bool false]) (by simp [results, Tryd.results16, go_sem]; try rfl) rfl ?_
    exact ⟨rfl, rfl⟩
  · rw [hb] at h1
    have h2 := l6Key_c ao n c xs w hx hn hr (secs_all hb)
    simp only [if_true]
    generalize keyI xs = y at h2 ⊢
    have H1 : Hid (Calls Tryd.prog 26 #[.slice ao n c] w fun e w' => e = .returned (.bool true) ∧ w' = w) := h1
    have H2 : Hid (Calls Tryd.prog 28 #[.slice ao n c] w fun e w' => e = .returned (.int .i64 y) ∧ w' = w) := h2
    clear h1 h2 hr hx hb
    go_enter Tryd.func16, Tryd.ntmps16
    go_wp2_with (first | (go_at_call 26; refine H1.out.mono ?_; rintro e w' ⟨rfl, hw⟩; subst w') | (go_at_call 28; refine H2.out.mono ?_; rintro e w' ⟨rfl, hw⟩; subst w'))
    refine bodyPost_ret (v := .tuple #[.int .i64 y, .bool true]) (by simp [results, Tryd.results16, go_sem]; try rfl) rfl ?_
    exact ⟨rfl, rfl⟩

/-- What a vote answers. -/
def voteX (p n c : Int) : Int := if voteB p n c = true then (voteP p n c).1 else 0
def voteY (p n c : Int) : Int := if voteB p n c = true then (voteP p n c).2 else 0
theorem again_vote (p n : Int) (k : Nat) : againB p n 1 (pw 4 k) = (memB p && secB6 n) := by
  unfold againB sealB secB secB6
  rw [memB_one, mem_pw4]
  simp

set_option maxHeartbeats 1000000 in
theorem specVote_c (p n c : Int) (w : World) : Calls Tryd.prog 18 #[.int .i64 p, .int .i64 n, .int .i64 c] w fun e w' => e = .returned (.tuple #[.agg #[.int .i64 (voteX p n c), .int .i64 (voteY p n c)], .bool (voteB p n c)]) ∧ Below w.heap.size w w' := by
  cases hd : decide (0 ≤ c ∧ c ≤ 3)
  · have hb : voteB p n c = false := by simp only [voteB, hd, Bool.false_and]
    have hX : voteX p n c = 0 := by simp only [voteX, hb, Bool.false_eq_true, if_false]
    have hY : voteY p n c = 0 := by simp only [voteY, hb, Bool.false_eq_true, if_false]
    rw [hb, hX, hY]
    clear hb hX hY
    go_enter Tryd.func18, Tryd.ntmps18
    go_wp2_with (go_at_call 49; refine (l1In_c c 0 3 _).mono ?_; rw [hd]; clear hd; rintro e w' ⟨rfl, hw⟩; subst w')
    refine bodyPost_ret (v := .tuple #[.agg #[.int .i64 0, .int .i64 0], .bool false]) (by simp [results, Tryd.results18, go_sem]; try rfl) rfl ?_
    refine ⟨rfl, ?_⟩
    first | exact below_one _ _ | exact ((below_one _ _).setCell (by simp) _).setCell (by simp) _
  · have hc := of_decide_eq_true hd
    obtain ⟨q, rfl⟩ : ∃ q : Nat, c = q := ⟨c.toNat, by omega⟩
    have hs := fun wx => specNumber_c p n (pw 4 q) wx
    have hB : againB p n 1 (pw 4 q) = voteB p n q := by rw [again_vote]; simp only [voteB, hd, Bool.true_and]
    have hX : (if againB p n 1 (pw 4 q) = true then 1 * pw 4 n.toNat % 2999 else 0) = voteX p n q := by rw [hB]; rfl
    have hY : (if againB p n 1 (pw 4 q) = true then pw 4 q * pw p n.toNat % 2999 else 0) = voteY p n q := by rw [hB]; simp only [voteY, voteP, Int.toNat_natCast, mulM]
    rw [hX, hY, hB] at hs
    have l1 := pw_lo 4 q
    have l2 := pw_hi 4 q
    have HP : Hid (∀ wx, Calls Tryd.prog 51 #[.int .i64 4, .int .i64 q] wx fun e w' => e = .returned (.int .i64 (pw 4 q)) ∧ w' = wx) := fun wx => l2Power_c 4 q wx (by omega) (by omega) (by omega)
    generalize voteX p n q = x at hs ⊢
    generalize voteY p n q = y at hs ⊢
    generalize voteB p n q = b at hs ⊢
    clear hX hY hB
    generalize pw 4 q = m at hs HP l1 l2
    have HS : Hid (∀ wx, Calls Tryd.prog 50 #[.int .i64 p, .int .i64 n, .int .i64 m] wx fun e w' => e = .returned (.tuple #[.agg #[.int .i64 x, .int .i64 y], .bool b]) ∧ Below wx.heap.size wx w') := hs
    clear hs
    go_enter Tryd.func18, Tryd.ntmps18
    go_wp2_with (first | (go_at_call 49; refine (l1In_c q 0 3 _).mono ?_; rw [hd]; clear hd; rintro e w' ⟨rfl, hw⟩; subst w') | (go_at_call 51; refine (HP.out _).mono ?_; rintro e w' ⟨rfl, hw⟩; subst w') | (go_at_call 50; refine (HS.out _).mono ?_; rintro e w1 ⟨rfl, hb⟩; have HB1 : Hid (Below w.heap.size w w1) := (below_one w _).trans (hb.mono (by simp)); have c0 := (c2_new w 0 0 31 w.heap.size rfl).keep hb; obtain ⟨c1, c2, c3, c4⟩ := c0; clear hb))
    refine bodyPost_ret (v := .tuple #[.agg #[.int .i64 x, .int .i64 y], .bool b]) (by simp [results, Tryd.results18, go_sem, c1, c2]; try rfl) rfl ?_
    exact ⟨rfl, (HB1.out.setCell (p := ⟨w.heap.size, 0, none⟩) (Nat.le_refl _) _).setCell (p := ⟨w.heap.size, 1, none⟩) (Nat.le_refl _) _⟩

end Go.Proofs.YtobomcmjilcnaaaDoor
