/- Orders: what both sides ask of a list, number by number. -/
import Derived.Test.YtlepejafednlfaaOO4
import Derived.Test.YtlepejafednlfaaK4
namespace Go.Proofs.Ytlepejafednlfaa
set_option linter.unusedVariables false
set_option maxRecDepth 1000000
set_option linter.unusedSimpArgs false
open Go.RowKit

theorem Own.cap {w : World} {base n c : Nat} {ao : Option Addr} {xs : List Int} (h : Own w base (.slice ao n c) xs) : n ≤ c ∧ c ≤ maxLen := by
  rcases h.form with ⟨h1, _⟩ | ⟨g, cap, h1, _, _, h2, h3⟩
  · simp only [Value.slice.injEq] at h1
    obtain ⟨_, rfl, rfl⟩ := h1
    exact ⟨Nat.le_refl _, Nat.zero_le _⟩
  · simp only [Value.slice.injEq] at h1
    obtain ⟨_, rfl, rfl⟩ := h1
    exact ⟨h2, h3⟩

def hasB (x : Int) (xs : List Int) : Bool := xs.contains x
theorem hasB_cons (x y : Int) (r : List Int) : hasB x (y :: r) = ((y == x) || hasB x r) := by
  unfold hasB
  rw [List.contains_cons]
  rw [show (x == y) = (y == x) from Bool.eq_iff_iff.2 (by rw [beq_iff_eq, beq_iff_eq]; exact eq_comm)]
theorem hasB_step {xs : List Int} {n k : Nat} {x y : Int} {G : Bool} (hx : xs.length = n) (h : k < n) (e : xs.getD k 0 = y) (hg : G = hasB x (xs.drop k)) : G = ((y == x) || hasB x (xs.drop (k + 1))) := by
  rw [hg, drop_getD hx h, e, hasB_cons]
theorem hasB_end {xs : List Int} {n k : Nat} {x : Int} {G : Bool} (hx : xs.length = n) (h : ¬ k < n) (hg : G = hasB x (xs.drop k)) : G = false := by
  rw [hg, List.drop_of_length_le (by omega)]; rfl

set_option maxHeartbeats 400000 in
theorem l1Has_at (b o n c : Nat) (x : Int) (xs : List Int) (w : World) (hx : xs.length = n) (hn : n ≤ 17592186044416)
    (hc : ∀ j, j < n → w.cell? ⟨b, o + j, none⟩ = some (.int .i64 (xs.getD j 0))) :
    Calls Try.prog 96 #[.slice (some ⟨b, o, none⟩) n c, .int .i64 x] w fun e w' => e = .returned (.bool (hasB x xs)) ∧ w' = w := by
  have HX : Hid (xs.length = n) := hx
  have HC : Hid (∀ j, j < n → w.cell? ⟨b, o + j, none⟩ = some (.int .i64 (xs.getD j 0))) := hc
  obtain ⟨G, hG⟩ : ∃ G, G = hasB x xs := ⟨_, rfl⟩
  rw [← hG]
  have HG : Hid (G = hasB x (xs.drop 0)) := by show G = _; simpa using hG
  clear hx hc hG
  go_enter Try.func96, Try.ntmps96
  go_wp2
  go_loop [9] (fun i => ∃ (k : Nat), k ≤ n ∧ i = .int .i64 k ∧ Hid (G = hasB x (xs.drop k))) (fun i => n - (intOf i).toNat)
  case atStart => exact ⟨0, Nat.zero_le _, rfl, HG⟩
  case round =>
    clear HG
    obtain ⟨k, hk, rfl, hG⟩ := hrel
    by_cases hlt : k < n
    · have g1 := HC.out k hlt
      generalize hy : xs.getD k 0 = y at g1
      have HS : Hid (G = ((y == x) || hasB x (xs.drop (k + 1)))) := hasB_step HX.out hlt hy hG.out
      clear hy hG
      by_cases hin : y = x
      · have hG : G = true := by rw [HS.out, hin]; simp
        have hb : (y == x) = true := by simpa using hin
        subst hG
        clear hin
        go_wp2
        go_ret
        exact ⟨rfl, rfl⟩
      · have hb : (y == x) = false := by simpa using hin
        have HN : Hid (G = hasB x (xs.drop (k + 1))) := by
          show G = _
          rw [HS.out, hb]; simp
        clear hin
        go_wp2
        go_round
        case rel => exact ⟨k + 1, by omega, by go_num, HN⟩
        case measure => simp [intOf]; omega
    · have hG' : G = false := hasB_end HX.out hlt hG.out
      clear hG
      subst hG'
      go_wp2
      go_ret
      exact ⟨rfl, rfl⟩

theorem l1Has_nil (ao : Option Addr) (c : Nat) (x : Int) (w : World) :
    Calls Try.prog 96 #[.slice ao 0 c, .int .i64 x] w fun e w' => e = .returned (.bool false) ∧ w' = w := by
  go_enter Try.func96, Try.ntmps96
  go_wp2
  refine wp_loop_rounds 1 ?_
  rw [rounds_succ]
  go_wp2
  go_ret
  exact ⟨rfl, rfl⟩

theorem l1Has_c (ao : Option Addr) (n c : Nat) (x : Int) (xs : List Int) (w : World) (hx : xs.length = n) (hn : n ≤ 17592186044416) (hr : Rd w ao xs) :
    Calls Try.prog 96 #[.slice ao n c, .int .i64 x] w fun e w' => e = .returned (.bool (hasB x xs)) ∧ w' = w := by
  rcases hr with rfl | ⟨b, o, rfl, hc⟩
  · simp at hx; subst hx; exact l1Has_nil _ _ _ _
  · exact l1Has_at b o n c x xs w hx hn (by rw [← hx]; exact hc)

set_option maxHeartbeats 400000 in
theorem index_at (b o n c : Nat) (x : Int) (xs : List Int) (w : World) (hx : xs.length = n) (hn : n ≤ 17592186044416)
    (hc : ∀ j, j < n → w.cell? ⟨b, o + j, none⟩ = some (.int .i64 (xs.getD j 0))) :
    Calls Try.prog 105 #[.slice (some ⟨b, o, none⟩) n c, .int .i64 x] w fun e w' => ∃ r : Int, e = .returned (.int .i64 r) ∧ decide (0 ≤ r) = hasB x xs ∧ Below w.heap.size w w' := by
  have HX : Hid (xs.length = n) := hx
  have HC : Hid (∀ j, j < n → w.cell? ⟨b, o + j, none⟩ = some (.int .i64 (xs.getD j 0))) := hc
  obtain ⟨G, hG⟩ : ∃ G, G = hasB x xs := ⟨_, rfl⟩
  rw [← hG]
  have HG : Hid (G = hasB x (xs.drop 0)) := by show G = _; simpa using hG
  clear hx hc hG
  go_enter Try.func105, Try.ntmps105
  go_wp2
  go_loopw [8] (fun i wr => ∃ (k : Nat), k ≤ n ∧ i = .int .i64 k ∧ Hid (G = hasB x (xs.drop k)) ∧ Hid (Below w.heap.size w wr)) (fun i _ => n - (intOf i).toNat)
  case atStart => exact ⟨0, Nat.zero_le _, rfl, HG, Below.refl _ _⟩
  case round =>
    clear HG
    obtain ⟨k, hk, rfl, hG, hB⟩ := hrel
    by_cases hlt : k < n
    · have hbx := World.block_lt_of_cell? w _ (HC.out k hlt)
      have g1 : wr.cell? ⟨b, o + k, none⟩ = some (.int .i64 (xs.getD k 0)) := by rw [hB.out.cell (p := ⟨b, o + k, none⟩) hbx]; exact HC.out k hlt
      generalize hy : xs.getD k 0 = y at g1
      have HS : Hid (G = ((y == x) || hasB x (xs.drop (k + 1)))) := hasB_step HX.out hlt hy hG.out
      clear hy hG hbx
      by_cases hin : x = y
      · have hG : G = true := by rw [HS.out, hin]; simp
        have hb : (x == y) = true := by simpa using hin
        subst hG
        clear hin
        go_wp2
        go_ret
        exact ⟨k, rfl, by simp, by first | exact hB.out | exact below_drewN hB.out _⟩
      · have hb : (x == y) = false := by simpa using hin
        have HN : Hid (G = hasB x (xs.drop (k + 1))) := by
          show G = _
          rw [HS.out, show (y == x) = false by simpa using (fun h => hin (Eq.symm h))]; simp
        clear hin
        go_wp2
        go_roundw
        case rel => exact ⟨k + 1, by omega, by go_num, HN, by first | exact hB | exact below_drewN hB.out _⟩
        case measure => simp [intOf]; omega
    · have hG' : G = false := hasB_end HX.out hlt hG.out
      clear hG
      subst hG'
      go_wp2
      go_ret
      exact ⟨-1, rfl, by simp, hB.out⟩

theorem index_nil (ao : Option Addr) (c : Nat) (x : Int) (w : World) :
    Calls Try.prog 105 #[.slice ao 0 c, .int .i64 x] w fun e w' => e = .returned (.int .i64 (-1)) ∧ w' = w := by
  go_enter Try.func105, Try.ntmps105
  go_wp2
  refine wp_loop_rounds 1 ?_
  rw [rounds_succ]
  go_wp2
  go_ret
  exact ⟨rfl, rfl⟩

theorem contains_c (ao : Option Addr) (n c : Nat) (x : Int) (xs : List Int) (w : World) (hx : xs.length = n) (hn : n ≤ 17592186044416) (hr : Rd w ao xs) :
    Calls Try.prog 91 #[.slice ao n c, .int .i64 x] w fun e w' => e = .returned (.bool (hasB x xs)) ∧ Below w.heap.size w w' := by
  have HI : Hid (∀ wx, wx = w → Calls Try.prog 105 #[.slice ao n c, .int .i64 x] wx fun e w' => ∃ r : Int, e = .returned (.int .i64 r) ∧ decide (0 ≤ r) = hasB x xs ∧ Below wx.heap.size wx w') := by
    rintro wx rfl
    rcases hr with rfl | ⟨b, o, rfl, hc⟩
    · simp at hx; subst hx
      refine (index_nil ao c x wx).mono ?_
      rintro e w' ⟨rfl, hw⟩
      subst w'
      exact ⟨-1, rfl, rfl, Below.refl _ _⟩
    · exact index_at b o n c x xs wx hx hn (by rw [← hx]; exact hc)
  generalize hasB x xs = G at HI
  clear hx hr
  go_enter Try.func91, Try.ntmps91
  go_wp2_with fail
  refine (HI.out _ rfl).mono ?_
  rintro e w1 ⟨r, rfl, hd, hb⟩
  have HB : Hid (Below w.heap.size w w1) := hb
  have HD : Hid (decide (0 ≤ r) = G) := hd
  clear hb hd HI
  go_wp2
  go_ret
  exact ⟨ret_bool HD.out, HB.out⟩

end Go.Proofs.Ytlepejafednlfaa
