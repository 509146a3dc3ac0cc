/- Chapter 5: slices.Contains, l1Has; places as both sides test them. -/
import Derived.Test.YtamppekadobagaaV5
namespace Go.Proofs.Ytamppekadobagaa
set_option linter.unusedVariables false
set_option linter.unusedSimpArgs false
open Go.RowKit

theorem Int_getD_mem {xs : List Int} {j : Nat} (h : j < xs.length) : xs.getD j 0 ∈ xs := by
  simp only [List.getD, List.getElem?_eq_getElem h, Option.getD_some]; exact List.getElem_mem _
theorem Int_mem_getD {xs : List Int} {v : Int} (h : v ∈ xs) : ∃ j, j < xs.length ∧ xs.getD j 0 = v := by
  obtain ⟨j, hj, rfl⟩ := List.getElem_of_mem h
  exact ⟨j, hj, by simp [List.getD, hj]⟩

set_option maxHeartbeats 1000000 in
theorem indexInt_at (b o n c : Nat) (xs : List Int) (v : Int) (w : World) (hx : xs.length = n) (hn : n ≤ 17592186044416)
    (hc : ∀ j, j < n → w.cell? ⟨b, o + j, none⟩ = some (.int .i64 (xs.getD j 0))) :
    Calls Try.prog 87 #[.slice (some ⟨b, o, none⟩) n c, .int .i64 v] w fun e w' => ∃ z : Int, e = .returned (.int .i64 z) ∧ (0 ≤ z ↔ v ∈ xs) ∧ w' = w := by
  have HX : Hid (xs.length = n) := hx
  have HC : Hid (∀ j, j < n → w.cell? ⟨b, o + j, none⟩ = some (.int .i64 (xs.getD j 0))) := hc
  clear hx hc
  go_enter Try.func87, Try.ntmps87
  go_wp2
  go_loop [8] (fun i => ∃ k : Nat, k ≤ n ∧ i = .int .i64 k ∧ Hid (∀ j, j < k → xs.getD j 0 ≠ v)) (fun i => n - (intOf i).toNat)
  case atStart => exact ⟨0, Nat.zero_le _, rfl, fun j h => absurd h (by omega)⟩
  case round =>
    obtain ⟨k, hk, rfl, hall⟩ := hrel
    by_cases hlt : k < n
    · have g1 := HC.out k hlt
      have k0 : (0 : Int) ≤ (k : Int) := by omega
      have k1 : (k : Int) < (n : Int) := by omega
      by_cases he : xs.getD k 0 = v
      · have HM : Hid (v ∈ xs) := by show v ∈ xs; rw [← he]; exact Int_getD_mem (by rw [HX.out]; exact hlt)
        rw [he] at g1
        clear he hall
        skip
        all_goals go_wp2
        all_goals go_ret
        all_goals exact ⟨k, rfl, ⟨fun _ => HM.out, fun _ => k0⟩, rfl⟩
      · have HN : Hid (∀ j, j < k + 1 → xs.getD j 0 ≠ v) := fun j hj => by
          by_cases e : j = k
          · subst e; exact he
          · exact hall.out j (by omega)
        generalize xs.getD k 0 = y at g1 he
        clear hall
        have hb : (v == y) = false := by rw [beq_eq_false_iff_ne]; exact fun h => he h.symm
        all_goals go_wp2
        all_goals go_round
        all_goals first | (case rel => exact ⟨k + 1, by omega, by go_num, HN⟩) | skip
        all_goals (simp [intOf]; omega)
    · have HM : Hid (¬ v ∈ xs) := fun h => by
        obtain ⟨j, hj, e⟩ := Int_mem_getD h
        exact hall.out j (by rw [HX.out] at hj; omega) e
      clear hall
      go_wp2
      go_ret
      exact ⟨-1, rfl, ⟨fun h => absurd h (by omega), fun h => absurd h HM.out⟩, rfl⟩

theorem indexInt_nil (ao : Option Addr) (c : Nat) (v : Int) (w : World) :
    Calls Try.prog 87 #[.slice ao 0 c, .int .i64 v] w fun e w' => e = .returned (.int .i64 (-1)) ∧ w' = w := by
  go_enter Try.func87, Try.ntmps87
  go_wp2
  refine wp_loop_rounds 1 ?_
  rw [rounds_succ]
  go_wp2
  go_ret
  exact ⟨rfl, rfl⟩

theorem indexInt_c (ao : Option Addr) (n c : Nat) (xs : List Int) (v : Int) (w : World) (hx : xs.length = n) (hn : n ≤ 17592186044416) (hr : Rd w ao xs) :
    Calls Try.prog 87 #[.slice ao n c, .int .i64 v] w fun e w' => ∃ z : Int, e = .returned (.int .i64 z) ∧ (0 ≤ z ↔ v ∈ xs) ∧ w' = w := by
  by_cases h0 : n = 0
  · subst h0
    have he : xs = [] := List.length_eq_zero_iff.1 hx
    subst he
    refine (indexInt_nil ao c v w).mono ?_
    rintro e w' ⟨rfl, hw⟩
    exact ⟨-1, rfl, ⟨fun h => absurd h (by omega), fun h => by cases h⟩, hw⟩
  · obtain ⟨b, o, rfl, hc⟩ := hr.at hx (by omega)
    exact indexInt_at b o n c xs v w hx hn hc

theorem containsInt_c (ao : Option Addr) (n c : Nat) (xs : List Int) (v : Int) (w : World) (hx : xs.length = n) (hn : n ≤ 17592186044416) (hr : Rd w ao xs) :
    Calls Try.prog 70 #[.slice ao n c, .int .i64 v] w fun e w' => e = .returned (.bool (decide (v ∈ xs))) ∧ w' = w := by
  have HQ : Hid (Calls Try.prog 87 #[.slice ao n c, .int .i64 v] w fun e w' => ∃ z : Int, e = .returned (.int .i64 z) ∧ (0 ≤ z ↔ v ∈ xs) ∧ w' = w) := indexInt_c ao n c xs v w hx hn hr
  clear hr hx
  go_enter Try.func70, Try.ntmps70
  go_wp2_with (go_at_call 87; refine HQ.out.mono ?_; rintro e w' ⟨z, rfl, hz, hw⟩; subst w'; have HZ : Hid (0 ≤ z ↔ v ∈ xs) := hz; clear hz HQ)
  go_ret
  exact ⟨ret_bool (decide_eq_decide.2 HZ.out), rfl⟩

theorem Own.cap {w : World} {base n c : Nat} {ao : Option Addr} {xs : List Int} (h : Own w base (.slice ao n c) xs) : n ≤ c ∧ c ≤ maxLen := by
  rcases h.form with ⟨h1, _⟩ | ⟨g, cap, h1, _, _, h2, h3⟩
  · simp only [Value.slice.injEq] at h1
    obtain ⟨_, rfl, rfl⟩ := h1
    exact ⟨Nat.le_refl _, Nat.zero_le _⟩
  · simp only [Value.slice.injEq] at h1
    obtain ⟨_, rfl, rfl⟩ := h1
    exact ⟨h2, h3⟩

def hasB (x : Int) (xs : List Int) : Bool := xs.contains x
theorem hasB_cons (x y : Int) (r : List Int) : hasB x (y :: r) = ((y == x) || hasB x r) := by
  unfold hasB
  rw [List.contains_cons]
  rw [show (x == y) = (y == x) from Bool.eq_iff_iff.2 (by rw [beq_iff_eq, beq_iff_eq]; exact eq_comm)]
theorem hasB_step {xs : List Int} {n k : Nat} {x y : Int} {G : Bool} (hx : xs.length = n) (h : k < n) (e : xs.getD k 0 = y) (hg : G = hasB x (xs.drop k)) : G = ((y == x) || hasB x (xs.drop (k + 1))) := by
  rw [hg, drop_getD hx h, e, hasB_cons]
theorem hasB_end {xs : List Int} {n k : Nat} {x : Int} {G : Bool} (hx : xs.length = n) (h : ¬ k < n) (hg : G = hasB x (xs.drop k)) : G = false := by
  rw [hg, List.drop_of_length_le (by omega)]; rfl

set_option maxHeartbeats 400000 in
theorem l1Has_at (b o n c : Nat) (x : Int) (xs : List Int) (w : World) (hx : xs.length = n) (hn : n ≤ 17592186044416)
    (hc : ∀ j, j < n → w.cell? ⟨b, o + j, none⟩ = some (.int .i64 (xs.getD j 0))) :
    Calls Try.prog 72 #[.slice (some ⟨b, o, none⟩) n c, .int .i64 x] w fun e w' => e = .returned (.bool (hasB x xs)) ∧ w' = w := by
  have HX : Hid (xs.length = n) := hx
  have HC : Hid (∀ j, j < n → w.cell? ⟨b, o + j, none⟩ = some (.int .i64 (xs.getD j 0))) := hc
  obtain ⟨G, hG⟩ : ∃ G, G = hasB x xs := ⟨_, rfl⟩
  rw [← hG]
  have HG : Hid (G = hasB x (xs.drop 0)) := by show G = _; simpa using hG
  clear hx hc hG
  go_enter Try.func72, Try.ntmps72
  go_wp2
  go_loop [9] (fun i => ∃ (k : Nat), k ≤ n ∧ i = .int .i64 k ∧ Hid (G = hasB x (xs.drop k))) (fun i => n - (intOf i).toNat)
  case atStart => exact ⟨0, Nat.zero_le _, rfl, HG⟩
  case round =>
    clear HG
    obtain ⟨k, hk, rfl, hG⟩ := hrel
    by_cases hlt : k < n
    · have g1 := HC.out k hlt
      generalize hy : xs.getD k 0 = y at g1
      have HS : Hid (G = ((y == x) || hasB x (xs.drop (k + 1)))) := hasB_step HX.out hlt hy hG.out
      clear hy hG
      by_cases hin : y = x
      · have hG : G = true := by rw [HS.out, hin]; simp
        have hb : (y == x) = true := by simpa using hin
        subst hG
        clear hin
        go_wp2
        go_ret
        exact ⟨rfl, rfl⟩
      · have hb : (y == x) = false := by simpa using hin
        have HN : Hid (G = hasB x (xs.drop (k + 1))) := by
          show G = _
          rw [HS.out, hb]; simp
        clear hin
        go_wp2
        go_round
        case rel => exact ⟨k + 1, by omega, by go_num, HN⟩
        case measure => simp [intOf]; omega
    · have hG' : G = false := hasB_end HX.out hlt hG.out
      clear hG
      subst hG'
      go_wp2
      go_ret
      exact ⟨rfl, rfl⟩

theorem l1Has_nil (ao : Option Addr) (c : Nat) (x : Int) (w : World) :
    Calls Try.prog 72 #[.slice ao 0 c, .int .i64 x] w fun e w' => e = .returned (.bool false) ∧ w' = w := by
  go_enter Try.func72, Try.ntmps72
  go_wp2
  refine wp_loop_rounds 1 ?_
  rw [rounds_succ]
  go_wp2
  go_ret
  exact ⟨rfl, rfl⟩

theorem l1Has_c (ao : Option Addr) (n c : Nat) (x : Int) (xs : List Int) (w : World) (hx : xs.length = n) (hn : n ≤ 17592186044416) (hr : Rd w ao xs) :
    Calls Try.prog 72 #[.slice ao n c, .int .i64 x] w fun e w' => e = .returned (.bool (hasB x xs)) ∧ w' = w := by
  rcases hr with rfl | ⟨b, o, rfl, hc⟩
  · simp at hx; subst hx; exact l1Has_nil _ _ _ _
  · exact l1Has_at b o n c x xs w hx hn (by rw [← hx]; exact hc)


theorem hasB_mem (x : Int) (xs : List Int) : hasB x xs = decide (x ∈ xs) := by
  unfold hasB
  by_cases h : x ∈ xs
  · rw [decide_eq_true h, List.contains_iff_mem.2 h]
  · rw [decide_eq_false h]
    cases e : xs.contains x
    · rfl
    · exact absurd (List.contains_iff_mem.1 e) h

/-- The number at k is a place, and none ahead of it is alike. -/
def plAt (xs : List Int) (k : Nat) : Prop := (1 ≤ xs.getD k 0 ∧ xs.getD k 0 ≤ 1498) ∧ xs.getD k 0 ∉ xs.take k
def plAt_dec (xs : List Int) : Decidable (∀ k, k < xs.length → plAt xs k) := by
  unfold plAt
  exact Nat.decidableBallLT _ _
def xsB (xs : List Int) : Bool := @decide (∀ k, k < xs.length → plAt xs k) (plAt_dec xs)
theorem xsB_true {xs : List Int} (h : ∀ k, k < xs.length → plAt xs k) : xsB xs = true := @decide_eq_true _ (plAt_dec xs) h
theorem xsB_false {xs : List Int} (h : ¬ ∀ k, k < xs.length → plAt xs k) : xsB xs = false := @decide_eq_false _ (plAt_dec xs) h
theorem xsB_iff {xs : List Int} : xsB xs = true ↔ ∀ k, k < xs.length → plAt xs k := @decide_eq_true_iff _ (plAt_dec xs)
/-- Places: 1 up to 8 unlike numbers from 1 up to 1498. -/
def placesB (xs : List Int) : Bool := decide (1 ≤ xs.length ∧ xs.length ≤ 8) && xsB xs

theorem rd_take {w : World} {b o n : Nat} {xs : List Int} (hx : xs.length = n) (hc : ∀ j, j < n → w.cell? ⟨b, o + j, none⟩ = some (.int .i64 (xs.getD j 0))) {k : Nat} (hk : k ≤ n) : Rd w (some ⟨b, o, none⟩) (xs.take k) := by
  refine Or.inr ⟨b, o, rfl, fun j hj => ?_⟩
  have hj' : j < k := by rw [List.length_take] at hj; omega
  rw [hc j (by omega)]
  simp [List.getD, List.getElem?_take, hj']

set_option maxHeartbeats 1000000 in
theorem arePlaces_at (b o n c : Nat) (xs : List Int) (w : World) (hx : xs.length = n) (h1 : 1 ≤ n) (h8 : n ≤ 8) (hcap : n ≤ c) (hcm : c ≤ maxLen)
    (hc : ∀ j, j < n → w.cell? ⟨b, o + j, none⟩ = some (.int .i64 (xs.getD j 0))) :
    Calls Try.prog 77 #[.slice (some ⟨b, o, none⟩) n c] w fun e w' => e = .returned (.bool (xsB xs)) ∧ w' = w := by
  have HX : Hid (xs.length = n) := hx
  have HC : Hid (∀ j, j < n → w.cell? ⟨b, o + j, none⟩ = some (.int .i64 (xs.getD j 0))) := hc
  have h1' : ¬ (n : Int) < 1 := by omega
  have h8' : ¬ (8 : Int) < n := by omega
  unfold maxLen at hcm
  clear hx hc
  go_enter Try.func77, Try.ntmps77
  go_wp2
  go_loop [15] (fun i => ∃ (k : Nat), k ≤ n ∧ i = .int .i64 k ∧ Hid (∀ j, j < k → plAt xs j)) (fun i => n - (intOf i).toNat)
  case atStart => exact ⟨0, Nat.zero_le _, rfl, fun j h => absurd h (by omega)⟩
  case round =>
    obtain ⟨k, hk, rfl, hG⟩ := hrel
    by_cases hlt : k < n
    · have g1 := HC.out k hlt
      have k0 : (0 : Int) ≤ (k : Int) := by omega
      have kc : (k : Int) ≤ (c : Int) := by omega
      have HBad : Hid (¬ plAt xs k → xsB xs = false) := fun h => xsB_false fun h' => h (h' k (by rw [HX.out]; exact hlt))
      have hct := containsInt_c (some ⟨b, o, none⟩) k c (xs.take k) (xs.getD k 0) w (by rw [List.length_take, HX.out]; omega) (by omega) (rd_take HX.out HC.out hk)
      have hsm := isSmall_c (xs.getD k 0)
      have HP : Hid (plAt xs k ↔ (1 ≤ xs.getD k 0 ∧ xs.getD k 0 ≤ 1498) ∧ xs.getD k 0 ∉ xs.take k) := Iff.rfl
      generalize xs.getD k 0 = x at *
      by_cases hx0 : x = 0
      · have hb : (x == 0) = true := by simpa using hx0
        have HE : Hid (xsB xs = false) := HBad.out (fun h => by have := (HP.out.1 h).1; omega)
        clear hx0 hct hsm
        go_wp2
        go_ret
        exact ⟨ret_bool HE.out.symm, rfl⟩
      · have hb : (x == 0) = false := by simpa using hx0
        by_cases hs : smallB x = true
        · rw [hs] at hsm
          have hrg : 1 ≤ x ∧ x ≤ 1498 := by
            unfold smallB at hs
            rw [decide_eq_true_iff] at hs
            omega
          by_cases hm : x ∈ xs.take k
          · rw [decide_eq_true hm] at hct
            have HE : Hid (xsB xs = false) := HBad.out (fun h => (HP.out.1 h).2 hm)
            clear hx0 hm hs
            go_wp2_with fail
            refine (hsm _).mono ?_
            clear hsm
            rintro e w' ⟨rfl, hw⟩
            subst w'
            go_wp2_with fail
            refine hct.mono ?_
            clear hct
            rintro e w' ⟨rfl, hw⟩
            subst w'
            go_wp2
            go_ret
            exact ⟨ret_bool HE.out.symm, rfl⟩
          · rw [decide_eq_false hm] at hct
            have HN : Hid (∀ j, j < k + 1 → plAt xs j) := fun j hj => by
              by_cases e : j = k
              · subst e; exact HP.out.2 ⟨hrg, hm⟩
              · exact hG.out j (by omega)
            clear hx0 hm hs hG HBad HP
            go_wp2_with fail
            refine (hsm _).mono ?_
            clear hsm
            rintro e w' ⟨rfl, hw⟩
            subst w'
            go_wp2_with fail
            refine hct.mono ?_
            clear hct
            rintro e w' ⟨rfl, hw⟩
            subst w'
            go_wp2
            go_round
            case rel => exact ⟨k + 1, by omega, by go_num, HN⟩
            case measure => simp [intOf]; omega
        · have hs' : smallB x = false := by simpa using hs
          rw [hs'] at hsm
          have HE : Hid (xsB xs = false) := HBad.out (fun h => by
            have := (HP.out.1 h).1
            unfold smallB at hs'
            rw [decide_eq_false_iff_not] at hs'
            omega)
          clear hx0 hct hs hs'
          go_wp2_with fail
          refine (hsm _).mono ?_
          clear hsm
          rintro e w' ⟨rfl, hw⟩
          subst w'
          go_wp2
          go_ret
          exact ⟨ret_bool HE.out.symm, rfl⟩
    · have HE : Hid (xsB xs = true) := xsB_true fun j hj => hG.out j (by rw [HX.out] at hj; omega)
      clear hG
      go_wp2
      go_ret
      exact ⟨ret_bool HE.out.symm, rfl⟩

theorem arePlaces_no (ao : Option Addr) (n c : Nat) (w : World) (h : ¬ (1 ≤ n ∧ n ≤ 8)) (hn : n ≤ 17592186044416) :
    Calls Try.prog 77 #[.slice ao n c] w fun e w' => e = .returned (.bool false) ∧ w' = w := by
  by_cases h1 : n < 1
  · have h1' : (n : Int) < 1 := by omega
    go_enter Try.func77, Try.ntmps77
    go_wp2
    go_ret
    exact ⟨rfl, rfl⟩
  · have h1' : ¬ (n : Int) < 1 := by omega
    have h8' : (8 : Int) < n := by omega
    go_enter Try.func77, Try.ntmps77
    go_wp2
    go_ret
    exact ⟨rfl, rfl⟩

theorem arePlaces_c (ao : Option Addr) (n c : Nat) (xs : List Int) (w : World) (hx : xs.length = n) (hn : n ≤ 17592186044416) (hcap : n ≤ c ∧ c ≤ maxLen) (hr : Rd w ao xs) :
    Calls Try.prog 77 #[.slice ao n c] w fun e w' => e = .returned (.bool (placesB xs)) ∧ w' = w := by
  unfold placesB
  rw [hx]
  by_cases h : 1 ≤ n ∧ n ≤ 8
  · rw [decide_eq_true h, Bool.true_and]
    obtain ⟨b, o, rfl, hc⟩ := hr.at hx (by omega)
    exact arePlaces_at b o n c xs w hx h.1 h.2 hcap.1 hcap.2 hc
  · rw [decide_eq_false h, Bool.false_and]
    exact arePlaces_no ao n c w h hn

set_option maxHeartbeats 1000000 in
theorem l5Xs_at (b o n c : Nat) (xs : List Int) (w : World) (hx : xs.length = n) (hn : n ≤ 17592186044416) (hcap : n ≤ c) (hcm : c ≤ maxLen)
    (hc : ∀ j, j < n → w.cell? ⟨b, o + j, none⟩ = some (.int .i64 (xs.getD j 0))) :
    Calls Try.prog 79 #[.slice (some ⟨b, o, none⟩) n c] w fun e w' => e = .returned (.bool (placesB xs)) ∧ w' = w := by
  have HX : Hid (xs.length = n) := hx
  have HC : Hid (∀ j, j < n → w.cell? ⟨b, o + j, none⟩ = some (.int .i64 (xs.getD j 0))) := hc
  unfold maxLen at hcm
  have hfin := l1In_c n 1 8
  clear hx hc
  go_enter Try.func79, Try.ntmps79
  go_wp2
  go_loop [7] (fun i => ∃ (k : Nat), k ≤ n ∧ i = .int .i64 k ∧ Hid (∀ j, j < k → plAt xs j)) (fun i => n - (intOf i).toNat)
  case atStart => exact ⟨0, Nat.zero_le _, rfl, fun j h => absurd h (by omega)⟩
  case round =>
    obtain ⟨k, hk, rfl, hG⟩ := hrel
    by_cases hlt : k < n
    · have g1 := HC.out k hlt
      have k0 : (0 : Int) ≤ (k : Int) := by omega
      have kc : (k : Int) ≤ (c : Int) := by omega
      have HBad : Hid (¬ plAt xs k → placesB xs = false) := fun h => by
        unfold placesB
        rw [xsB_false fun h' => h (h' k (by rw [HX.out]; exact hlt)), Bool.and_false]
      have hct := l1Has_c (some ⟨b, o, none⟩) k c (xs.getD k 0) (xs.take k) w (by rw [List.length_take, HX.out]; omega) (by omega) (rd_take HX.out HC.out hk)
      rw [hasB_mem] at hct
      have hsm := l1In_c (xs.getD k 0) 1 1498
      have HP : Hid (plAt xs k ↔ (1 ≤ xs.getD k 0 ∧ xs.getD k 0 ≤ 1498) ∧ xs.getD k 0 ∉ xs.take k) := Iff.rfl
      generalize xs.getD k 0 = x at *
      clear hfin
      by_cases hs : 1 ≤ x ∧ x ≤ 1498
      · rw [decide_eq_true hs] at hsm
        by_cases hm : x ∈ xs.take k
        · rw [decide_eq_true hm] at hct
          have HE : Hid (placesB xs = false) := HBad.out (fun h => (HP.out.1 h).2 hm)
          clear hm hs
          go_wp2_with fail
          refine (hsm _).mono ?_
          clear hsm
          rintro e w' ⟨rfl, hw⟩
          subst w'
          go_wp2_with fail
          refine hct.mono ?_
          clear hct
          rintro e w' ⟨rfl, hw⟩
          subst w'
          go_wp2
          go_ret
          exact ⟨ret_bool HE.out.symm, rfl⟩
        · rw [decide_eq_false hm] at hct
          have HN : Hid (∀ j, j < k + 1 → plAt xs j) := fun j hj => by
            by_cases e : j = k
            · subst e; exact HP.out.2 ⟨hs, hm⟩
            · exact hG.out j (by omega)
          clear hm hs hG HBad HP
          go_wp2_with fail
          refine (hsm _).mono ?_
          clear hsm
          rintro e w' ⟨rfl, hw⟩
          subst w'
          go_wp2_with fail
          refine hct.mono ?_
          clear hct
          rintro e w' ⟨rfl, hw⟩
          subst w'
          go_wp2
          go_round
          case rel => exact ⟨k + 1, by omega, by go_num, HN⟩
          case measure => simp [intOf]; omega
      · rw [decide_eq_false hs] at hsm
        have HE : Hid (placesB xs = false) := HBad.out (fun h => hs (HP.out.1 h).1)
        clear hct hs
        go_wp2_with fail
        refine (hsm _).mono ?_
        clear hsm
        rintro e w' ⟨rfl, hw⟩
        subst w'
        go_wp2
        go_ret
        exact ⟨ret_bool HE.out.symm, rfl⟩
    · have HE : Hid (placesB xs = decide ((1 : Int) ≤ n ∧ (n : Int) ≤ 8)) := by
        show _ = _
        unfold placesB
        rw [xsB_true fun j hj => hG.out j (by rw [HX.out] at hj; omega), Bool.and_true, HX.out]
        exact decide_eq_decide.2 (by omega)
      clear hG
      generalize decide ((1 : Int) ≤ n ∧ (n : Int) ≤ 8) = G at *
      go_wp2_with fail
      refine (hfin _).mono ?_
      clear hfin
      rintro e w' ⟨rfl, hw⟩
      subst w'
      go_wp2
      go_ret
      exact ⟨ret_bool HE.out.symm, rfl⟩

theorem l5Xs_nil (ao : Option Addr) (c : Nat) (w : World) :
    Calls Try.prog 79 #[.slice ao 0 c] w fun e w' => e = .returned (.bool false) ∧ w' = w := by
  have hfin := l1In_c 0 1 8
  rw [decide_eq_false (by omega)] at hfin
  go_enter Try.func79, Try.ntmps79
  go_wp2
  refine wp_loop_rounds 1 ?_
  rw [rounds_succ]
  go_wp2_with fail
  refine (hfin _).mono ?_
  clear hfin
  rintro e w' ⟨rfl, hw⟩
  subst w'
  go_wp2
  go_ret
  exact ⟨rfl, rfl⟩

theorem l5Xs_c (ao : Option Addr) (n c : Nat) (xs : List Int) (w : World) (hx : xs.length = n) (hn : n ≤ 17592186044416) (hcap : n ≤ c ∧ c ≤ maxLen) (hr : Rd w ao xs) :
    Calls Try.prog 79 #[.slice ao n c] w fun e w' => e = .returned (.bool (placesB xs)) ∧ w' = w := by
  by_cases h0 : n = 0
  · subst h0
    have : placesB xs = false := by unfold placesB; rw [hx, decide_eq_false (by omega), Bool.false_and]
    rw [this]
    exact l5Xs_nil ao c w
  · obtain ⟨b, o, rfl, hc⟩ := hr.at hx h0
    exact l5Xs_at b o n c xs w hx hn hcap.1 hcap.2 hc

/-- Places are numbers of the field, none nought, none twice. -/
theorem nodup_prefix {xs : List F} : ∀ n, (∀ k, k < n → k < xs.length → xs.getD k 0 ∉ xs.take k) → (xs.take n).Nodup
  | 0, _ => by simp
  | n + 1, h => by
    have ih := nodup_prefix n (fun k hk => h k (by omega))
    by_cases hn : n < xs.length
    · rw [List.take_succ_eq_append_getElem hn, List.nodup_append]
      refine ⟨ih, by simp, fun a ha b hb => ?_⟩
      simp at hb
      have := h n (by omega) hn
      simp only [List.getD, List.getElem?_eq_getElem hn, Option.getD_some] at this
      rintro rfl
      exact this (hb ▸ ha)
    · rw [List.take_of_length_le (by omega)] at ih ⊢; exact ih
theorem xsB_parts {xs : List Int} (h : xsB xs = true) : ∃ fs : List F, xs = vIs fs ∧ fs.Nodup ∧ ∀ a ∈ fs, a ≠ 0 := by
  rw [xsB_iff] at h
  have ha : allIn 0 1498 xs = true := by
    refine List.all_eq_true.2 fun x hx => ?_
    obtain ⟨k, hk, rfl⟩ := Int_mem_getD hx
    have := (h k hk).1
    unfold inB
    rw [decide_eq_true_iff]; omega
  refine ⟨xs.map toF, allIn_vIs ha, ?_, ?_⟩
  · have := nodup_prefix (xs := xs.map toF) xs.length (fun k _ hk hm => by
      have hk' : k < xs.length := by simpa using hk
      obtain ⟨h1, h2⟩ := h k hk'
      apply h2
      rw [← List.map_take] at hm
      obtain ⟨y, hy, e⟩ := List.mem_map.1 hm
      have e1 : (xs.map toF).getD k 0 = toF (xs.getD k 0) := by simp [List.getD, hk']
      rw [e1] at e
      have hyx : y ∈ xs := List.mem_of_mem_take hy
      obtain ⟨j, hj, rfl⟩ := Int_mem_getD hyx
      have hj2 := (h j hj).1
      have e2 := congrArg vI e
      rw [vI_toF' (by omega) (by omega), vI_toF' (by omega) (by omega)] at e2
      rw [← e2]; exact hy)
    rwa [List.take_of_length_le (by simp)] at this
  · intro a ha
    obtain ⟨x, hx, rfl⟩ := List.mem_map.1 ha
    obtain ⟨k, hk, rfl⟩ := Int_mem_getD hx
    have := (h k hk).1
    intro e
    have e2 := congrArg vI e
    rw [vI_toF' (by omega) (by omega), vI_zero] at e2
    omega
theorem placesB_parts {xs : List Int} (h : placesB xs = true) : ∃ fs : List F, xs = vIs fs ∧ fs.Nodup ∧ (∀ a ∈ fs, a ≠ 0) ∧ 1 ≤ fs.length ∧ fs.length ≤ 8 := by
  unfold placesB at h
  rw [Bool.and_eq_true, decide_eq_true_iff] at h
  obtain ⟨fs, rfl, h1, h2⟩ := xsB_parts h.2
  rw [vIs_length] at h
  exact ⟨fs, rfl, h1, h2, h.1.1, h.1.2⟩

end Go.Proofs.Ytamppekadobagaa
