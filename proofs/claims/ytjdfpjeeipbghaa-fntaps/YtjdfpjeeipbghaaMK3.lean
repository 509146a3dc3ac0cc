/- MakesBits: the contracts, the program's and the specification's. -/
import Derived.Test.YtjdfpjeeipbghaaA3
namespace Go.Proofs.Ytjdfpjeeipbghaa
set_option linter.unusedVariables false
set_option linter.unusedSimpArgs false
open Go.RowKit

def makesB (xs : List Int) (l : Nat) (ys : List Bool) : Bool := decide (∀ j, j < ys.length → l ≤ j → ys.getD j false = nextB xs ys j)
def okM (xs : List Int) (long : Int) (ys : List Bool) : Bool := goodT 0 xs && decide (topT xs ≤ long ∧ long ≤ 40 ∧ ys.length ≤ 40)
def makesF (xs : List Int) (long : Int) (ys : List Bool) : Bool × Bool := if okM xs long ys = true then (makesB xs long.toNat ys, true) else (false, false)

theorem implMakes_no (ao bo : Option Addr) (n c m d : Nat) (long : Int) (xs : List Int) (ys : List Bool) (w : World) (hx : xs.length = n) (hy : ys.length = m) (hn : n ≤ 17592186044416) (hm : m ≤ 17592186044416) (hr : Rd w ao xs) (h : okM xs long ys = false) :
    Calls Try.prog 18 #[.slice ao n c, .int .i64 long, .slice bo m d] w fun e w' => e = .returned (.tuple #[.bool false, .bool false]) ∧ w' = w := by
  have HG : Hid (Calls Try.prog 22 #[.slice ao n c] w fun e w' => e = .returned (.bool (goodT 0 xs)) ∧ w' = w) := implGoodT_c ao n c xs w hx hn hr
  have HT : Hid (Calls Try.prog 58 #[.slice ao n c] w fun e w' => e = .returned (.int .i64 (topT xs)) ∧ w' = w) := greatestTap_c ao n c xs w hx hn hr
  have hk : goodT 0 xs = true → topT xs ≤ long → long ≤ 40 → m ≤ 40 → False := fun h1 h2 h3 h4 => by
    simp [okM, h1, h2, h3, hy, h4] at h
  generalize topT xs = t at HT hk
  cases hG : goodT 0 xs
  · rw [hG] at HG
    clear hG h hk hr hx hy
    go_enter Try.func18, Try.ntmps18
    go_wp2_with (first | (go_at_call 22; refine HG.out.mono ?_; rintro e w' ⟨rfl, hw⟩; subst w'))
    refine bodyPost_ret (v := .tuple #[.bool false, .bool false]) (by simp [results, Try.results18, go_sem]) rfl ⟨rfl, rfl⟩
  · have hk := hk hG
    rw [hG] at HG
    clear hG h hr hx hy
    by_cases h1 : t ≤ long
    · by_cases h2 : long ≤ 40
      · have h3 : (40 : Int) < (m : Int) := by have := Nat.lt_of_not_le (hk h1 h2); omega
        have hd : decide ((m : Int) ≤ 40) = false := decide_eq_false (by omega)
        have hi : decide (t ≤ long ∧ long ≤ 40) = true := decide_eq_true ⟨h1, h2⟩
        clear hk
        go_enter Try.func18, Try.ntmps18
        go_wp2_with (first | (go_at_call 22; refine HG.out.mono ?_; rintro e w' ⟨rfl, hw⟩; subst w') | (go_at_call 58; refine HT.out.mono ?_; rintro e w' ⟨rfl, hw⟩; subst w'))
        refine bodyPost_ret (v := .tuple #[.bool false, .bool false]) (by simp [results, Try.results18, go_sem]) rfl ⟨rfl, rfl⟩
      · have h3 : (40 : Int) < long := by omega
        have hi : decide (t ≤ long ∧ long ≤ 40) = false := decide_eq_false (by omega)
        clear hk h2
        go_enter Try.func18, Try.ntmps18
        go_wp2_with (first | (go_at_call 22; refine HG.out.mono ?_; rintro e w' ⟨rfl, hw⟩; subst w') | (go_at_call 58; refine HT.out.mono ?_; rintro e w' ⟨rfl, hw⟩; subst w'))
        refine bodyPost_ret (v := .tuple #[.bool false, .bool false]) (by simp [results, Try.results18, go_sem]) rfl ⟨rfl, rfl⟩
    · have h3 : long < t := by omega
      have hi : decide (t ≤ long ∧ long ≤ 40) = false := decide_eq_false (by omega)
      clear hk h1
      go_enter Try.func18, Try.ntmps18
      go_wp2_with (first | (go_at_call 22; refine HG.out.mono ?_; rintro e w' ⟨rfl, hw⟩; subst w') | (go_at_call 58; refine HT.out.mono ?_; rintro e w' ⟨rfl, hw⟩; subst w'))
      refine bodyPost_ret (v := .tuple #[.bool false, .bool false]) (by simp [results, Try.results18, go_sem]) rfl ⟨rfl, rfl⟩

set_option maxHeartbeats 2000000 in
theorem implMakes_yes (ao bo : Option Addr) (n c m d l : Nat) (xs : List Int) (ys : List Bool) (w : World) (hx : xs.length = n) (hy : ys.length = m) (hn : n ≤ 17592186044416) (hr : Rd w ao xs) (hs : RdB w bo ys) (hg : goodT 0 xs = true) (ht : topT xs ≤ l) (hl : l ≤ 40) (hm : m ≤ 40) :
    Calls Try.prog 18 #[.slice ao n c, .int .i64 l, .slice bo m d] w fun e w' => e = .returned (.tuple #[.bool (makesB xs l ys), .bool true]) ∧ Below w.heap.size w w' := by
  have HG : Hid (Calls Try.prog 22 #[.slice ao n c] w fun e w' => e = .returned (.bool true) ∧ w' = w) := by
    have h := implGoodT_c ao n c xs w hx hn hr
    rw [hg] at h
    exact h
  have HT : Hid (Calls Try.prog 58 #[.slice ao n c] w fun e w' => e = .returned (.int .i64 (topT xs)) ∧ w' = w) := greatestTap_c ao n c xs w hx hn hr
  have HA : Hid (∀ k : Nat, l ≤ k → ∀ t ∈ xs, 1 ≤ t ∧ t ≤ (k : Int)) := fun k hk t ht' => by
    have h1 := goodT_all xs 0 hg t ht'
    have h2 := goodT_top xs 0 hg t ht'
    omega
  have HX : Hid (xs.length = n) := hx
  have HY : Hid (ys.length = m) := hy
  have HR : Hid (Rd w ao xs) := hr
  have HS : Hid (RdB w bo ys) := hs
  generalize topT xs = t at HT ht
  have h3 : (l : Int) ≤ 40 := by omega
  have h4 : (m : Int) ≤ 40 := by omega
  have hd : decide ((m : Int) ≤ 40) = true := decide_eq_true (by omega)
  have hi : decide (t ≤ (l : Int) ∧ (l : Int) ≤ 40) = true := decide_eq_true ⟨ht, h3⟩
  obtain ⟨M, hM⟩ : ∃ M, M = makesB xs l ys := ⟨_, rfl⟩
  rw [← hM]
  have HM : Hid (M = makesB xs l ys) := hM
  clear hx hy hr hs hg hM
  go_enter Try.func18, Try.ntmps18
  go_wp2_with (first | (go_at_call 22; refine HG.out.mono ?_; rintro e w' ⟨rfl, hw⟩; subst w') | (go_at_call 58; refine HT.out.mono ?_; rintro e w' ⟨rfl, hw⟩; subst w'))
  go_loopw [8] (fun i wr => ∃ k : Nat, l ≤ k ∧ (k ≤ m ∨ k = l) ∧ i = .int .i64 k ∧ Hid (∀ j, j < k → l ≤ j → ys.getD j false = nextB xs ys j) ∧ Hid (Below w.heap.size w wr)) (fun i _ => m - (intOf i).toNat)
  case atStart => exact ⟨l, Nat.le_refl _, Or.inr rfl, rfl, fun j h1 h2 => absurd h1 (by omega), Below.refl _ _⟩
  case round =>
    obtain ⟨k, hlk, hkm, rfl, hall, hB⟩ := hrel
    by_cases hlt : k < m
    · obtain ⟨b', o', hbo, hcy⟩ := HS.out.at HY.out (by omega)
      have hby := World.block_lt_of_cell? w _ (hcy k hlt)
      have g1 : wr.cell? ⟨b', o' + k, none⟩ = some (.bool (ys.getD k false)) := by rw [hB.out.cell (p := ⟨b', o' + k, none⟩) hby]; exact hcy k hlt
      subst hbo
      have HQ : Hid (∀ nq, Calls Try.prog 59 #[.slice ao n c, .slice (some ⟨b', o', none⟩) m d, .int .i64 k] (wr.drewN nq) fun e w' => e = .returned (.bool (nextB xs ys k)) ∧ w' = wr.drewN nq) := fun nq =>
        unlikeAhead_c ao (some ⟨b', o', none⟩) n c m d k xs ys (wr.drewN nq) HX.out HY.out hn (by omega) (by omega) (HR.out.later (below_drewN hB.out nq)) (HS.out.later (below_drewN hB.out nq)) (HA.out k hlk)
      have k0 : (0 : Int) ≤ (k : Int) := by omega
      have k1 : (k : Int) < (m : Int) := by omega
      clear hcy hby
      by_cases hxy : ys.getD k false = nextB xs ys k
      · have HN : Hid (∀ j, j < k + 1 → l ≤ j → ys.getD j false = nextB xs ys j) := fun j h1 h2 => by
          by_cases e : j = k
          · subst e; exact hxy
          · exact hall.out j (by omega) h2
        rw [hxy] at g1
        generalize nextB xs ys k = x at g1 HQ
        clear hxy hall
        cases x
        all_goals go_wp2_with fail
        all_goals go_quiet ((go_at_call 59; exact Calls.quiet_of_same (HQ.out _)))
        all_goals go_wp2
        all_goals go_roundw
        all_goals first | (case rel => exact ⟨k + 1, by omega, by omega, by go_num, HN, below_drewN hB.out _⟩) | skip
        all_goals (simp [intOf]; omega)
      · have hMf : M = false := by
          rw [HM.out, makesB]
          exact decide_eq_false (fun h => hxy (h k (by rw [HY.out]; exact hlt) hlk))
        subst hMf
        generalize nextB xs ys k = x at hxy HQ
        generalize ys.getD k false = y at hxy g1
        clear hall
        cases x <;> cases y <;> first | exact absurd rfl hxy | skip
        all_goals clear hxy
        all_goals go_wp2_with fail
        all_goals go_quiet ((go_at_call 59; exact Calls.quiet_of_same (HQ.out _)))
        all_goals go_wp2
        all_goals refine bodyPost_ret (v := .tuple #[.bool false, .bool true]) (by simp [results, Try.results18, go_sem]) rfl ⟨rfl, below_drewN hB.out _⟩
    · have hMt : M = true := by
        rw [HM.out, makesB]
        refine decide_eq_true (fun j h1 h2 => hall.out j ?_ h2)
        rw [HY.out] at h1
        omega
      subst hMt
      clear hall
      go_wp2
      refine bodyPost_ret (v := .tuple #[.bool true, .bool true]) (by simp [results, Try.results18, go_sem]) rfl ⟨rfl, hB.out⟩

theorem implMakes_c (ao : Option Addr) (n c : Nat) (long : Int) (bo : Option Addr) (m d : Nat) (xs : List Int) (ys : List Bool) (w : World) (hx : xs.length = n) (hy : ys.length = m) (hn : n ≤ 17592186044416) (hm : m ≤ 17592186044416) (hr : Rd w ao xs) (hs : RdB w bo ys) (g1 g2 : Bool) (hF : makesF xs long ys = (g1, g2)) :
    Calls Try.prog 18 #[.slice ao n c, .int .i64 long, .slice bo m d] w fun e w' => e = .returned (.tuple #[.bool g1, .bool g2]) ∧ Below w.heap.size w w' := by
  unfold makesF at hF
  cases hk : okM xs long ys
  · rw [hk] at hF
    simp at hF
    obtain ⟨rfl, rfl⟩ := hF
    refine (implMakes_no ao bo n c m d long xs ys w hx hy hn hm hr hk).mono ?_
    rintro e w' ⟨rfl, hw⟩
    subst w'
    exact ⟨rfl, Below.refl _ _⟩
  · rw [if_pos hk] at hF
    simp only [Prod.mk.injEq] at hF
    obtain ⟨rfl, rfl⟩ := hF
    simp only [okM, Bool.and_eq_true, decide_eq_true_eq] at hk
    obtain ⟨hg, h1, h2, h3⟩ := hk
    have h0 := topT_range hg
    obtain ⟨l, rfl⟩ : ∃ l : Nat, long = l := ⟨long.toNat, by omega⟩
    have e1 : ((l : Int)).toNat = l := by omega
    rw [e1]
    exact implMakes_yes ao bo n c m d l xs ys w hx hy hn hr hs hg h1 (by omega) (by omega)

theorem specMakes_no (ao bo : Option Addr) (n c m d : Nat) (long : Int) (xs : List Int) (ys : List Bool) (w : World) (hx : xs.length = n) (hy : ys.length = m) (hn : n ≤ 17592186044416) (hm : m ≤ 17592186044416) (hr : Rd w ao xs) (h : okM xs long ys = false) :
    Calls Try.prog 21 #[.slice ao n c, .int .i64 long, .slice bo m d] w fun e w' => e = .returned (.tuple #[.bool false, .bool false]) ∧ w' = w := by
  have HG : Hid (Calls Try.prog 23 #[.slice ao n c] w fun e w' => e = .returned (.bool (goodT 0 xs)) ∧ w' = w) := specGoodT_c ao n c xs w hx hn hr
  have HT : Hid (Calls Try.prog 57 #[.slice ao n c] w fun e w' => e = .returned (.int .i64 (topT xs)) ∧ w' = w) := l3Top_c ao n c xs w hx hn hr
  have hk : goodT 0 xs = true → topT xs ≤ long → long ≤ 40 → m ≤ 40 → False := fun h1 h2 h3 h4 => by
    simp [okM, h1, h2, h3, hy, h4] at h
  generalize topT xs = t at HT hk
  cases hG : goodT 0 xs
  · rw [hG] at HG
    clear hG h hk hr hx hy
    go_enter Try.func21, Try.ntmps21
    go_wp2_with (first | (go_at_call 23; refine HG.out.mono ?_; rintro e w' ⟨rfl, hw⟩; subst w'))
    refine bodyPost_ret (v := .tuple #[.bool false, .bool false]) (by simp [results, Try.results21, go_sem]) rfl ⟨rfl, rfl⟩
  · have hk := hk hG
    rw [hG] at HG
    clear hG h hr hx hy
    by_cases h1 : t ≤ long
    · by_cases h2 : long ≤ 40
      · have h3 : (40 : Int) < (m : Int) := by have := Nat.lt_of_not_le (hk h1 h2); omega
        have hd : decide ((m : Int) ≤ 40) = false := decide_eq_false (by omega)
        have hi : decide (t ≤ long ∧ long ≤ 40) = true := decide_eq_true ⟨h1, h2⟩
        clear hk
        go_enter Try.func21, Try.ntmps21
        go_wp2_with (first | (go_at_call 23; refine HG.out.mono ?_; rintro e w' ⟨rfl, hw⟩; subst w') | (go_at_call 57; refine HT.out.mono ?_; rintro e w' ⟨rfl, hw⟩; subst w') | (go_at_call 62; refine (l1In_c _ _ _ _).mono ?_; rw [hi]; clear hi; rintro e w' ⟨rfl, hw⟩; subst w') | (go_at_call 54; refine (l3Long_c _ _ _ _ (by omega)).mono ?_; rw [hd]; clear hd; rintro e w' ⟨rfl, hw⟩; subst w'))
        refine bodyPost_ret (v := .tuple #[.bool false, .bool false]) (by simp [results, Try.results21, go_sem]) rfl ⟨rfl, rfl⟩
      · have h3 : (40 : Int) < long := by omega
        have hi : decide (t ≤ long ∧ long ≤ 40) = false := decide_eq_false (by omega)
        clear hk h2
        go_enter Try.func21, Try.ntmps21
        go_wp2_with (first | (go_at_call 23; refine HG.out.mono ?_; rintro e w' ⟨rfl, hw⟩; subst w') | (go_at_call 57; refine HT.out.mono ?_; rintro e w' ⟨rfl, hw⟩; subst w') | (go_at_call 62; refine (l1In_c _ _ _ _).mono ?_; rw [hi]; clear hi; rintro e w' ⟨rfl, hw⟩; subst w'))
        refine bodyPost_ret (v := .tuple #[.bool false, .bool false]) (by simp [results, Try.results21, go_sem]) rfl ⟨rfl, rfl⟩
    · have h3 : long < t := by omega
      have hi : decide (t ≤ long ∧ long ≤ 40) = false := decide_eq_false (by omega)
      clear hk h1
      go_enter Try.func21, Try.ntmps21
      go_wp2_with (first | (go_at_call 23; refine HG.out.mono ?_; rintro e w' ⟨rfl, hw⟩; subst w') | (go_at_call 57; refine HT.out.mono ?_; rintro e w' ⟨rfl, hw⟩; subst w') | (go_at_call 62; refine (l1In_c _ _ _ _).mono ?_; rw [hi]; clear hi; rintro e w' ⟨rfl, hw⟩; subst w'))
      refine bodyPost_ret (v := .tuple #[.bool false, .bool false]) (by simp [results, Try.results21, go_sem]) rfl ⟨rfl, rfl⟩

set_option maxHeartbeats 2000000 in
theorem specMakes_yes (ao bo : Option Addr) (n c m d l : Nat) (xs : List Int) (ys : List Bool) (w : World) (hx : xs.length = n) (hy : ys.length = m) (hn : n ≤ 17592186044416) (hr : Rd w ao xs) (hs : RdB w bo ys) (hg : goodT 0 xs = true) (ht : topT xs ≤ l) (hl : l ≤ 40) (hm : m ≤ 40) :
    Calls Try.prog 21 #[.slice ao n c, .int .i64 l, .slice bo m d] w fun e w' => e = .returned (.tuple #[.bool (makesB xs l ys), .bool true]) ∧ Below w.heap.size w w' := by
  have HG : Hid (Calls Try.prog 23 #[.slice ao n c] w fun e w' => e = .returned (.bool true) ∧ w' = w) := by
    have h := specGoodT_c ao n c xs w hx hn hr
    rw [hg] at h
    exact h
  have HT : Hid (Calls Try.prog 57 #[.slice ao n c] w fun e w' => e = .returned (.int .i64 (topT xs)) ∧ w' = w) := l3Top_c ao n c xs w hx hn hr
  have HA : Hid (∀ k : Nat, l ≤ k → ∀ t ∈ xs, 1 ≤ t ∧ t ≤ (k : Int)) := fun k hk t ht' => by
    have h1 := goodT_all xs 0 hg t ht'
    have h2 := goodT_top xs 0 hg t ht'
    omega
  have HX : Hid (xs.length = n) := hx
  have HY : Hid (ys.length = m) := hy
  have HR : Hid (Rd w ao xs) := hr
  have HS : Hid (RdB w bo ys) := hs
  generalize topT xs = t at HT ht
  have h3 : (l : Int) ≤ 40 := by omega
  have h4 : (m : Int) ≤ 40 := by omega
  have hd : decide ((m : Int) ≤ 40) = true := decide_eq_true (by omega)
  have hi : decide (t ≤ (l : Int) ∧ (l : Int) ≤ 40) = true := decide_eq_true ⟨ht, h3⟩
  obtain ⟨M, hM⟩ : ∃ M, M = makesB xs l ys := ⟨_, rfl⟩
  rw [← hM]
  have HM : Hid (M = makesB xs l ys) := hM
  clear hx hy hr hs hg hM
  go_enter Try.func21, Try.ntmps21
  go_wp2_with (first | (go_at_call 23; refine HG.out.mono ?_; rintro e w' ⟨rfl, hw⟩; subst w') | (go_at_call 57; refine HT.out.mono ?_; rintro e w' ⟨rfl, hw⟩; subst w') | (go_at_call 62; refine (l1In_c _ _ _ _).mono ?_; rw [hi]; clear hi; rintro e w' ⟨rfl, hw⟩; subst w') | (go_at_call 54; refine (l3Long_c _ _ _ _ (by omega)).mono ?_; rw [hd]; clear hd; rintro e w' ⟨rfl, hw⟩; subst w'))
  go_loopw [8] (fun i wr => ∃ k : Nat, l ≤ k ∧ (k ≤ m ∨ k = l) ∧ i = .int .i64 k ∧ Hid (∀ j, j < k → l ≤ j → ys.getD j false = nextB xs ys j) ∧ Hid (Below w.heap.size w wr)) (fun i _ => m - (intOf i).toNat)
  case atStart => exact ⟨l, Nat.le_refl _, Or.inr rfl, rfl, fun j h1 h2 => absurd h1 (by omega), Below.refl _ _⟩
  case round =>
    obtain ⟨k, hlk, hkm, rfl, hall, hB⟩ := hrel
    by_cases hlt : k < m
    · obtain ⟨b', o', hbo, hcy⟩ := HS.out.at HY.out (by omega)
      have hby := World.block_lt_of_cell? w _ (hcy k hlt)
      have g1 : wr.cell? ⟨b', o' + k, none⟩ = some (.bool (ys.getD k false)) := by rw [hB.out.cell (p := ⟨b', o' + k, none⟩) hby]; exact hcy k hlt
      subst hbo
      have HQ : Hid (∀ nq, Calls Try.prog 55 #[.slice (some ⟨b', o', none⟩) m d, .slice ao n c, .int .i64 k] (wr.drewN nq) fun e w' => e = .returned (.bool (nextB xs ys k)) ∧ w' = wr.drewN nq) := fun nq =>
        l3Next_c ao (some ⟨b', o', none⟩) n c m d k xs ys (wr.drewN nq) HX.out HY.out hn (by omega) (by omega) (HR.out.later (below_drewN hB.out nq)) (HS.out.later (below_drewN hB.out nq)) (HA.out k hlk)
      have k0 : (0 : Int) ≤ (k : Int) := by omega
      have k1 : (k : Int) < (m : Int) := by omega
      clear hcy hby
      by_cases hxy : ys.getD k false = nextB xs ys k
      · have HN : Hid (∀ j, j < k + 1 → l ≤ j → ys.getD j false = nextB xs ys j) := fun j h1 h2 => by
          by_cases e : j = k
          · subst e; exact hxy
          · exact hall.out j (by omega) h2
        rw [hxy] at g1
        generalize nextB xs ys k = x at g1 HQ
        clear hxy hall
        cases x
        all_goals go_wp2_with fail
        all_goals go_quiet ((go_at_call 55; exact Calls.quiet_of_same (HQ.out _)))
        all_goals go_wp2
        all_goals go_roundw
        all_goals first | (case rel => exact ⟨k + 1, by omega, by omega, by go_num, HN, below_drewN hB.out _⟩) | skip
        all_goals (simp [intOf]; omega)
      · have hMf : M = false := by
          rw [HM.out, makesB]
          exact decide_eq_false (fun h => hxy (h k (by rw [HY.out]; exact hlt) hlk))
        subst hMf
        generalize nextB xs ys k = x at hxy HQ
        generalize ys.getD k false = y at hxy g1
        clear hall
        cases x <;> cases y <;> first | exact absurd rfl hxy | skip
        all_goals clear hxy
        all_goals go_wp2_with fail
        all_goals go_quiet ((go_at_call 55; exact Calls.quiet_of_same (HQ.out _)))
        all_goals go_wp2
        all_goals refine bodyPost_ret (v := .tuple #[.bool false, .bool true]) (by simp [results, Try.results21, go_sem]) rfl ⟨rfl, below_drewN hB.out _⟩
    · have hMt : M = true := by
        rw [HM.out, makesB]
        refine decide_eq_true (fun j h1 h2 => hall.out j ?_ h2)
        rw [HY.out] at h1
        omega
      subst hMt
      clear hall
      go_wp2
      refine bodyPost_ret (v := .tuple #[.bool true, .bool true]) (by simp [results, Try.results21, go_sem]) rfl ⟨rfl, hB.out⟩

theorem specMakes_c (ao : Option Addr) (n c : Nat) (long : Int) (bo : Option Addr) (m d : Nat) (xs : List Int) (ys : List Bool) (w : World) (hx : xs.length = n) (hy : ys.length = m) (hn : n ≤ 17592186044416) (hm : m ≤ 17592186044416) (hr : Rd w ao xs) (hs : RdB w bo ys) (g1 g2 : Bool) (hF : makesF xs long ys = (g1, g2)) :
    Calls Try.prog 21 #[.slice ao n c, .int .i64 long, .slice bo m d] w fun e w' => e = .returned (.tuple #[.bool g1, .bool g2]) ∧ Below w.heap.size w w' := by
  unfold makesF at hF
  cases hk : okM xs long ys
  · rw [hk] at hF
    simp at hF
    obtain ⟨rfl, rfl⟩ := hF
    refine (specMakes_no ao bo n c m d long xs ys w hx hy hn hm hr hk).mono ?_
    rintro e w' ⟨rfl, hw⟩
    subst w'
    exact ⟨rfl, Below.refl _ _⟩
  · rw [if_pos hk] at hF
    simp only [Prod.mk.injEq] at hF
    obtain ⟨rfl, rfl⟩ := hF
    simp only [okM, Bool.and_eq_true, decide_eq_true_eq] at hk
    obtain ⟨hg, h1, h2, h3⟩ := hk
    have h0 := topT_range hg
    obtain ⟨l, rfl⟩ : ∃ l : Nat, long = l := ⟨long.toNat, by omega⟩
    have e1 : ((l : Int)).toNat = l := by omega
    rw [e1]
    exact specMakes_yes ao bo n c m d l xs ys w hx hy hn hr hs hg h1 (by omega) (by omega)

end Go.Proofs.Ytjdfpjeeipbghaa
