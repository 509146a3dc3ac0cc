/- The bit that taps make: the contracts of unlikeAhead and l3Next; the greatest tap. -/
import Derived.Test.YtjdfpjeeipbghaaG3
namespace Go.Proofs.Ytjdfpjeeipbghaa
set_option linter.unusedVariables false
set_option linter.unusedSimpArgs false
open Go.RowKit

/-- The greatest of rising taps. -/
def topT (xs : List Int) : Int := xs.getD (xs.length - 1) 0

theorem goodT_all : ∀ (xs : List Int) (l : Int), goodT l xs = true → ∀ t ∈ xs, l < t ∧ t ≤ 12
  | [], _, _, t, ht => by cases ht
  | x :: r, l, h, t, ht => by
    simp only [goodT, Bool.and_eq_true, decide_eq_true_eq] at h
    rcases List.mem_cons.1 ht with rfl | h2
    · exact h.1
    · have := goodT_all r x h.2 t h2
      omega

theorem topT_cons (x y : Int) (r : List Int) : topT (x :: y :: r) = topT (y :: r) := by
  simp [topT, List.getD]

theorem goodT_top : ∀ (xs : List Int) (l : Int), goodT l xs = true → ∀ t ∈ xs, t ≤ topT xs
  | [], _, _, t, ht => by cases ht
  | [x], _, _, t, ht => by simp at ht; subst ht; simp [topT]
  | x :: y :: r, l, h, t, ht => by
    simp only [goodT, Bool.and_eq_true, decide_eq_true_eq] at h
    rw [topT_cons]
    have h2 : goodT x (y :: r) = true := by simp [goodT, h.2]
    rcases List.mem_cons.1 ht with rfl | h3
    · have := goodT_top (y :: r) t h2 y (by simp)
      omega
    · exact goodT_top (y :: r) x h2 t h3

theorem mem_getD {xs : List Int} {j : Nat} (h : j < xs.length) : xs.getD j 0 ∈ xs := by
  simp only [List.getD, List.getElem?_eq_getElem h, Option.getD_some]; exact List.getElem_mem _

theorem topT_range {xs : List Int} (h : goodT 0 xs = true) : 0 ≤ topT xs ∧ topT xs ≤ 12 := by
  by_cases h0 : xs = []
  · subst h0; simp [topT]
  · have hl : 0 < xs.length := List.length_pos_iff.2 h0
    have := goodT_all xs 0 h _ (mem_getD (show xs.length - 1 < xs.length by omega))
    unfold topT
    omega

/-- The unlike-sum of the bits so many places ahead as the first k taps say. -/
def aheadAt (xs : List Int) (ys : List Bool) (at' : Nat) : Nat → Bool
  | 0 => false
  | k + 1 => !(aheadAt xs ys at' k == ys.getD (at' - (xs.getD k 0).toNat) false)
def nextB (xs : List Int) (ys : List Bool) (at' : Nat) : Bool := aheadAt xs ys at' xs.length

theorem greatestTap_c (ao : Option Addr) (n c : Nat) (xs : List Int) (w : World) (hx : xs.length = n) (hn : n ≤ 17592186044416) (hr : Rd w ao xs) :
    Calls Try.prog 58 #[.slice ao n c] w fun e w' => e = .returned (.int .i64 (topT xs)) ∧ w' = w := by
  by_cases h0 : n = 0
  · have he : xs = [] := List.length_eq_zero_iff.1 (by omega)
    subst he
    have k5 : ((n : Int) == 0) = true := by rw [beq_iff_eq]; omega
    clear h0 hr
    go_enter Try.func58, Try.ntmps58
    go_wp2
    go_ret
    exact ⟨rfl, rfl⟩
  · obtain ⟨b, o, rfl, hc⟩ := hr.at hx (by omega)
    have g := hc (n - 1) (by omega)
    have k5 : ((n : Int) == 0) = false := by rw [beq_eq_false_iff_ne]; omega
    have k1 : (0 : Int) ≤ (n : Int) - 1 := by omega
    have k2 : (n : Int) - 1 < (n : Int) := by omega
    have k4 : ((n : Int) - 1).toNat = n - 1 := by omega
    have ht : topT xs = xs.getD (n - 1) 0 := by rw [topT, hx]
    rw [ht]
    generalize xs.getD (n - 1) 0 = y at g
    clear hc hx ht hr h0
    go_enter Try.func58, Try.ntmps58
    go_wp2
    go_ret
    exact ⟨rfl, rfl⟩

theorem l3Top_c (ao : Option Addr) (n c : Nat) (xs : List Int) (w : World) (hx : xs.length = n) (hn : n ≤ 17592186044416) (hr : Rd w ao xs) :
    Calls Try.prog 57 #[.slice ao n c] w fun e w' => e = .returned (.int .i64 (topT xs)) ∧ w' = w := by
  by_cases h0 : n = 0
  · have he : xs = [] := List.length_eq_zero_iff.1 (by omega)
    subst he
    have k5 : ((n : Int) == 0) = true := by rw [beq_iff_eq]; omega
    clear h0 hr
    go_enter Try.func57, Try.ntmps57
    go_wp2
    go_ret
    exact ⟨rfl, rfl⟩
  · obtain ⟨b, o, rfl, hc⟩ := hr.at hx (by omega)
    have g := hc (n - 1) (by omega)
    have k5 : ((n : Int) == 0) = false := by rw [beq_eq_false_iff_ne]; omega
    have k1 : (0 : Int) ≤ (n : Int) - 1 := by omega
    have k2 : (n : Int) - 1 < (n : Int) := by omega
    have k4 : ((n : Int) - 1).toNat = n - 1 := by omega
    have ht : topT xs = xs.getD (n - 1) 0 := by rw [topT, hx]
    rw [ht]
    generalize xs.getD (n - 1) 0 = y at g
    clear hc hx ht hr h0
    go_enter Try.func57, Try.ntmps57
    go_wp2
    go_ret
    exact ⟨rfl, rfl⟩

set_option maxHeartbeats 1000000 in
theorem unlikeAhead_at (b o n c b' o' m d at' : Nat) (xs : List Int) (ys : List Bool) (w : World) (hx : xs.length = n) (hn : n ≤ 17592186044416) (hm : m ≤ 17592186044416) (ha : at' ≤ m)
    (hc : ∀ j, j < n → w.cell? ⟨b, o + j, none⟩ = some (.int .i64 (xs.getD j 0))) (hc' : ∀ j, j < m → w.cell? ⟨b', o' + j, none⟩ = some (.bool (ys.getD j false)))
    (hall : ∀ j, j < n → 1 ≤ xs.getD j 0 ∧ xs.getD j 0 ≤ at') :
    Calls Try.prog 59 #[.slice (some ⟨b, o, none⟩) n c, .slice (some ⟨b', o', none⟩) m d, .int .i64 at'] w fun e w' => e = .returned (.bool (nextB xs ys at')) ∧ w' = w := by
  have HX : Hid (xs.length = n) := hx
  have HC : Hid (∀ j, j < n → w.cell? ⟨b, o + j, none⟩ = some (.int .i64 (xs.getD j 0))) := hc
  have HD : Hid (∀ j, j < m → w.cell? ⟨b', o' + j, none⟩ = some (.bool (ys.getD j false))) := hc'
  have HA : Hid (∀ j, j < n → 1 ≤ xs.getD j 0 ∧ xs.getD j 0 ≤ at') := hall
  clear hx hc hc' hall
  go_enter Try.func59, Try.ntmps59
  go_wp2
  go_loop [7, 12] (fun v i => ∃ (k : Nat) (u : Bool), k ≤ n ∧ i = .int .i64 k ∧ v = .bool u ∧ Hid (u = aheadAt xs ys at' k)) (fun _ i => n - (intOf i).toNat)
  case atStart => exact ⟨0, false, Nat.zero_le _, rfl, rfl, rfl⟩
  case round =>
    obtain ⟨k, u, hk, rfl, rfl, hu⟩ := hrel
    by_cases hlt : k < n
    · have g1 := HC.out k hlt
      have hb := HA.out k hlt
      have HU : Hid (aheadAt xs ys at' (k + 1) = !(u == ys.getD (at' - (xs.getD k 0).toNat) false)) := by show aheadAt xs ys at' (k + 1) = _; rw [hu.out]; rfl
      generalize xs.getD k 0 = x at g1 hb HU
      obtain ⟨t, rfl⟩ : ∃ t : Nat, x = t := ⟨x.toNat, by omega⟩
      have hp : at' - t < m := by omega
      have g2 := HD.out (at' - t) hp
      have e1 : ((t : Int)).toNat = t := by omega
      rw [e1] at HU
      generalize ys.getD (at' - t) false = y at g2 HU
      have k1 : (0 : Int) ≤ (at' : Int) - t := by omega
      have k2 : (at' : Int) - t < (m : Int) := by omega
      have k3 : ((at' : Int) - t).toNat = at' - t := by omega
      clear hu
      go_wp2
      go_round
      case rel => exact ⟨k + 1, !(u == y), by omega, by go_num, rfl, HU.out.symm⟩
      case measure => simp [intOf]; omega
    · have HE : Hid (nextB xs ys at' = u) := by show nextB xs ys at' = u; rw [hu.out, nextB, HX.out]; congr 1; omega
      clear hu
      go_wp2
      go_ret
      exact ⟨ret_bool HE.out.symm, rfl⟩

theorem unlikeAhead_nil (ao bo : Option Addr) (c m d : Nat) (z : Int) (w : World) :
    Calls Try.prog 59 #[.slice ao 0 c, .slice bo m d, .int .i64 z] w fun e w' => e = .returned (.bool false) ∧ w' = w := by
  go_enter Try.func59, Try.ntmps59
  go_wp2
  refine wp_loop_rounds 1 ?_
  rw [rounds_succ]
  go_wp2
  go_ret
  exact ⟨rfl, rfl⟩

theorem unlikeAhead_c (ao bo : Option Addr) (n c m d at' : Nat) (xs : List Int) (ys : List Bool) (w : World) (hx : xs.length = n) (hy : ys.length = m) (hn : n ≤ 17592186044416) (hm : m ≤ 17592186044416) (ha : at' ≤ m) (hr : Rd w ao xs) (hs : RdB w bo ys)
    (hall : ∀ t ∈ xs, 1 ≤ t ∧ t ≤ (at' : Int)) :
    Calls Try.prog 59 #[.slice ao n c, .slice bo m d, .int .i64 at'] w fun e w' => e = .returned (.bool (nextB xs ys at')) ∧ w' = w := by
  by_cases h0 : n = 0
  · have he : xs = [] := List.length_eq_zero_iff.1 (by omega)
    subst he
    simp at hx
    subst hx
    exact unlikeAhead_nil ao bo c m d at' w
  · obtain ⟨b, o, rfl, hc⟩ := hr.at hx (by omega)
    have h1 := hall _ (mem_getD (show 0 < xs.length by omega))
    obtain ⟨b', o', rfl, hc'⟩ := hs.at hy (by omega)
    exact unlikeAhead_at b o n c b' o' m d at' xs ys w hx hn hm ha hc hc' (fun j hj => hall _ (mem_getD (by omega)))

set_option maxHeartbeats 1000000 in
theorem l3Next_at (b o n c b' o' m d at' : Nat) (xs : List Int) (ys : List Bool) (w : World) (hx : xs.length = n) (hn : n ≤ 17592186044416) (hm : m ≤ 17592186044416) (ha : at' ≤ m)
    (hc : ∀ j, j < n → w.cell? ⟨b, o + j, none⟩ = some (.int .i64 (xs.getD j 0))) (hc' : ∀ j, j < m → w.cell? ⟨b', o' + j, none⟩ = some (.bool (ys.getD j false)))
    (hall : ∀ j, j < n → 1 ≤ xs.getD j 0 ∧ xs.getD j 0 ≤ at') :
    Calls Try.prog 55 #[.slice (some ⟨b', o', none⟩) m d, .slice (some ⟨b, o, none⟩) n c, .int .i64 at'] w fun e w' => e = .returned (.bool (nextB xs ys at')) ∧ w' = w := by
  have HX : Hid (xs.length = n) := hx
  have HC : Hid (∀ j, j < n → w.cell? ⟨b, o + j, none⟩ = some (.int .i64 (xs.getD j 0))) := hc
  have HD : Hid (∀ j, j < m → w.cell? ⟨b', o' + j, none⟩ = some (.bool (ys.getD j false))) := hc'
  have HA : Hid (∀ j, j < n → 1 ≤ xs.getD j 0 ∧ xs.getD j 0 ≤ at') := hall
  clear hx hc hc' hall
  go_enter Try.func55, Try.ntmps55
  go_wp2
  go_loop [7, 12] (fun v i => ∃ (k : Nat) (u : Bool), k ≤ n ∧ i = .int .i64 k ∧ v = .bool u ∧ Hid (u = aheadAt xs ys at' k)) (fun _ i => n - (intOf i).toNat)
  case atStart => exact ⟨0, false, Nat.zero_le _, rfl, rfl, rfl⟩
  case round =>
    obtain ⟨k, u, hk, rfl, rfl, hu⟩ := hrel
    by_cases hlt : k < n
    · have g1 := HC.out k hlt
      have hb := HA.out k hlt
      have HU : Hid (aheadAt xs ys at' (k + 1) = !(u == ys.getD (at' - (xs.getD k 0).toNat) false)) := by show aheadAt xs ys at' (k + 1) = _; rw [hu.out]; rfl
      generalize xs.getD k 0 = x at g1 hb HU
      obtain ⟨t, rfl⟩ : ∃ t : Nat, x = t := ⟨x.toNat, by omega⟩
      have hp : at' - t < m := by omega
      have g2 := HD.out (at' - t) hp
      have e1 : ((t : Int)).toNat = t := by omega
      rw [e1] at HU
      generalize ys.getD (at' - t) false = y at g2 HU
      have k0 : (t : Int) ≤ (at' : Int) := by omega
      have k1 : (0 : Int) ≤ (at' : Int) - t := by omega
      have k2 : (at' : Int) - t < (m : Int) := by omega
      have k3 : ((at' : Int) - t).toNat = at' - t := by omega
      clear hu
      cases y
      · go_wp2
        go_round
        case rel => exact ⟨k + 1, u, by omega, by go_num, rfl, by show u = _; rw [HU.out]; cases u <;> rfl⟩
        case measure => simp [intOf]; omega
      · go_wp2
        go_round
        case rel => exact ⟨k + 1, !u, by omega, by go_num, rfl, by show (!u) = _; rw [HU.out]; cases u <;> rfl⟩
        case measure => simp [intOf]; omega
    · have HE : Hid (nextB xs ys at' = u) := by show nextB xs ys at' = u; rw [hu.out, nextB, HX.out]; congr 1; omega
      clear hu
      go_wp2
      go_ret
      exact ⟨ret_bool HE.out.symm, rfl⟩

theorem l3Next_nil (ao bo : Option Addr) (c m d : Nat) (z : Int) (w : World) :
    Calls Try.prog 55 #[.slice bo m d, .slice ao 0 c, .int .i64 z] w fun e w' => e = .returned (.bool false) ∧ w' = w := by
  go_enter Try.func55, Try.ntmps55
  go_wp2
  refine wp_loop_rounds 1 ?_
  rw [rounds_succ]
  go_wp2
  go_ret
  exact ⟨rfl, rfl⟩

theorem l3Next_c (ao bo : Option Addr) (n c m d at' : Nat) (xs : List Int) (ys : List Bool) (w : World) (hx : xs.length = n) (hy : ys.length = m) (hn : n ≤ 17592186044416) (hm : m ≤ 17592186044416) (ha : at' ≤ m) (hr : Rd w ao xs) (hs : RdB w bo ys)
    (hall : ∀ t ∈ xs, 1 ≤ t ∧ t ≤ (at' : Int)) :
    Calls Try.prog 55 #[.slice bo m d, .slice ao n c, .int .i64 at'] w fun e w' => e = .returned (.bool (nextB xs ys at')) ∧ w' = w := by
  by_cases h0 : n = 0
  · have he : xs = [] := List.length_eq_zero_iff.1 (by omega)
    subst he
    simp at hx
    subst hx
    exact l3Next_nil ao bo c m d at' w
  · obtain ⟨b, o, rfl, hc⟩ := hr.at hx (by omega)
    have h1 := hall _ (mem_getD (show 0 < xs.length by omega))
    obtain ⟨b', o', rfl, hc'⟩ := hs.at hy (by omega)
    exact l3Next_at b o n c b' o' m d at' xs ys w hx hn hm ha hc hc' (fun j hj => hall _ (mem_getD (by omega)))

end Go.Proofs.Ytjdfpjeeipbghaa
