/- Chapter 15: SumOf of both sides; GoodTable of the specification. -/
import Derived.Test.YtbjpkklonjlmiaaG15C
namespace Go.Proofs.Ytbjpkklonjlmiaa
set_option linter.unusedVariables false
set_option maxRecDepth 1000000
set_option linter.unusedSimpArgs false
open Go.RowKit Go.Sort

theorem sumB_eq (l : List Int) : sumB l = (decide (l.length ≤ 6) && l.all byB) := rfl
/-- What SumOf tells. -/
def sumV (l : List Int) : Int := if sumB l = true then sumX l else 0

theorem ofInt_small {a : Nat} (h : a < 65536) : (BitVec.ofInt 64 (a : Int)).toNat = a := by
  rw [BitVec.toNat_ofInt]; omega

theorem i64_xor {a b : Nat} (ha : a < 65536) (hb : b < 65536) : bits .xor .i64 (a : Int) (b : Int) = ((a ^^^ b : Nat) : Int) := by
  have hx : a ^^^ b < 2 ^ 16 := Nat.xor_lt_two_pow ha hb
  have key : (BitVec.ofInt 64 (a : Int) ^^^ BitVec.ofInt 64 (b : Int)).toNat = a ^^^ b := by
    rw [BitVec.toNat_xor, ofInt_small ha, ofInt_small hb]
  show IntKind.i64.wrap ((BitVec.ofInt 64 (a : Int) ^^^ BitVec.ofInt 64 (b : Int)).toNat : Nat) = _
  rw [key, IntKind.wrap_i64]
  omega

theorem bits_xr {x y : Int} (hx : byB x = true) (hy : byB y = true) : bits BinOp.xor IntKind.i64 x y = xr x y := by
  rw [byB_iff] at hx hy
  have h := i64_xor (a := x.toNat) (b := y.toNat) (by omega) (by omega)
  rw [show ((x.toNat : Nat) : Int) = x by omega, show ((y.toNat : Nat) : Int) = y by omega] at h
  exact h

set_option maxHeartbeats 2000000 in
theorem implSum_c (ao : Option Addr) (n c : Nat) (xs : List Int) (w : World) (hx : xs.length = n) (hn : n ≤ 17592186044416) (hr : Rd w ao xs) :
    Calls Try.prog 11 #[.slice ao n c] w fun e w' => e = .returned (.tuple #[.int .i64 (sumV xs), .bool (sumB xs)]) ∧ w' = w := by
  have HX : Hid (xs.length = n) := hx
  have HR : Hid (Rd w ao xs) := hr
  have q := fewW_c 6 (by omega) ao n c xs w hx hn hr
  rw [← sumB_eq] at q
  unfold sumV
  cases hb : sumB xs
  · rw [if_neg (by simp)]
    rw [hb] at q
    clear hx hr hb
    go_enter Try.func11, Try.ntmps11
    go_wp2_with fail
    refine q.mono ?_
    rintro e w' ⟨rfl, hw⟩
    subst w'
    go_wp2
    refine bodyPost_ret (v := .tuple #[.int .i64 0, .bool false]) (by simp [results, Try.results11, go_sem]; try rfl) rfl ?_
    exact ⟨rfl, rfl⟩
  rw [if_pos rfl]
  rw [hb] at q
  have hb2 : n ≤ 6 ∧ ∀ x ∈ xs, byB x = true := by
    rw [sumB_eq, Bool.and_eq_true] at hb
    exact ⟨by rw [← hx]; exact of_decide_eq_true hb.1, List.all_eq_true.1 hb.2⟩
  have HBY : Hid (∀ k, k < n → byB (xs.getD k 0) = true) := fun k hk => hb2.2 _ (mem_getD 0 (by rw [hx]; exact hk))
  have HBT : Hid (∀ k, byB (sumX (xs.take k)) = true) := fun k => sumX_by (fun x h => hb2.2 x (List.mem_of_mem_take h))
  clear hx hr hb hb2
  go_enter Try.func11, Try.ntmps11
  go_wp2_with fail
  refine q.mono ?_
  clear q
  rintro e w' ⟨rfl, hw⟩
  subst w'
  go_wp2
  go_loop [4, 12] (fun sv iv => ∃ (k : Nat) (s : Int), k ≤ n ∧ iv = .int .i64 k ∧ sv = .int .i64 s ∧ Hid (s = sumX (xs.take k))) (fun _ iv => n - (intOf iv).toNat)
  case atStart => exact ⟨0, 0, Nat.zero_le _, rfl, rfl, rfl⟩
  case round =>
    obtain ⟨k, s, hk, rfl, rfl, HS⟩ := hrel
    by_cases hlt : k < n
    · have hkl : k < xs.length := by rw [HX.out]; exact hlt
      obtain ⟨b, o, rfl, g1⟩ := HR.out.get hkl
      have hxr := bits_xr (x := s) (y := xs.getD k 0) (by rw [HS.out]; exact HBT.out k) (HBY.out k hlt)
      have HS2 : Hid (xr s (xs.getD k 0) = sumX (xs.take (k + 1))) := by show _ = _; rw [sumX_take hkl, HS.out]
      generalize xs.getD k 0 = v at g1 hxr HS2
      generalize xr s v = s2 at hxr HS2
      have h0 : (0 : Int) ≤ (k : Int) := by omega
      have hl : (k : Int) < (n : Int) := by omega
      clear hkl
      go_wp2
      go_round
      case rel => exact ⟨k + 1, s2, by omega, by go_num, rfl, HS2⟩
      case measure => simp [intOf]; omega
    · obtain rfl : k = n := by omega
      have HE : Hid (s = sumX xs) := by have := HS.out; rwa [List.take_of_length_le (by rw [HX.out]; exact Nat.le_refl _)] at this
      go_wp2
      refine bodyPost_ret (v := .tuple #[.int .i64 s, .bool true]) (by simp [results, Try.results11, go_sem]; try rfl) rfl ?_
      exact ⟨by rw [HE.out], rfl⟩

def allIn (lo hi : Int) (xs : List Int) : Bool := xs.all fun x => decide (lo ≤ x ∧ x ≤ hi)
theorem allIn_by (xs : List Int) : allIn 0 255 xs = xs.all byB := rfl

set_option maxHeartbeats 1000000 in
theorem l1All_c (ao : Option Addr) (n c : Nat) (lo hi : Int) (xs : List Int) (w : World) (hx : xs.length = n) (hn : n ≤ 17592186044416) (hr : Rd w ao xs) :
    Calls Try.prog 45 #[.slice ao n c, .int .i64 lo, .int .i64 hi] w fun e w' => e = .returned (.bool (allIn lo hi xs)) ∧ w' = w := by
  have HX : Hid (xs.length = n) := hx
  have HR : Hid (Rd w ao xs) := hr
  have HF : Hid (∀ k, k < n → decide (lo ≤ xs.getD k 0 ∧ xs.getD k 0 ≤ hi) = false → allIn lo hi xs = false) := fun k hk h => all_out (d := 0) (p := fun x => decide (lo ≤ x ∧ x ≤ hi)) (by rw [hx]; exact hk) h
  have HE : Hid ((∀ j, j < n → decide (lo ≤ xs.getD j 0 ∧ xs.getD j 0 ≤ hi) = true) → allIn lo hi xs = true) := fun h => all_end (d := 0) (p := fun x => decide (lo ≤ x ∧ x ≤ hi)) (fun j hj => h j (by rw [hx] at hj; exact hj))
  generalize allIn lo hi xs = zb at HF HE ⊢
  clear hx hr
  go_enter Try.func45, Try.ntmps45
  go_wp2
  go_loop [11] (fun iv => ∃ (k : Nat), k ≤ n ∧ iv = .int .i64 k ∧ Hid (∀ j, j < k → decide (lo ≤ xs.getD j 0 ∧ xs.getD j 0 ≤ hi) = true)) (fun iv => n - (intOf iv).toNat)
  case atStart => exact ⟨0, Nat.zero_le _, rfl, fun j h => absurd h (by omega)⟩
  case round =>
    obtain ⟨k, hk, rfl, HS⟩ := hrel
    by_cases hlt : k < n
    · have hkl : k < xs.length := by rw [HX.out]; exact hlt
      obtain ⟨b, o, rfl, g1⟩ := HR.out.get hkl
      have h0 : (0 : Int) ≤ (k : Int) := by omega
      have hl : (k : Int) < (n : Int) := by omega
      have q := fun wx => l1In_c (xs.getD k 0) lo hi wx
      have hf := HF.out k hlt
      have hs : decide (lo ≤ xs.getD k 0 ∧ xs.getD k 0 ≤ hi) = true → ∀ j, j < k + 1 → decide (lo ≤ xs.getD j 0 ∧ xs.getD j 0 ≤ hi) = true := fun h j hj => by
        by_cases e : j = k
        · rw [e]; exact h
        · exact HS.out j (by omega)
      generalize decide (lo ≤ xs.getD k 0 ∧ xs.getD k 0 ≤ hi) = db at q hf hs
      generalize xs.getD k 0 = v at g1 q
      clear hkl
      cases db
      · have HN : Hid (zb = false) := hf rfl
        clear hf hs
        go_wp2_with fail
        refine (q _).mono ?_
        clear q
        rintro e w' ⟨rfl, hw⟩
        subst w'
        go_wp2
        go_ret
        exact ⟨ret_bool HN.out.symm, rfl⟩
      · have HS2 : Hid (∀ j, j < k + 1 → decide (lo ≤ xs.getD j 0 ∧ xs.getD j 0 ≤ hi) = true) := hs rfl
        clear hf hs
        go_wp2_with fail
        refine (q _).mono ?_
        clear q
        rintro e w' ⟨rfl, hw⟩
        subst w'
        go_wp2
        go_round
        case rel => exact ⟨k + 1, by omega, by go_num, HS2⟩
        case measure => simp [intOf]; omega
    · obtain rfl : k = n := by omega
      have HM : Hid (zb = true) := HE.out HS.out
      go_wp2
      go_ret
      exact ⟨ret_bool HM.out.symm, rfl⟩

set_option maxHeartbeats 2000000 in
theorem specSum_c (ao : Option Addr) (n c : Nat) (xs : List Int) (w : World) (hx : xs.length = n) (hn : n ≤ 17592186044416) (hr : Rd w ao xs) :
    Calls Try.prog 30 #[.slice ao n c] w fun e w' => e = .returned (.tuple #[.int .i64 (sumV xs), .bool (sumB xs)]) ∧ w' = w := by
  have HX : Hid (xs.length = n) := hx
  have HR : Hid (Rd w ao xs) := hr
  have q := l1All_c ao n c 0 255 xs w hx hn hr
  rw [allIn_by] at q
  unfold sumV
  by_cases h6 : n ≤ 6
  case neg =>
    have hb : sumB xs = false := by rw [sumB_eq, hx, decide_eq_false h6, Bool.false_and]
    rw [hb, if_neg (by simp)]
    have h6z : (6 : Int) < (n : Int) := by omega
    clear q hx hr hb
    go_enter Try.func30, Try.ntmps30
    go_wp2
    refine bodyPost_ret (v := .tuple #[.int .i64 0, .bool false]) (by simp [results, Try.results30, go_sem]; try rfl) rfl ?_
    exact ⟨rfl, rfl⟩
  have hb : sumB xs = xs.all byB := by rw [sumB_eq, hx, decide_eq_true h6, Bool.true_and]
  have h6z : ¬ (6 : Int) < (n : Int) := by omega
  rw [hb]
  cases ha : xs.all byB
  · rw [if_neg (by simp)]
    rw [ha] at q
    clear hx hr hb ha
    go_enter Try.func30, Try.ntmps30
    go_wp2_with fail
    refine q.mono ?_
    rintro e w' ⟨rfl, hw⟩
    subst w'
    go_wp2
    refine bodyPost_ret (v := .tuple #[.int .i64 0, .bool false]) (by simp [results, Try.results30, go_sem]; try rfl) rfl ?_
    exact ⟨rfl, rfl⟩
  rw [if_pos rfl]
  rw [ha] at q
  have hb2 : ∀ x ∈ xs, byB x = true := List.all_eq_true.1 ha
  have HBY : Hid (∀ k, k < n → byB (xs.getD k 0) = true) := fun k hk => hb2 _ (mem_getD 0 (by rw [hx]; exact hk))
  have HBT : Hid (∀ k, byB (sumX (xs.take k)) = true) := fun k => sumX_by (fun x h => hb2 x (List.mem_of_mem_take h))
  clear hx hr hb hb2 ha
  go_enter Try.func30, Try.ntmps30
  go_wp2_with fail
  refine q.mono ?_
  clear q
  rintro e w' ⟨rfl, hw⟩
  subst w'
  go_wp2
  go_loop [4, 17] (fun sv iv => ∃ (k : Nat) (s : Int), k ≤ n ∧ iv = .int .i64 k ∧ sv = .int .i64 s ∧ Hid (s = sumX (xs.take k))) (fun _ iv => n - (intOf iv).toNat)
  case atStart => exact ⟨0, 0, Nat.zero_le _, rfl, rfl, rfl⟩
  case round =>
    obtain ⟨k, s, hk, rfl, rfl, HS⟩ := hrel
    by_cases hlt : k < n
    · have hkl : k < xs.length := by rw [HX.out]; exact hlt
      obtain ⟨b, o, rfl, g1⟩ := HR.out.get hkl
      have hxr := bits_xr (x := s) (y := xs.getD k 0) (by rw [HS.out]; exact HBT.out k) (HBY.out k hlt)
      have HS2 : Hid (xr s (xs.getD k 0) = sumX (xs.take (k + 1))) := by show _ = _; rw [sumX_take hkl, HS.out]
      generalize xs.getD k 0 = v at g1 hxr HS2
      generalize xr s v = s2 at hxr HS2
      have h0 : (0 : Int) ≤ (k : Int) := by omega
      have hl : (k : Int) < (n : Int) := by omega
      clear hkl
      go_wp2
      go_round
      case rel => exact ⟨k + 1, s2, by omega, by go_num, rfl, HS2⟩
      case measure => simp [intOf]; omega
    · obtain rfl : k = n := by omega
      have HE : Hid (s = sumX xs) := by have := HS.out; rwa [List.take_of_length_le (by rw [HX.out]; exact Nat.le_refl _)] at this
      go_wp2
      refine bodyPost_ret (v := .tuple #[.int .i64 s, .bool true]) (by simp [results, Try.results30, go_sem]; try rfl) rfl ?_
      exact ⟨by rw [HE.out], rfl⟩

end Go.Proofs.Ytbjpkklonjlmiaa
