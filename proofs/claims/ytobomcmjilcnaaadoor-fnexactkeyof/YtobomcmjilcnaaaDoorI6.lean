/- Chapter 6, the program's side: lists looked at, products, divided by all parts. -/
import Derived.Test.YtobomcmjilcnaaaDoorS6A
namespace Go.Proofs.YtobomcmjilcnaaaDoor
set_option linter.unusedVariables false
set_option maxRecDepth 1000000
set_option linter.unusedSimpArgs false
open Go.RowKit

set_option maxHeartbeats 1000000 in
theorem areFewSec_c (ao : Option Addr) (n c : Nat) (xs : List Int) (w : World) (hx : xs.length = n) (hn : n ≤ 17592186044416) (hr : Rd w ao xs) :
    Calls Tryd.prog 43 #[.slice ao n c, .int .i64 5, .func (.func 62) #[] #[]] w fun e w' => e = .returned (.bool (decide (xs.length ≤ 5) && xs.all secB6)) ∧ w' = w := by
  have HX : Hid (xs.length = n) := hx
  have HR : Hid (Rd w ao xs) := hr
  rw [hx]
  clear hx hr
  by_cases h5 : 5 < n
  · have h5' : (5 : Int) < (n : Int) := by omega
    rw [decide_eq_false (show ¬ n ≤ 5 by omega), Bool.false_and]
    go_enter Tryd.func43, Tryd.ntmps43
    go_wp2
    go_ret
    exact ⟨rfl, rfl⟩
  · have h5' : ¬ (5 : Int) < (n : Int) := by omega
    rw [decide_eq_true (show n ≤ 5 by omega), Bool.true_and]
    have HF : Hid (∀ k, k < n → secB6 (xs.getD k 0) = false → xs.all secB6 = false) := fun k hk h => all_out (d := 0) (by rw [HX.out]; exact hk) h
    have HE : Hid ((∀ j, j < n → secB6 (xs.getD j 0) = true) → xs.all secB6 = true) := fun h => all_end (d := 0) (fun j hj => h j (by rw [HX.out] at hj; exact hj))
    generalize xs.all secB6 = zb at HF HE ⊢
    go_enter Tryd.func43, Tryd.ntmps43
    go_wp2
    go_loop [15] (fun iv => ∃ (k : Nat), k ≤ n ∧ iv = .int .i64 k ∧ Hid (∀ j, j < k → secB6 (xs.getD j 0) = true)) (fun iv => n - (intOf iv).toNat)
    case atStart => exact ⟨0, Nat.zero_le _, rfl, fun j h => absurd h (by omega)⟩
    case round =>
      obtain ⟨k, hk, rfl, HS⟩ := hrel
      by_cases hlt : k < n
      · have hkl : k < xs.length := by rw [HX.out]; exact hlt
        obtain ⟨b, o, rfl, g1⟩ := Rd.get HR.out hkl
        cases gm : secB6 (xs.getD k 0)
        · have HN : Hid (zb = false) := HF.out k hlt gm
          generalize xs.getD k 0 = v at g1 gm
          have q := fun wx => isSecret_c v wx
          rw [show decide (1 ≤ v ∧ v ≤ 1498) = secB6 v from rfl] at q
          rw [gm] at q
          clear hkl gm
          go_wp2_with fail
          refine (q _).mono ?_
          clear q
          rintro e w' ⟨rfl, hw⟩
          subst w'
          go_wp2
          go_ret
          exact ⟨ret_bool HN.out.symm, rfl⟩
        · have HS2 : Hid (∀ j, j < k + 1 → secB6 (xs.getD j 0) = true) := fun j hj => by
            by_cases e : j = k
            · rw [e]; exact gm
            · exact HS.out j (by omega)
          generalize xs.getD k 0 = v at g1 gm
          have q := fun wx => isSecret_c v wx
          rw [show decide (1 ≤ v ∧ v ≤ 1498) = secB6 v from rfl] at q
          rw [gm] at q
          clear hkl gm
          go_wp2_with fail
          refine (q _).mono ?_
          clear q
          rintro e w' ⟨rfl, hw⟩
          subst w'
          go_wp2
          go_round
          case rel => exact ⟨k + 1, by omega, by go_num, HS2⟩
          case measure => simp [intOf]; omega
      · obtain rfl : k = n := by omega
        have HM : Hid (zb = true) := HE.out HS.out
        go_wp2
        go_ret
        exact ⟨ret_bool HM.out.symm, rfl⟩

set_option maxHeartbeats 1000000 in
theorem areFewMem_c (ao : Option Addr) (n c : Nat) (xs : List Int) (w : World) (hx : xs.length = n) (hn : n ≤ 17592186044416) (hr : Rd w ao xs) :
    Calls Tryd.prog 43 #[.slice ao n c, .int .i64 5, .func (.func 44) #[] #[]] w fun e w' => e = .returned (.bool (decide (xs.length ≤ 5) && xs.all memB)) ∧ w' = w := by
  have HX : Hid (xs.length = n) := hx
  have HR : Hid (Rd w ao xs) := hr
  rw [hx]
  clear hx hr
  by_cases h5 : 5 < n
  · have h5' : (5 : Int) < (n : Int) := by omega
    rw [decide_eq_false (show ¬ n ≤ 5 by omega), Bool.false_and]
    go_enter Tryd.func43, Tryd.ntmps43
    go_wp2
    go_ret
    exact ⟨rfl, rfl⟩
  · have h5' : ¬ (5 : Int) < (n : Int) := by omega
    rw [decide_eq_true (show n ≤ 5 by omega), Bool.true_and]
    have HF : Hid (∀ k, k < n → memB (xs.getD k 0) = false → xs.all memB = false) := fun k hk h => all_out (d := 0) (by rw [HX.out]; exact hk) h
    have HE : Hid ((∀ j, j < n → memB (xs.getD j 0) = true) → xs.all memB = true) := fun h => all_end (d := 0) (fun j hj => h j (by rw [HX.out] at hj; exact hj))
    generalize xs.all memB = zb at HF HE ⊢
    go_enter Tryd.func43, Tryd.ntmps43
    go_wp2
    go_loop [15] (fun iv => ∃ (k : Nat), k ≤ n ∧ iv = .int .i64 k ∧ Hid (∀ j, j < k → memB (xs.getD j 0) = true)) (fun iv => n - (intOf iv).toNat)
    case atStart => exact ⟨0, Nat.zero_le _, rfl, fun j h => absurd h (by omega)⟩
    case round =>
      obtain ⟨k, hk, rfl, HS⟩ := hrel
      by_cases hlt : k < n
      · have hkl : k < xs.length := by rw [HX.out]; exact hlt
        obtain ⟨b, o, rfl, g1⟩ := Rd.get HR.out hkl
        cases gm : memB (xs.getD k 0)
        · have HN : Hid (zb = false) := HF.out k hlt gm
          generalize xs.getD k 0 = v at g1 gm
          have q := fun wx => implMember_c v wx
          skip
          rw [gm] at q
          clear hkl gm
          go_wp2_with fail
          refine (q _).mono ?_
          clear q
          rintro e w' ⟨rfl, hw⟩
          subst w'
          go_wp2
          go_ret
          exact ⟨ret_bool HN.out.symm, rfl⟩
        · have HS2 : Hid (∀ j, j < k + 1 → memB (xs.getD j 0) = true) := fun j hj => by
            by_cases e : j = k
            · rw [e]; exact gm
            · exact HS.out j (by omega)
          generalize xs.getD k 0 = v at g1 gm
          have q := fun wx => implMember_c v wx
          skip
          rw [gm] at q
          clear hkl gm
          go_wp2_with fail
          refine (q _).mono ?_
          clear q
          rintro e w' ⟨rfl, hw⟩
          subst w'
          go_wp2
          go_round
          case rel => exact ⟨k + 1, by omega, by go_num, HS2⟩
          case measure => simp [intOf]; omega
      · obtain rfl : k = n := by omega
        have HM : Hid (zb = true) := HE.out HS.out
        go_wp2
        go_ret
        exact ⟨ret_bool HM.out.symm, rfl⟩

/-- One at least, and at most five, each a secret. -/
theorem areSomeSec5_c (ao : Option Addr) (n c : Nat) (xs : List Int) (w : World) (hx : xs.length = n) (hn : n ≤ 17592186044416) (hr : Rd w ao xs) :
    Calls Tryd.prog 61 #[.slice ao n c, .int .i64 5, .func (.func 62) #[] #[]] w fun e w' => e = .returned (.bool (secsB xs)) ∧ w' = w := by
  have q := areFewSec_c ao n c xs w hx hn hr
  have e : secsB xs = (decide (0 < n) && (decide (xs.length ≤ 5) && xs.all secB6)) := by
    unfold secsB
    rw [← Bool.and_assoc, ← hx]
    congr 1
    rw [← Bool.decide_and]
    exact decide_eq_decide.2 (by omega)
  rw [e]
  clear e
  generalize (decide (xs.length ≤ 5) && xs.all secB6) = b at q ⊢
  clear hx hr
  by_cases h0 : n = 0
  · have h0' : ¬ (0 : Int) < (n : Int) := by omega
    rw [decide_eq_false (show ¬ 0 < n by omega), Bool.false_and]
    clear h0 q
    go_enter Tryd.func61, Tryd.ntmps61
    go_wp2
    go_ret
    exact ⟨rfl, rfl⟩
  · have h0' : (0 : Int) < (n : Int) := by omega
    rw [decide_eq_true (show 0 < n by omega), Bool.true_and]
    clear h0
    go_enter Tryd.func61, Tryd.ntmps61
    go_wp2_with fail
    refine q.mono ?_
    clear q
    rintro e w' ⟨rfl, hw⟩
    subst w'
    go_wp2
    go_ret
    exact ⟨rfl, rfl⟩

theorem areSecrets_c (ao : Option Addr) (n c : Nat) (xs : List Int) (w : World) (hx : xs.length = n) (hn : n ≤ 17592186044416) (hr : Rd w ao xs) :
    Calls Tryd.prog 32 #[.slice ao n c] w fun e w' => e = .returned (.bool (secsB xs)) ∧ w' = w := by
  have q := areSomeSec5_c ao n c xs w hx hn hr
  generalize secsB xs = b at q ⊢
  clear hx hr
  go_enter Tryd.func32, Tryd.ntmps32
  go_wp2_with fail
  refine q.mono ?_
  clear q
  rintro e w' ⟨rfl, hw⟩
  subst w'
  go_wp2
  go_ret
  exact ⟨rfl, rfl⟩

theorem prodM_take {xs : List Int} {k : Nat} (h : k < xs.length) : prodM 1 (xs.take (k + 1)) = prodM 1 (xs.take k) * xs.getD k 0 % 2999 := by
  rw [take_snoc h, prodM_snoc]; rfl

set_option maxHeartbeats 1000000 in
theorem productI_c (ao : Option Addr) (n c : Nat) (xs : List Int) (w : World) (hx : xs.length = n) (hn : n ≤ 17592186044416) (hr : Rd w ao xs) (hb : ∀ x ∈ xs, 0 ≤ x ∧ x < 2999) :
    Calls Tryd.prog 33 #[.slice ao n c, .int .i64 1, .func (.func 36) #[] #[]] w fun e w' => e = .returned (.int .i64 (prodM 1 xs)) ∧ w' = w := by
  have HX : Hid (xs.length = n) := hx
  have HR : Hid (Rd w ao xs) := hr
  have HA : Hid (∀ k, k < n → 0 ≤ xs.getD k 0 ∧ xs.getD k 0 < 2999) := fun k hk => by
    have hk : k < xs.length := by rw [hx]; exact hk
    have := hb (xs[k]) (List.getElem_mem hk)
    simpa [List.getD, hk] using this
  clear hx hr hb
  go_enter Tryd.func33, Tryd.ntmps33
  go_wp2
  go_loop [7, 13] (fun nv iv => ∃ (k : Nat) (r : Int), k ≤ n ∧ iv = .int .i64 k ∧ nv = .int .i64 r ∧ 0 ≤ r ∧ r < 2999 ∧ Hid (prodM 1 (xs.take k) = r)) (fun _ iv => n - (intOf iv).toNat)
  case atStart => exact ⟨0, 1, Nat.zero_le _, rfl, rfl, by omega, by omega, rfl⟩
  case round =>
    obtain ⟨k, r, hk, rfl, rfl, r0, r1, HS⟩ := hrel
    by_cases hlt : k < n
    · have hkl : k < xs.length := by rw [HX.out]; exact hlt
      obtain ⟨b, o, rfl, g1⟩ := Rd.get HR.out hkl
      have hxk := HA.out k hlt
      have H1 : Hid (prodM 1 (xs.take (k + 1)) = r * xs.getD k 0 % 2999) := by have := prodM_take hkl; rw [HS.out] at this; exact this
      generalize xs.getD k 0 = x at g1 hxk H1
      clear hkl
      go_wp2_with fail
      refine (timesRests_c r x _ r0 r1 hxk.1 hxk.2).mono ?_
      rintro e w' ⟨rfl, hw⟩
      subst w'
      go_wp2
      go_round
      case rel => exact ⟨k + 1, r * x % 2999, by omega, by go_num, rfl, by omega, by omega, H1⟩
      case measure => simp [intOf]; omega
    · go_wp2
      go_ret
      obtain rfl : k = n := by omega
      exact ⟨ret_int (by rw [← HS.out, List.take_of_length_le (by rw [HX.out]; exact Nat.le_refl _)]), rfl⟩

set_option maxHeartbeats 1000000 in
theorem withoutParts_c (x y : Int) (ao : Option Addr) (n c : Nat) (xs : List Int) (w : World) (hx : xs.length = n) (hn : n ≤ 17592186044416) (hr : Rd w ao xs) (hb : ∀ v ∈ xs, 0 ≤ v ∧ v < 2999) (hy : 0 ≤ y ∧ y < 2999) :
    Calls Tryd.prog 46 #[.agg #[.int .i64 x, .int .i64 y], .slice ao n c] w fun e w' => e = .returned (.int .i64 (lessI y xs)) ∧ Below w.heap.size w w' := by
  have HB : Hid (Below w.heap.size w (w.alloc (Obj.cells #[Value.int .i64 x, Value.int .i64 y] 31))) := below_one _ _
  have hrr : Rd (w.alloc (Obj.cells #[Value.int .i64 x, Value.int .i64 y] 31)) ao xs := hr.later (below_one _ _)
  have H1 : Hid (∀ wx, Rd wx ao xs → Calls Tryd.prog 33 #[.slice ao n c, .int .i64 1, .func (.func 36) #[] #[]] wx fun e w' => e = .returned (.int .i64 (prodM 1 xs)) ∧ w' = wx) := fun wx h => productI_c ao n c xs wx hx hn h hb
  have HR : Hid (Rd (w.alloc (Obj.cells #[Value.int .i64 x, Value.int .i64 y] 31)) ao xs) := hrr
  have p0 := prodM_bd (n := 1) xs (by omega)
  have HV : Hid (lessI y xs = y * pw (prodM 1 xs) 2997 % 2999) := rfl
  clear hr hrr hb hx
  generalize lessI y xs = z at HV ⊢
  generalize prodM 1 xs = p at p0 H1 HV
  have j0 := pw_bd p 2997
  have H2 : Hid (∀ wx, Calls Tryd.prog 65 #[.int .i64 p] wx fun e w' => e = .returned (.int .i64 (pw p 2997)) ∧ w' = wx) := fun wx => inverseOfRest_c p wx p0.1 p0.2
  generalize pw p 2997 = j at j0 H2 HV
  have H3 : Hid (∀ wx, Calls Tryd.prog 36 #[.int .i64 y, .int .i64 j] wx fun e w' => e = .returned (.int .i64 (y * j % 2999)) ∧ w' = wx) := fun wx => timesRests_c y j wx hy.1 hy.2 j0.1 j0.2
  go_enter Tryd.func46, Tryd.ntmps46
  go_wp2
  go_quiet (first | (go_at_call 33; exact Calls.quiet_of_same (H1.out _ HR.out)) | (go_at_call 65; exact Calls.quiet_of_same (H2.out _)) | (go_at_call 36; exact Calls.quiet_of_same (H3.out _)))
  go_wp2
  go_ret
  exact ⟨ret_int HV.out.symm, below_drewN HB.out _⟩

end Go.Proofs.YtobomcmjilcnaaaDoor
