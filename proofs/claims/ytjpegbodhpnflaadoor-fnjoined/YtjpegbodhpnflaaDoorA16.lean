/- Chapter 16: the small functions of both sides. -/
import Derived.Test.YtjpegbodhpnflaaDoorJ16
import Derived.Test.YtjpegbodhpnflaaDoorP16
namespace Go.Proofs.YtjpegbodhpnflaaDoor
set_option linter.unusedVariables false
set_option maxRecDepth 1000000
set_option linter.unusedSimpArgs false
open Go.RowKit

def playB (n : Int) : Bool := decide (1 ≤ n ∧ n ≤ 100000)

theorem isPlayable_c (n : Int) (w : World) : Calls Tryd.prog 39 #[.int .i64 n] w fun e w' => e = .returned (.bool (playB n)) ∧ w' = w := by
  unfold playB
  by_cases h1 : 1 ≤ n
  · by_cases h2 : n ≤ 100000
    · rw [decide_eq_true ⟨h1, h2⟩]
      go_enter Tryd.func39, Tryd.ntmps39
      go_wp2
      go_ret
      exact ⟨by simp [h1, h2], rfl⟩
    · rw [decide_eq_false (fun h => h2 h.2)]
      go_enter Tryd.func39, Tryd.ntmps39
      go_wp2
      go_ret
      exact ⟨by simp [h2], rfl⟩
  · rw [decide_eq_false (fun h => h1 h.1)]
    go_enter Tryd.func39, Tryd.ntmps39
    go_wp2
    go_ret
    exact ⟨by simp [h1], rfl⟩

set_option maxHeartbeats 1000000 in
theorem fewP_c (K : Nat) (hK : K ≤ 1000) (ao : Option Addr) (n c : Nat) (xs : List Int) (w : World) (hx : xs.length = n) (hn : n ≤ 17592186044416) (hr : Rd w ao xs) :
    Calls Tryd.prog 38 #[.slice ao n c, .int .i64 (K : Int), .func (.func 39) #[] #[]] w fun e w' => e = .returned (.bool (decide (xs.length ≤ K) && xs.all playB)) ∧ w' = w := by
  have HX : Hid (xs.length = n) := hx
  have HR : Hid (Rd w ao xs) := hr
  rw [hx]
  clear hx hr
  by_cases h5 : K < n
  · have h5' : (K : Int) < (n : Int) := by omega
    rw [decide_eq_false (show ¬ n ≤ K by omega), Bool.false_and]
    go_enter Tryd.func38, Tryd.ntmps38
    go_wp2
    go_ret
    exact ⟨rfl, rfl⟩
  · have h5' : ¬ (K : Int) < (n : Int) := by omega
    rw [decide_eq_true (show n ≤ K by omega), Bool.true_and]
    have HF : Hid (∀ k, k < n → playB (xs.getD k 0) = false → xs.all playB = false) := fun k hk h => all_out (d := 0) (by rw [HX.out]; exact hk) h
    have HE : Hid ((∀ j, j < n → playB (xs.getD j 0) = true) → xs.all playB = true) := fun h => all_end (d := 0) (fun j hj => h j (by rw [HX.out] at hj; exact hj))
    generalize xs.all playB = zb at HF HE ⊢
    go_enter Tryd.func38, Tryd.ntmps38
    go_wp2
    go_loop [15] (fun iv => ∃ (k : Nat), k ≤ n ∧ iv = .int .i64 k ∧ Hid (∀ j, j < k → playB (xs.getD j 0) = true)) (fun iv => n - (intOf iv).toNat)
    case atStart => exact ⟨0, Nat.zero_le _, rfl, fun j h => absurd h (by omega)⟩
    case round =>
      obtain ⟨k, hk, rfl, HS⟩ := hrel
      by_cases hlt : k < n
      · have hkl : k < xs.length := by rw [HX.out]; exact hlt
        obtain ⟨b, o, rfl, g1⟩ := HR.out.get hkl
        cases gm : playB (xs.getD k 0)
        · have HN : Hid (zb = false) := HF.out k hlt gm
          generalize xs.getD k 0 = v at g1 gm
          have q := fun wx => isPlayable_c v wx
          rw [gm] at q
          clear hkl gm
          go_wp2_with fail
          refine (q _).mono ?_
          clear q
          rintro e w' ⟨rfl, hw⟩
          subst w'
          go_wp2
          go_ret
          exact ⟨ret_bool HN.out.symm, rfl⟩
        · have HS2 : Hid (∀ j, j < k + 1 → playB (xs.getD j 0) = true) := fun j hj => by
            by_cases e : j = k
            · rw [e]; exact gm
            · exact HS.out j (by omega)
          generalize xs.getD k 0 = v at g1 gm
          have q := fun wx => isPlayable_c v wx
          rw [gm] at q
          clear hkl gm
          go_wp2_with fail
          refine (q _).mono ?_
          clear q
          rintro e w' ⟨rfl, hw⟩
          subst w'
          go_wp2
          go_round
          case rel => exact ⟨k + 1, by omega, by go_num, HS2⟩
          case measure => simp [intOf]; omega
      · obtain rfl : k = n := by omega
        have HM : Hid (zb = true) := HE.out HS.out
        go_wp2
        go_ret
        exact ⟨ret_bool HM.out.symm, rfl⟩

theorem greatest_c (ao : Option Addr) (n c : Nat) (xs : List Int) (w : World) (hx : xs.length = n) (hn : n ≤ 17592186044416) (hr : Rd w ao xs) :
    Calls Tryd.prog 46 #[.slice ao n c] w fun e w' => e = .returned (.int .i64 (topL xs)) ∧ w' = w := by
  by_cases h0 : n = 0
  · subst h0
    obtain rfl := List.length_eq_zero_iff.1 hx
    rw [topL_nil]
    go_enter Tryd.func46, Tryd.ntmps46
    go_wp2
    go_ret
    exact ⟨rfl, rfl⟩
  · have hne : xs ≠ [] := fun e => h0 (by rw [← hx, e]; rfl)
    rw [topL_getD hne, hx]
    obtain ⟨b, o, rfl, g1⟩ := hr.get (k := n - 1) (by omega)
    obtain ⟨m, rfl⟩ : ∃ m, n = m + 1 := ⟨n - 1, by omega⟩
    rw [Nat.add_sub_cancel] at g1 ⊢
    generalize xs.getD m 0 = v at g1 ⊢
    have hb : ((m + 1 : Nat) : Int) ≠ 0 := by omega
    clear hx hr hne h0
    go_enter Tryd.func46, Tryd.ntmps46
    go_wp2
    go_ret
    exact ⟨rfl, rfl⟩

theorem signFor_c (b : Bool) (w : World) : Calls Tryd.prog 64 #[.bool b] w fun e w' => e = .returned (.int .i32 (if b = true then 49 else 48)) ∧ w' = w := by
  cases b
  · go_enter Tryd.func64, Tryd.ntmps64
    go_wp2
    go_ret
    exact ⟨rfl, rfl⟩
  · go_enter Tryd.func64, Tryd.ntmps64
    go_wp2
    go_ret
    exact ⟨rfl, rfl⟩

theorem codeFor_c (ao : Option Addr) (n c : Nat) (xs : List Int) (z : Int) (w : World) (hx : xs.length = n) (hn : n ≤ 17592186044416) (hr : Rd w ao xs) (hR : Ris ltI xs) (hz : 1 ≤ z ∧ z ≤ 100000) (ht : 0 ≤ topL xs ∧ topL xs ≤ 100000) :
    Calls Tryd.prog 42 #[.slice ao n c, .int .i64 z] w fun e w' => e = .returned (.int .i64 (codeL xs z)) ∧ Below w.heap.size w w' := by
  have q := has_c ao n c xs z w hx hn hr hR
  have HQ : Hid (∀ wx, Below w.heap.size w wx → Calls Tryd.prog 46 #[.slice ao n c] wx fun e w' => e = .returned (.int .i64 (topL xs)) ∧ w' = wx) := fun wx h => greatest_c ao n c xs wx hx hn (hr.later h)
  unfold codeL
  by_cases h1 : z ∈ xs
  · rw [if_pos h1]
    rw [decide_eq_true h1] at q
    clear hx hr hR h1 HQ
    go_enter Tryd.func42, Tryd.ntmps42
    go_wp2_with fail
    refine q.mono ?_
    clear q
    rintro e w1 ⟨rfl, hb⟩
    have HB : Hid (Below w.heap.size w w1) := hb
    clear hb
    go_wp2
    go_ret
    exact ⟨rfl, HB.out⟩
  · rw [if_neg h1]
    rw [decide_eq_false h1] at q
    clear hx hr hR h1
    generalize topL xs = t at HQ ht ⊢
    have e0 : IntKind.wrap .i64 (t - z) = t - z := by rw [IntKind.wrap_i64]; omega
    by_cases h2 : 16 ≤ t - z
    · rw [if_pos h2]
      go_enter Tryd.func42, Tryd.ntmps42
      go_wp2_with fail
      refine q.mono ?_
      clear q
      rintro e w1 ⟨rfl, hb⟩
      have HB : Hid (Below w.heap.size w w1) := hb
      have q2 := HQ.out w1 hb
      clear hb HQ
      go_wp2_with fail
      refine q2.mono ?_
      clear q2
      rintro e w2 ⟨rfl, hw⟩
      subst w2
      go_wp2
      go_ret
      exact ⟨rfl, HB.out⟩
    · rw [if_neg h2]
      go_enter Tryd.func42, Tryd.ntmps42
      go_wp2_with fail
      refine q.mono ?_
      clear q
      rintro e w1 ⟨rfl, hb⟩
      have HB : Hid (Below w.heap.size w w1) := hb
      have q2 := HQ.out w1 hb
      clear hb HQ
      go_wp2_with fail
      refine q2.mono ?_
      clear q2
      rintro e w2 ⟨rfl, hw⟩
      subst w2
      go_wp2
      go_ret
      exact ⟨rfl, HB.out⟩

end Go.Proofs.YtjpegbodhpnflaaDoor
