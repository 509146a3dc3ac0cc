/- Chapter 12: lists of statements looked at. -/
import Derived.Test.YtleddlfojogdiaaGreatB12
namespace Go.Proofs.YtleddlfojogdiaaGreat
set_option linter.unusedVariables false
set_option maxRecDepth 1000000
set_option linter.unusedSimpArgs false
open Go.RowKit

set_option maxHeartbeats 4000000 in
theorem l12Good_c (ao : Option Addr) (n c : Nat) (xs : List St) (w : World) (hx : xs.length = n) (hn : n ≤ 17592186044416) (hr : RdS w ao xs) :
    Calls Tryz.prog 39 #[.slice ao n c] w fun e w' => e = .returned (.bool (stsB xs)) ∧ Below w.heap.size w w' := by
  have HX : Hid (xs.length = n) := hx
  have HR : Hid (RdS w ao xs) := hr
  unfold stsB
  rw [hx]
  clear hx hr
  have HD : Hid (decide ((n : Int) ≤ 60) = decide (n ≤ 60)) := decide_eq_decide.2 (by omega)
  have HF : Hid (∀ k, k < n → stB (xs.getD k (0, 0, 0, 0, false)) = false → xs.all stB = false) := fun k hk h => all_out (d := (0, 0, 0, 0, false)) (by rw [HX.out]; exact hk) h
  have HE : Hid ((∀ j, j < n → stB (xs.getD j (0, 0, 0, 0, false)) = true) → xs.all stB = true) := fun h => all_end (d := (0, 0, 0, 0, false)) (fun j hj => h j (by rw [HX.out] at hj; exact hj))
  generalize xs.all stB = zb at HF HE ⊢
  go_enter Tryz.func39, Tryz.ntmps39
  go_wp2
  go_loopw [7] (fun iv wr => ∃ (k : Nat), k ≤ n ∧ iv = .int .i64 k ∧ Hid (∀ j, j < k → stB (xs.getD j (0, 0, 0, 0, false)) = true) ∧ Hid (Below w.heap.size w wr)) (fun iv _ => n - (intOf iv).toNat)
  case atStart => exact ⟨0, Nat.zero_le _, rfl, fun j h => absurd h (by omega), Below.refl _ _⟩
  case round =>
    obtain ⟨k, hk, rfl, HS, HB⟩ := hrel
    by_cases hlt : k < n
    · have hkl : k < xs.length := by rw [HX.out]; exact hlt
      have HFk : Hid (stB (xs.getD k (0, 0, 0, 0, false)) = false → zb = false) := HF.out k hlt
      have HSk : Hid (stB (xs.getD k (0, 0, 0, 0, false)) = true → ∀ j, j < k + 1 → stB (xs.getD j (0, 0, 0, 0, false)) = true) := fun gm j hj => by
        by_cases e : j = k
        · rw [e]; exact gm
        · exact HS.out j (by omega)
      have HSp : Hid (stB (xs.getD k (0, 0, 0, 0, false)) = stB ((xs.getD k (0, 0, 0, 0, false)).1, (xs.getD k (0, 0, 0, 0, false)).2.1, (xs.getD k (0, 0, 0, 0, false)).2.2.1, (xs.getD k (0, 0, 0, 0, false)).2.2.2.1, (xs.getD k (0, 0, 0, 0, false)).2.2.2.2)) := rfl
      obtain ⟨b, o, rfl, g0, g1, g2, g3, g4⟩ := (HR.out.later HB.out).get hkl
      have HW : Hid (Below w.heap.size w (wr.alloc (.cells #[.int .i64 (xs.getD k (0, 0, 0, 0, false)).1, .int .i64 (xs.getD k (0, 0, 0, 0, false)).2.1, .int .i64 (xs.getD k (0, 0, 0, 0, false)).2.2.1, .int .i64 (xs.getD k (0, 0, 0, 0, false)).2.2.2.1, .bool (xs.getD k (0, 0, 0, 0, false)).2.2.2.2] 34))) := HB.out.alloc HB.out.size _
      clear HF HE HS hkl
      generalize xs.getD k (0, 0, 0, 0, false) = s at *
      obtain ⟨x0, x1, x2, x3, x4⟩ := s
      simp only at g0 g1 g2 g3 g4
      have q1 := fun wx => l12Witness_c x0 wx
      have q2 := fun wx => specGood_c x1 x2 x3 wx
      have hst : stB (x0, x1, x2, x3, x4) = (inB x0 0 6 && clB (x1, x2, x3)) := rfl
      rw [hst] at HFk HSk
      clear hst HSp
      generalize inB x0 0 6 = y0 at q1 HFk HSk
      generalize clB (x1, x2, x3) = y1 at q2 HFk HSk
      cases y0
      · have HN : Hid (zb = false) := HFk.out rfl
        clear HFk HSk
        go_wp2_with fail
        refine (q1 _).mono ?_
        clear q1
        rintro e w' ⟨rfl, hw⟩
        subst w'
        go_wp2
        go_ret
        exact ⟨ret_bool (by rw [HN.out]; rfl), HW.out⟩
      · cases y1
        · have HN : Hid (zb = false) := HFk.out rfl
          clear HFk HSk
          go_wp2_with fail
          refine (q1 _).mono ?_
          clear q1
          rintro e w' ⟨rfl, hw⟩
          subst w'
          go_wp2_with fail
          refine (q2 _).mono ?_
          clear q2
          rintro e w1 ⟨rfl, hb⟩
          have HB1 : Hid (Below w.heap.size w w1) := HW.out.trans (hb.mono HW.out.size)
          clear hb
          go_wp2
          go_ret
          exact ⟨ret_bool (by rw [HN.out]; rfl), HB1.out⟩
        · have HS2 : Hid (∀ j, j < k + 1 → stB (xs.getD j (0, 0, 0, 0, false)) = true) := HSk.out rfl
          clear HFk HSk
          go_wp2_with fail
          refine (q1 _).mono ?_
          clear q1
          rintro e w' ⟨rfl, hw⟩
          subst w'
          go_wp2_with fail
          refine (q2 _).mono ?_
          clear q2
          rintro e w1 ⟨rfl, hb⟩
          have HB1 : Hid (Below w.heap.size w w1) := HW.out.trans (hb.mono HW.out.size)
          clear hb
          go_wp2
          go_roundw
          case rel => exact ⟨k + 1, by omega, by go_num, HS2, HB1⟩
          case measure => simp [intOf]; omega
    · obtain rfl : k = n := by omega
      have HM : Hid (zb = true) := HE.out HS.out
      go_wp2
      go_ret
      exact ⟨ret_bool (by rw [HM.out, Bool.true_and, HD.out]), HB.out⟩

set_option maxHeartbeats 4000000 in
theorem areFewSt_c (ao : Option Addr) (n c : Nat) (xs : List St) (w : World) (hx : xs.length = n) (hn : n ≤ 17592186044416) (hr : RdS w ao xs) :
    Calls Tryz.prog 60 #[.slice ao n c, .int .i64 60, .func (.func 61) #[] #[]] w fun e w' => e = .returned (.bool (stsB xs)) ∧ Below w.heap.size w w' := by
  have HX : Hid (xs.length = n) := hx
  have HR : Hid (RdS w ao xs) := hr
  unfold stsB
  rw [hx]
  clear hx hr
  by_cases h5 : 60 < n
  · have h5' : (60 : Int) < (n : Int) := by omega
    rw [decide_eq_false (show ¬ n ≤ 60 by omega), Bool.and_false]
    go_enter Tryz.func60, Tryz.ntmps60
    go_wp2
    go_ret
    exact ⟨rfl, Below.refl _ _⟩
  have h5' : ¬ (60 : Int) < (n : Int) := by omega
  rw [decide_eq_true (show n ≤ 60 by omega), Bool.and_true]
  clear h5
  have HF : Hid (∀ k, k < n → stB (xs.getD k (0, 0, 0, 0, false)) = false → xs.all stB = false) := fun k hk h => all_out (d := (0, 0, 0, 0, false)) (by rw [HX.out]; exact hk) h
  have HE : Hid ((∀ j, j < n → stB (xs.getD j (0, 0, 0, 0, false)) = true) → xs.all stB = true) := fun h => all_end (d := (0, 0, 0, 0, false)) (fun j hj => h j (by rw [HX.out] at hj; exact hj))
  generalize xs.all stB = zb at HF HE ⊢
  go_enter Tryz.func60, Tryz.ntmps60
  go_wp2
  go_loopw [15] (fun iv wr => ∃ (k : Nat), k ≤ n ∧ iv = .int .i64 k ∧ Hid (∀ j, j < k → stB (xs.getD j (0, 0, 0, 0, false)) = true) ∧ Hid (Below w.heap.size w wr)) (fun iv _ => n - (intOf iv).toNat)
  case atStart => exact ⟨0, Nat.zero_le _, rfl, fun j h => absurd h (by omega), Below.refl _ _⟩
  case round =>
    obtain ⟨k, hk, rfl, HS, HB⟩ := hrel
    by_cases hlt : k < n
    · have hkl : k < xs.length := by rw [HX.out]; exact hlt
      have HFk : Hid (stB (xs.getD k (0, 0, 0, 0, false)) = false → zb = false) := HF.out k hlt
      have HSk : Hid (stB (xs.getD k (0, 0, 0, 0, false)) = true → ∀ j, j < k + 1 → stB (xs.getD j (0, 0, 0, 0, false)) = true) := fun gm j hj => by
        by_cases e : j = k
        · rw [e]; exact gm
        · exact HS.out j (by omega)
      have HSp : Hid (stB (xs.getD k (0, 0, 0, 0, false)) = stB ((xs.getD k (0, 0, 0, 0, false)).1, (xs.getD k (0, 0, 0, 0, false)).2.1, (xs.getD k (0, 0, 0, 0, false)).2.2.1, (xs.getD k (0, 0, 0, 0, false)).2.2.2.1, (xs.getD k (0, 0, 0, 0, false)).2.2.2.2)) := rfl
      obtain ⟨b, o, rfl, g0, g1, g2, g3, g4⟩ := (HR.out.later HB.out).get hkl
      have HW : Hid (Below w.heap.size w (wr.alloc (.cells #[.int .i64 (xs.getD k (0, 0, 0, 0, false)).1, .int .i64 (xs.getD k (0, 0, 0, 0, false)).2.1, .int .i64 (xs.getD k (0, 0, 0, 0, false)).2.2.1, .int .i64 (xs.getD k (0, 0, 0, 0, false)).2.2.2.1, .bool (xs.getD k (0, 0, 0, 0, false)).2.2.2.2] 34))) := HB.out.alloc HB.out.size _
      clear HF HE HS hkl
      generalize xs.getD k (0, 0, 0, 0, false) = s at *
      obtain ⟨x0, x1, x2, x3, x4⟩ := s
      simp only at g0 g1 g2 g3 g4
      have q := fun wx => isStatement_c x0 x1 x2 x3 x4 wx
      cases gm : stB (x0, x1, x2, x3, x4)
      · have HN : Hid (zb = false) := HFk.out gm
        rw [gm] at q
        clear gm HFk HSk HSp
        go_wp2_with fail
        refine (q _).mono ?_
        clear q
        rintro e w1 ⟨rfl, hb⟩
        have HB1 : Hid (Below w.heap.size w w1) := HW.out.trans (hb.mono HW.out.size)
        clear hb
        go_wp2
        go_ret
        exact ⟨ret_bool HN.out.symm, HB1.out⟩
      · have HS2 : Hid (∀ j, j < k + 1 → stB (xs.getD j (0, 0, 0, 0, false)) = true) := HSk.out gm
        rw [gm] at q
        clear gm HFk HSk HSp
        go_wp2_with fail
        refine (q _).mono ?_
        clear q
        rintro e w1 ⟨rfl, hb⟩
        have HB1 : Hid (Below w.heap.size w w1) := HW.out.trans (hb.mono HW.out.size)
        clear hb
        go_wp2
        go_roundw
        case rel => exact ⟨k + 1, by omega, by go_num, HS2, HB1⟩
        case measure => simp [intOf]; omega
    · obtain rfl : k = n := by omega
      have HM : Hid (zb = true) := HE.out HS.out
      go_wp2
      go_ret
      exact ⟨ret_bool (HM.out.symm), HB.out⟩

theorem areStatements_c (ao : Option Addr) (n c : Nat) (xs : List St) (w : World) (hx : xs.length = n) (hn : n ≤ 17592186044416) (hr : RdS w ao xs) :
    Calls Tryz.prog 35 #[.slice ao n c] w fun e w' => e = .returned (.bool (stsB xs)) ∧ Below w.heap.size w w' := by
  have q := areFewSt_c ao n c xs w hx hn hr
  generalize stsB xs = z at q
  clear hx hr
  go_enter Tryz.func35, Tryz.ntmps35
  go_wp2_with fail
  refine q.mono ?_
  clear q
  rintro e w' ⟨rfl, hb⟩
  go_wp2
  go_ret
  exact ⟨rfl, hb⟩

end Go.Proofs.YtleddlfojogdiaaGreat
