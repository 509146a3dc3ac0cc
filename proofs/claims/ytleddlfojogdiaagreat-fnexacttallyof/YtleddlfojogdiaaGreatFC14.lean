/- Chapter 14: claims looked at. -/
import Derived.Test.YtleddlfojogdiaaGreatG12
import Derived.Test.YtleddlfojogdiaaGreatA14
namespace Go.Proofs.YtleddlfojogdiaaGreat
set_option linter.unusedVariables false
set_option maxRecDepth 1000000
set_option linter.unusedSimpArgs false
open Go.RowKit

set_option maxHeartbeats 4000000 in
theorem areFewC_c (ao : Option Addr) (n c : Nat) (xs : List Cl) (w : World) (hx : xs.length = n) (hn : n ≤ 17592186044416) (hr : RdC w ao xs) :
    Calls Tryz.prog 33 #[.slice ao n c, .int .i64 60, .func (.func 34) #[] #[]] w fun e w' => e = .returned (.bool (xs.all clB && decide (xs.length ≤ 60))) ∧ Below w.heap.size w w' := by
  have HX : Hid (xs.length = n) := hx
  have HR : Hid (RdC w ao xs) := hr
  rw [hx]
  clear hx hr
  by_cases h5 : 60 < n
  · have h5' : (60 : Int) < (n : Int) := by omega
    rw [decide_eq_false (show ¬ n ≤ 60 by omega), Bool.and_false]
    go_enter Tryz.func33, Tryz.ntmps33
    go_wp2
    go_ret
    exact ⟨rfl, Below.refl _ _⟩
  have h5' : ¬ (60 : Int) < (n : Int) := by omega
  rw [decide_eq_true (show n ≤ 60 by omega), Bool.and_true]
  clear h5
  have HF : Hid (∀ k, k < n → clB (xs.getD k (0, 0, 0)) = false → xs.all clB = false) := fun k hk h => all_out (d := (0, 0, 0)) (by rw [HX.out]; exact hk) h
  have HE : Hid ((∀ j, j < n → clB (xs.getD j (0, 0, 0)) = true) → xs.all clB = true) := fun h => all_end (d := (0, 0, 0)) (fun j hj => h j (by rw [HX.out] at hj; exact hj))
  generalize xs.all clB = zb at HF HE ⊢
  go_enter Tryz.func33, Tryz.ntmps33
  go_wp2
  go_loopw [15] (fun iv wr => ∃ (k : Nat), k ≤ n ∧ iv = .int .i64 k ∧ Hid (∀ j, j < k → clB (xs.getD j (0, 0, 0)) = true) ∧ Hid (Below w.heap.size w wr)) (fun iv _ => n - (intOf iv).toNat)
  case atStart => exact ⟨0, Nat.zero_le _, rfl, fun j h => absurd h (by omega), Below.refl _ _⟩
  case round =>
    obtain ⟨k, hk, rfl, HS, HB⟩ := hrel
    by_cases hlt : k < n
    · have hkl : k < xs.length := by rw [HX.out]; exact hlt
      have HFk : Hid (clB (xs.getD k (0, 0, 0)) = false → zb = false) := HF.out k hlt
      have HSk : Hid (clB (xs.getD k (0, 0, 0)) = true → ∀ j, j < k + 1 → clB (xs.getD j (0, 0, 0)) = true) := fun gm j hj => by
        by_cases e : j = k
        · rw [e]; exact gm
        · exact HS.out j (by omega)
      have HSp : Hid (clB (xs.getD k (0, 0, 0)) = clB ((xs.getD k (0, 0, 0)).1, (xs.getD k (0, 0, 0)).2.1, (xs.getD k (0, 0, 0)).2.2)) := rfl
      obtain ⟨b, o, rfl, g0, g1, g2⟩ := (HR.out.later HB.out).get hkl
      have HW : Hid (Below w.heap.size w (wr.alloc (.cells #[.int .i64 (xs.getD k (0, 0, 0)).1, .int .i64 (xs.getD k (0, 0, 0)).2.1, .int .i64 (xs.getD k (0, 0, 0)).2.2] 32))) := HB.out.alloc HB.out.size _
      clear HF HE HS hkl
      generalize xs.getD k (0, 0, 0) = s at *
      obtain ⟨x0, x1, x2⟩ := s
      simp only at g0 g1 g2
      have q := fun wx => implGood_c x0 x1 x2 wx
      cases gm : clB (x0, x1, x2)
      · have HN : Hid (zb = false) := HFk.out gm
        rw [gm] at q
        clear gm HFk HSk HSp
        go_wp2_with fail
        refine (q _).mono ?_
        clear q
        rintro e w1 ⟨rfl, hb⟩
        have HB1 : Hid (Below w.heap.size w w1) := HW.out.trans (hb.mono HW.out.size)
        clear hb
        go_wp2
        go_ret
        exact ⟨ret_bool HN.out.symm, HB1.out⟩
      · have HS2 : Hid (∀ j, j < k + 1 → clB (xs.getD j (0, 0, 0)) = true) := HSk.out gm
        rw [gm] at q
        clear gm HFk HSk HSp
        go_wp2_with fail
        refine (q _).mono ?_
        clear q
        rintro e w1 ⟨rfl, hb⟩
        have HB1 : Hid (Below w.heap.size w w1) := HW.out.trans (hb.mono HW.out.size)
        clear hb
        go_wp2
        go_roundw
        case rel => exact ⟨k + 1, by omega, by go_num, HS2, HB1⟩
        case measure => simp [intOf]; omega
    · obtain rfl : k = n := by omega
      have HM : Hid (zb = true) := HE.out HS.out
      go_wp2
      go_ret
      exact ⟨ret_bool (HM.out.symm), HB.out⟩

end Go.Proofs.YtleddlfojogdiaaGreat
