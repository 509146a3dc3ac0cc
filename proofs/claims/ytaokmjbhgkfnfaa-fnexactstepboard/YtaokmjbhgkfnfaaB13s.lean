/- Chapter 8: lists looked at, rising ones, and the library's search in them. -/
import Derived.Test.YtaokmjbhgkfnfaaA13Rs
namespace Go.Proofs.Ytaokmjbhgkfnfaa
set_option linter.unusedVariables false
set_option maxRecDepth 1000000
set_option linter.unusedSimpArgs false
open Go.RowKit

set_option maxHeartbeats 1000000 in
theorem risingI_c (ao : Option Addr) (n c : Nat) (xs : List Int) (w : World) (hx : xs.length = n) (hn : n ≤ 17592186044416) (hr : Rd w ao xs) :
    Calls Try.prog 98 #[.slice ao n c] w fun e w' => e = .returned (.bool (risB ltI xs)) ∧ Below w.heap.size w w' := by
  have HX : Hid (xs.length = n) := hx
  have HR : Hid (Rd w ao xs) := hr
  have HA := risB_at (lt := ltI) 0 (l := xs)
  have HF : Hid (∀ k, 1 ≤ k → k < n → ltI (xs.getD (k - 1) 0) (xs.getD k 0) = false → risB ltI xs = false) := fun k h1 hk h => by
    cases e : risB ltI xs with
    | false => rfl
    | true =>
      have := HA.1 e (k - 1) (by omega)
      rw [show k - 1 + 1 = k by omega, h] at this; cases this
  have HE : Hid ((∀ j, 1 ≤ j → j < n → ltI (xs.getD (j - 1) 0) (xs.getD j 0) = true) → risB ltI xs = true) := fun h => HA.2 fun i hi => by
    have := h (i + 1) (by omega) (by omega)
    rwa [show i + 1 - 1 = i by omega] at this
  generalize risB ltI xs = zb at HF HE ⊢
  clear hx hr HA
  go_enter Try.func98, Try.ntmps98
  go_wp2
  go_loopw [3] (fun iv wr => ∃ (k : Nat), 1 ≤ k ∧ (k ≤ n ∨ k = 1) ∧ iv = .int .i64 k ∧ Hid (∀ j, 1 ≤ j → j < k → ltI (xs.getD (j - 1) 0) (xs.getD j 0) = true) ∧ Hid (Below w.heap.size w wr)) (fun iv _ => n - (intOf iv).toNat)
  case atStart => exact ⟨1, Nat.le_refl _, Or.inr rfl, rfl, fun j h h2 => absurd h (by omega), Below.refl _ _⟩
  case round =>
    obtain ⟨k, hk1, hk, rfl, HS, HB⟩ := hrel
    by_cases hlt : k < n
    · have hkl : k < xs.length := by rw [HX.out]; exact hlt
      obtain ⟨b, o, rfl, g1⟩ := (HR.out.later HB.out).get hkl
      obtain ⟨b', o', he, g2⟩ := (HR.out.later HB.out).get (k := k - 1) (by omega)
      simp only [Option.some.injEq, Addr.mk.injEq] at he
      obtain ⟨rfl, rfl, _⟩ := he
      obtain ⟨m, rfl⟩ : ∃ m, k = m + 1 := ⟨k - 1, by omega⟩
      rw [show m + 1 - 1 = m by omega] at g2
      have h0 : (0 : Int) ≤ (m : Int) + 1 := by omega
      have h1 : (m : Int) + 1 < (n : Int) := by omega
      have h2 : (0 : Int) ≤ (m : Int) := by omega
      have h3 : (m : Int) < (n : Int) := by omega
      have h4 : ((m : Int) + 1 - 1) = (m : Int) := by omega
      have g1' : wr.cell? ⟨b, o + (m + 1), none⟩ = some (.int .i64 (xs.getD (m + 1) 0)) := g1
      clear g1
      cases gm : ltI (xs.getD m 0) (xs.getD (m + 1) 0)
      · have HN : Hid (zb = false) := HF.out (m + 1) (by omega) hlt gm
        generalize xs.getD (m + 1) 0 = y at g1' gm
        generalize xs.getD m 0 = x at g2 gm
        have ht : y ≤ x := by simp [ltI] at gm; omega
        clear hkl gm hk hk1
        go_wp2
        go_quiet (fail)
        go_wp2
        go_ret
        exact ⟨ret_bool HN.out.symm, below_drewN HB.out _⟩
      · have HS2 : Hid (∀ j, 1 ≤ j → j < m + 1 + 1 → ltI (xs.getD (j - 1) 0) (xs.getD j 0) = true) := fun j h hj => by
          by_cases e : j = m + 1
          · rw [e]; exact gm
          · exact HS.out j h (by omega)
        generalize xs.getD (m + 1) 0 = y at g1' gm
        generalize xs.getD m 0 = x at g2 gm
        have ht : ¬ y ≤ x := by simp [ltI] at gm; omega
        clear hkl gm hk hk1
        go_wp2
        go_quiet (fail)
        go_wp2
        go_roundw
        case rel => exact ⟨m + 1 + 1, by omega, Or.inl (by omega), by go_num, HS2, below_drewN HB.out _⟩
        case measure => simp [intOf]; omega
    · have HM : Hid (zb = true) := HE.out fun j h1 h2 => HS.out j h1 (by omega)
      have hlt' : ¬ (k : Int) < (n : Int) := by omega
      clear hk hk1
      go_wp2
      go_ret
      exact ⟨ret_bool HM.out.symm, HB.out⟩

end Go.Proofs.Ytaokmjbhgkfnfaa
