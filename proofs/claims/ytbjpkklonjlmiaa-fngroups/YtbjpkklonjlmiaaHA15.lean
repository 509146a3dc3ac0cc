/- Chapter 15: the laws' own has. -/
import Derived.Test.YtbjpkklonjlmiaaT15
import Derived.Test.YtbjpkklonjlmiaaP15
namespace Go.Proofs.Ytbjpkklonjlmiaa
set_option linter.unusedVariables false
set_option maxRecDepth 1000000
set_option linter.unusedSimpArgs false
open Go.RowKit

set_option maxHeartbeats 1000000 in
theorem lhas_c (ao : Option Addr) (n c : Nat) (z : Int) (xs : List Int) (w : World) (hx : xs.length = n) (hn : n ≤ 17592186044416) (hr : Rd w ao xs) :
    Calls Try.prog 28 #[.slice ao n c, .int .i64 z] w fun e w' => e = .returned (.bool (decide (z ∈ xs))) ∧ w' = w := by
  have HX : Hid (xs.length = n) := hx
  have HR : Hid (Rd w ao xs) := hr
  have HF : Hid (∀ k, k < n → xs.getD k 0 = z → decide (z ∈ xs) = true) := fun k hk h => decide_eq_true (by rw [← h]; exact mem_getD 0 (by omega))
  have HE : Hid ((∀ j, j < n → xs.getD j 0 ≠ z) → decide (z ∈ xs) = false) := fun h => decide_eq_false (fun e => by
    obtain ⟨j, hj, he⟩ := List.getElem_of_mem e
    exact h j (by omega) (by simp [List.getD, hj, he]))
  generalize decide (z ∈ xs) = zb at HF HE ⊢
  clear hx hr
  go_enter Try.func28, Try.ntmps28
  go_wp2
  go_loop [9] (fun iv => ∃ (k : Nat), k ≤ n ∧ iv = .int .i64 k ∧ Hid (∀ j, j < k → xs.getD j 0 ≠ z)) (fun iv => n - (intOf iv).toNat)
  case atStart => exact ⟨0, Nat.zero_le _, rfl, fun j h => absurd h (by omega)⟩
  case round =>
    obtain ⟨k, hk, rfl, HS⟩ := hrel
    by_cases hlt : k < n
    · have hkl : k < xs.length := by rw [HX.out]; exact hlt
      obtain ⟨b, o, rfl, g1⟩ := HR.out.get hkl
      have h0 : (0 : Int) ≤ (k : Int) := by omega
      have hl : (k : Int) < (n : Int) := by omega
      by_cases he : xs.getD k 0 = z
      · have HN : Hid (zb = true) := HF.out k hlt he
        generalize xs.getD k 0 = v at g1 he
        have hb : (v == z) = true := by simpa using he
        clear hkl he
        go_wp2
        go_ret
        exact ⟨ret_bool HN.out.symm, rfl⟩
      · have HS2 : Hid (∀ j, j < k + 1 → xs.getD j 0 ≠ z) := fun j hj => by
          by_cases e : j = k
          · rw [e]; exact he
          · exact HS.out j (by omega)
        generalize xs.getD k 0 = v at g1 he
        have hb : (v == z) = false := by simpa using he
        clear hkl he
        go_wp2
        go_round
        case rel => exact ⟨k + 1, by omega, by go_num, HS2⟩
        case measure => simp [intOf]; omega
    · obtain rfl : k = n := by omega
      have HM : Hid (zb = false) := HE.out HS.out
      go_wp2
      go_ret
      exact ⟨ret_bool HM.out.symm, rfl⟩

end Go.Proofs.Ytbjpkklonjlmiaa
