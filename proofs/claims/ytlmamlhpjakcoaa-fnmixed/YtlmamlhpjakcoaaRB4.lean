/- The rounds back, as the program makes them: the contract. -/
import Derived.Test.YtlmamlhpjakcoaaTR4
import Derived.Test.YtlmamlhpjakcoaaBK4
namespace Go.Proofs.Ytlmamlhpjakcoaa
set_option linter.unusedVariables false
set_option linter.unusedSimpArgs false
open Go.RowKit

theorem dnL_rev (zs : List Nat) : ∀ k, k ≤ zs.length → (dnL zs zs.length k).map Prod.snd = (zs.drop (zs.length - k)).reverse
  | 0, _ => by simp [dnL]
  | k + 1, h => by
    rw [dnL, List.map_append, dnL_rev zs k (by omega)]
    have e : zs.drop (zs.length - (k + 1)) = zs.getD (zs.length - 1 - k) 0 :: zs.drop (zs.length - k) := by
      rw [dropN_getD (by omega), show zs.length - (k + 1) + 1 = zs.length - k by omega, show zs.length - (k + 1) = zs.length - 1 - k by omega]
    rw [e]
    simp
theorem dnL_all (zs : List Nat) {n : Nat} (h : zs.length = n) : (dnL zs n n).map Prod.snd = zs.reverse := by
  subst h
  rw [dnL_rev zs _ (Nat.le_refl _)]; simp

theorem roundsBackOf_c (ao : Option Addr) (n c : Nat) (xs : List Int) (w : World) (hx : xs.length = n) (hk : keysB xs = true) (hr : Rd w ao xs) :
    Calls Try.prog 59 #[.slice ao n c] w fun e w' => ∃ a' c', e = .returned (.slice a' n c') ∧ RdR 82 w' a' (nums xs).reverse ∧ Below w.heap.size w w' := by
  obtain ⟨h8, ha⟩ := keysB_parts hk
  have hl : (nums xs).length = n := by rw [nums_length]; exact hx
  have hR : RdN w.heap.size w ao n (nums xs) := by
    by_cases h0 : n = 0
    · exact .inl h0
    · obtain ⟨b, o, rfl, hc⟩ := hr.at hx (by omega)
      refine .inr ⟨b, o, rfl, World.block_lt_of_cell? w _ (hc 0 (by omega)), fun j hj => ?_⟩
      obtain ⟨k, e1, e2, _⟩ := keys_at ha (j := j) (by omega)
      rw [hc j hj, e1, e2]
  have := callsIn_wide.1 (roundsBackOf_in Fence.wide 3 trivial trivial trivial rfl (Nat.le_refl _) ao n c (nums xs) (by omega) w hR)
  refine this.mono ?_
  rintro e w' ⟨v, rfl, ho, hb⟩
  rw [dnL_all (nums xs) hl] at ho
  obtain ⟨a', c', hv, hrd⟩ := ho.rd
  rw [List.length_reverse, hl] at hv
  subst hv
  exact ⟨a', c', rfl, hrd, hb⟩

end Go.Proofs.Ytlmamlhpjakcoaa
