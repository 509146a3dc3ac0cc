/- Chapter 13: rising lists within bounds; signatures looked at one by one. -/
import Derived.Test.YtaokmjbhgkfnfaaE13s
namespace Go.Proofs.Ytaokmjbhgkfnfaa
set_option linter.unusedVariables false
set_option maxRecDepth 1000000
set_option linter.unusedSimpArgs false
open Go.RowKit

set_option maxHeartbeats 2000000 in
theorem l1Rising_c (ao : Option Addr) (n c : Nat) (xs : List Int) (H : Int) (w : World) (hx : xs.length = n) (hn : n ≤ 17592186044416) (hr : Rd w ao xs) :
    Calls Try.prog 72 #[.slice ao n c, .int .i64 0, .int .i64 H] w fun e w' => e = .returned (.bool (risW 0 H xs)) ∧ w' = w := by
  have HX : Hid (xs.length = n) := hx
  have HR : Hid (Rd w ao xs) := hr
  have HF : Hid (∀ k, k < n → ¬ (0 ≤ xs.getD k 0 ∧ xs.getD k 0 ≤ H) ∨ (0 < k ∧ xs.getD k 0 ≤ xs.getD (k - 1) 0) → risW 0 H xs = false) := fun k hk h => by
    rw [Bool.eq_false_iff]; intro g; have := ris_within.2 g k (by omega); rcases h with h | h
    · exact h this.1
    · exact this.2 h
  have HE : Hid ((∀ k, k < n → (0 ≤ xs.getD k 0 ∧ xs.getD k 0 ≤ H) ∧ ¬ (0 < k ∧ xs.getD k 0 ≤ xs.getD (k - 1) 0)) → risW 0 H xs = true) := fun h => ris_within.1 (fun k hk => h k (by omega))
  generalize risW 0 H xs = zb at HF HE ⊢
  clear hx hr
  go_enter Try.func72, Try.ntmps72
  go_wp2
  go_loop [11] (fun iv => ∃ k : Nat, k ≤ n ∧ iv = .int .i64 k ∧ Hid (∀ j, j < k → (0 ≤ xs.getD j 0 ∧ xs.getD j 0 ≤ H) ∧ ¬ (0 < j ∧ xs.getD j 0 ≤ xs.getD (j - 1) 0))) (fun iv => n - (intOf iv).toNat)
  case atStart => exact ⟨0, Nat.zero_le _, rfl, fun j h => absurd h (by omega)⟩
  case round =>
    obtain ⟨k, hk, rfl, HS⟩ := hrel
    by_cases hlt : k < n
    · obtain ⟨b, o, rfl, g1⟩ := HR.out.get (k := k) (by rw [HX.out]; exact hlt)
      have k0 : (0 : Int) ≤ (k : Int) := by omega
      have k1 : (k : Int) < (n : Int) := by omega
      have q := fun wx => l1In_c (xs.getD k 0) 0 H wx
      by_cases hin : 0 ≤ xs.getD k 0 ∧ xs.getD k 0 ≤ H
      · rw [decide_eq_true hin] at q
        by_cases hk0 : k = 0
        · have HS2 : Hid (∀ j, j < k + 1 → (0 ≤ xs.getD j 0 ∧ xs.getD j 0 ≤ H) ∧ ¬ (0 < j ∧ xs.getD j 0 ≤ xs.getD (j - 1) 0)) := fun j hj => by
            obtain rfl : j = k := by omega
            exact ⟨hin, fun h => absurd h.1 (by omega)⟩
          have hz : ¬ (0 : Int) < (k : Int) := by omega
          generalize xs.getD k 0 = x at g1 q
          clear hin hk0
          go_wp2_with (go_at_call 73; refine (q _).mono ?_; clear q; rintro e w' ⟨rfl, hw⟩; subst w')
          go_round
          case rel => exact ⟨k + 1, by omega, by go_num, HS2⟩
          case measure => simp [intOf]; omega
        · obtain ⟨m, rfl⟩ : ∃ m, k = m + 1 := ⟨k - 1, by omega⟩
          clear hk0
          obtain ⟨b', o', he, g2⟩ := HR.out.get (k := m) (by rw [HX.out]; omega)
          simp only [Option.some.injEq, Addr.mk.injEq] at he
          obtain ⟨rfl, rfl, _⟩ := he
          have m0 : (0 : Int) < (m : Int) + 1 := by omega
          have m1 : (0 : Int) ≤ (m : Int) := by omega
          have m2 : (m : Int) < (n : Int) := by omega
          have m3 : (m : Int) + 1 - 1 = (m : Int) := by omega
          have g1' : w.cell? ⟨b, o + (m + 1), none⟩ = some (.int .i64 (xs.getD (m + 1) 0)) := g1
          clear g1
          by_cases hle : xs.getD (m + 1) 0 ≤ xs.getD m 0
          · have HN : Hid (zb = false) := HF.out (m + 1) hlt (Or.inr ⟨by omega, by rw [show m + 1 - 1 = m by omega]; exact hle⟩)
            generalize xs.getD (m + 1) 0 = x at g1' q hle
            generalize xs.getD m 0 = y at g2 hle
            clear hin
            go_wp2_with (go_at_call 73; refine (q _).mono ?_; clear q; rintro e w' ⟨rfl, hw⟩; subst w')
            go_ret
            exact ⟨ret_bool HN.out.symm, rfl⟩
          · have HS2 : Hid (∀ j, j < m + 1 + 1 → (0 ≤ xs.getD j 0 ∧ xs.getD j 0 ≤ H) ∧ ¬ (0 < j ∧ xs.getD j 0 ≤ xs.getD (j - 1) 0)) := fun j hj => by
              by_cases e : j = m + 1
              · subst e; exact ⟨hin, fun h => hle (by have := h.2; rwa [show m + 1 - 1 = m by omega] at this)⟩
              · exact HS.out j (by omega)
            generalize xs.getD (m + 1) 0 = x at g1' q hle
            generalize xs.getD m 0 = y at g2 hle
            clear hin
            go_wp2_with (go_at_call 73; refine (q _).mono ?_; clear q; rintro e w' ⟨rfl, hw⟩; subst w')
            go_round
            case rel => exact ⟨m + 1 + 1, by omega, by go_num, HS2⟩
            case measure => simp [intOf]; omega
      · rw [decide_eq_false hin] at q
        have HN : Hid (zb = false) := HF.out k hlt (Or.inl hin)
        generalize xs.getD k 0 = x at g1 q
        clear hin
        go_wp2_with (go_at_call 73; refine (q _).mono ?_; clear q; rintro e w' ⟨rfl, hw⟩; subst w')
        go_ret
        exact ⟨ret_bool HN.out.symm, rfl⟩
    · obtain rfl : k = n := by omega
      have HM : Hid (zb = true) := HE.out HS.out
      go_wp2
      go_ret
      exact ⟨ret_bool HM.out.symm, rfl⟩

set_option maxHeartbeats 1000000 in
theorem fewSig_c (f : Int) (L : Value) (ao : Option Addr) (n c : Nat) (xss : List (List Int)) (w : World) (h0 : 0 ≤ f) (h2 : f ≤ 2) (hx : xss.length = n) (hn : n ≤ 17592186044416) (hr : RdII w ao xss) :
    Calls Try.prog 61 #[.slice ao n c, .int .i64 200, .func (.func 62) #[.agg #[.int .i64 f, L]] #[]] w fun e w' => e = .returned (.bool (sgsB f xss)) ∧ Below w.heap.size w w' := by
  have HX : Hid (xss.length = n) := hx
  have HR : Hid (RdII w ao xss) := hr
  have HQ : Hid (∀ ro rn rc row wx, row.length = rn → Rd wx ro row → Calls Try.prog 62 #[.agg #[.int .i64 f, L], .slice ro rn rc] wx fun e w' => e = .returned (.bool (sigB f row)) ∧ Below wx.heap.size wx w') := fun ro rn rc row wx h1 h3 => isSig_c f L ro rn rc row wx h0 h2 h1 h3
  rw [show sgsB f xss = (decide (xss.length ≤ 200) && xss.all (sigB f)) from rfl, hx]
  clear hx hr h0 h2
  by_cases h5 : 200 < n
  · have h5' : (200 : Int) < (n : Int) := by omega
    rw [decide_eq_false (show ¬ n ≤ 200 by omega), Bool.false_and]
    go_enter Try.func61, Try.ntmps61
    go_wp2
    go_ret
    exact ⟨rfl, Below.refl _ _⟩
  · have h5' : ¬ (200 : Int) < (n : Int) := by omega
    rw [decide_eq_true (show n ≤ 200 by omega), Bool.true_and]
    have HF : Hid (∀ k, k < n → sigB f (xss.getD k []) = false → xss.all (sigB f) = false) := fun k hk h => all_out (d := []) (by rw [HX.out]; exact hk) h
    have HE : Hid ((∀ j, j < n → sigB f (xss.getD j []) = true) → xss.all (sigB f) = true) := fun h => all_end (d := []) (fun j hj => h j (by rw [HX.out] at hj; exact hj))
    generalize xss.all (sigB f) = zb at HF HE ⊢
    go_enter Try.func61, Try.ntmps61
    go_wp2
    go_loopw [15] (fun iv wr => ∃ (k : Nat), k ≤ n ∧ iv = .int .i64 k ∧ Hid (∀ j, j < k → sigB f (xss.getD j []) = true) ∧ Hid (Below w.heap.size w wr)) (fun iv _ => n - (intOf iv).toNat)
    case atStart => exact ⟨0, Nat.zero_le _, rfl, fun j h => absurd h (by omega), Below.refl _ _⟩
    case round =>
      obtain ⟨k, hk, rfl, HS, HB⟩ := hrel
      by_cases hlt : k < n
      · have hkl : k < xss.length := by rw [HX.out]; exact hlt
        obtain ⟨b, o, ro, rc, rfl, g1, hro⟩ := (HR.out.later HB.out).get hkl
        have q0 := fun wx (h : Below wr.heap.size wr wx) => HQ.out ro _ rc (xss.getD k []) wx rfl (hro.later h)
        have q := q0 wr (Below.refl _ _)
        clear q0 hro
        cases gm : sigB f (xss.getD k [])
        · have HN : Hid (zb = false) := HF.out k hlt gm
          rw [gm] at q
          generalize (xss.getD k []).length = rn at g1 q
          clear hkl gm
          go_wp2_with fail
          refine q.mono ?_
          clear q
          rintro e w' ⟨rfl, hb⟩
          go_wp2
          go_ret
          exact ⟨ret_bool HN.out.symm, HB.out.trans (hb.mono HB.out.size)⟩
        · have HS2 : Hid (∀ j, j < k + 1 → sigB f (xss.getD j []) = true) := fun j hj => by
            by_cases e : j = k
            · rw [e]; exact gm
            · exact HS.out j (by omega)
          rw [gm] at q
          generalize (xss.getD k []).length = rn at g1 q
          clear hkl gm
          go_wp2_with fail
          refine q.mono ?_
          clear q
          rintro e w' ⟨rfl, hb⟩
          go_wp2
          exact ⟨⟨k + 1, by omega, by go_num, HS2, HB.out.trans (hb.mono HB.out.size)⟩, by simp [intOf]; omega⟩
      · obtain rfl : k = n := by omega
        have HM : Hid (zb = true) := HE.out HS.out
        go_wp2
        go_ret
        exact ⟨ret_bool HM.out.symm, HB.out⟩

end Go.Proofs.Ytaokmjbhgkfnfaa
