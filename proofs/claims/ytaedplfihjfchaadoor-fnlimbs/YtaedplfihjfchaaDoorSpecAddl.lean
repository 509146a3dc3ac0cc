/- The contracts of the specification's l1At, l1Trim, l1Add. -/
import Derived.Test.YtaedplfihjfchaaDoorSpecCmpl
import Derived.Laws.AppendOwnNone
namespace Go.Proofs.YtaedplfihjfchaaDoor
set_option linter.unusedVariables false
set_option maxRecDepth 1000000
set_option linter.unusedSimpArgs false
open Go.RowKit

def lenOf : Value → Nat
  | .slice _ n _ => n
  | _ => 0

theorem l1At_c (ao : Option Addr) (n c i : Nat) (xs : List Int) (w : World) (hx : xs.length = n) (hn : n ≤ 17592186044416) (hi : i ≤ 17592186044416) (hr : Rd w ao xs) :
    Calls Tryd.prog 45 #[.slice ao n c, .int .i64 (i : Int)] w fun e w' => e = .returned (.int .i64 (xs.getD i 0)) ∧ w' = w := by
  by_cases h : i < n
  · rcases hr with rfl | ⟨b, o, rfl, hc⟩
    · simp at hx; omega
    · have g1 := hc i (by omega)
      generalize xs.getD i 0 = x at g1 ⊢
      have hl : (i : Int) < (n : Int) := by omega
      clear hx hc
      go_enter Tryd.func45, Tryd.ntmps45
      go_wp2
      go_ret
      exact ⟨rfl, rfl⟩
  · have e : xs.getD i 0 = 0 := by simp [List.getD, List.getElem?_eq_none (show xs.length ≤ i by omega)]
    rw [e]
    have hl : ¬ (i : Int) < (n : Int) := by omega
    clear hx hr e
    go_enter Tryd.func45, Tryd.ntmps45
    go_wp2
    go_ret
    exact ⟨rfl, rfl⟩

theorem ret_slice {a : Option Addr} {n m c : Nat} (h : n = m) : Ending.returned (.slice a n c) = .returned (.slice a m c) := by rw [h]

set_option maxHeartbeats 400000 in
theorem l1Trim_at (b o n c : Nat) (xs : List Int) (w : World) (hx : xs.length = n) (hn : n ≤ 17592186044416) (hcap : n ≤ c) (hc63 : c ≤ 9223372036854775807)
    (hc : ∀ j, j < n → w.cell? ⟨b, o + j, none⟩ = some (.int .i64 (xs.getD j 0))) :
    Calls Tryd.prog 56 #[.slice (some ⟨b, o, none⟩) n c] w fun e w' => e = .returned (.slice (some ⟨b, o, none⟩) (trim xs).length c) ∧ w' = w := by
  have HX : Hid (xs.length = n) := hx
  have HC : Hid (∀ j, j < n → w.cell? ⟨b, o + j, none⟩ = some (.int .i64 (xs.getD j 0))) := hc
  clear hx hc
  go_enter Tryd.func56, Tryd.ntmps56
  go_wp2
  go_loop [0] (fun v => ∃ k : Nat, k ≤ n ∧ v = .slice (some ⟨b, o, none⟩) k c ∧ Hid (trim (xs.take k) = trim xs)) (fun v => lenOf v)
  case atStart => exact ⟨n, Nat.le_refl _, rfl, by show trim _ = _; rw [List.take_of_length_le (by rw [HX.out]; omega)]⟩
  case round =>
    obtain ⟨k, hk, rfl, hT⟩ := hrel
    by_cases hz : k = 0
    · subst hz
      go_wp2
      go_ret
      exact ⟨ret_slice (by rw [← hT.out]; rfl), rfl⟩
    · obtain ⟨q, rfl⟩ : ∃ q, k = q + 1 := ⟨k - 1, by omega⟩
      have g1 := HC.out q (by omega)
      have h0 : (0 : Int) < ((q + 1 : Nat) : Int) := by omega
      have e1 : ((q + 1 : Nat) : Int) - 1 = (q : Int) := by omega
      generalize hy : xs.getD q 0 = y at g1
      have HY : Hid (xs.getD q 0 = y) := hy
      clear hy hz
      by_cases hy0 : y = 0
      · subst hy0
        go_wp2
        go_round
        case rel => exact ⟨q, by omega, rfl, by show trim _ = _; rw [← hT.out, take_snoc_getD xs q (by rw [HX.out]; omega), HY.out, trim_snoc_zero]⟩
        case measure => simp [lenOf]
      · have ht : (y == 0) = false := by simpa using hy0
        go_wp2
        go_ret
        refine ⟨ret_slice ?_, rfl⟩
        rw [← hT.out, take_snoc_getD xs q (by rw [HX.out]; omega), HY.out, trim_snoc_nz _ _ hy0]
        simp; rw [HX.out]; omega

/-- A slice value that reads as xs: nil, or at an address, its length within its room. -/
def RdS (w : World) (v : Value) (xs : List Int) : Prop :=
  (v = .slice none 0 0 ∧ xs = []) ∨ ∃ b o c, v = .slice (some ⟨b, o, none⟩) xs.length c ∧ xs.length ≤ c ∧ c ≤ 9223372036854775807 ∧ ∀ j, j < xs.length → w.cell? ⟨b, o + j, none⟩ = some (.int .i64 (xs.getD j 0))

theorem Own.rdS {w : World} {base : Nat} {v : Value} {xs : List Int} (h : Own w base v xs) : RdS w v xs := by
  rcases h.form with h1 | ⟨g, cap, rfl, _, _, h2, h3⟩
  · exact Or.inl h1
  · unfold maxLen at h3
    exact Or.inr ⟨g, 0, cap, rfl, h2, by omega, fun j hj => by simpa using h.cell j hj⟩

theorem RdS.later {w w' : World} {v : Value} {xs : List Int} (h : RdS w v xs) (hb : Below w.heap.size w w') : RdS w' v xs := by
  rcases h with h | ⟨b, o, c, h1, h2, h3, h4⟩
  · exact Or.inl h
  · exact Or.inr ⟨b, o, c, h1, h2, h3, fun j hj => by rw [hb.cell (p := ⟨b, o + j, none⟩) (World.block_lt_of_cell? w _ (h4 j hj))]; exact h4 j hj⟩

theorem RdS.rd {w : World} {ao : Option Addr} {n c : Nat} {xs : List Int} (h : RdS w (.slice ao n c) xs) : xs.length = n ∧ Rd w ao xs := by
  rcases h with ⟨h, rfl⟩ | ⟨b, o, c', h, _, _, h4⟩
  · simp only [Value.slice.injEq] at h
    exact ⟨by simp [h.2.1], Or.inl rfl⟩
  · simp only [Value.slice.injEq] at h
    exact ⟨h.2.1.symm, Or.inr ⟨b, o, h.1, h4⟩⟩

theorem RdS.shape {w : World} {v : Value} {xs : List Int} (h : RdS w v xs) : ∃ ao c, v = .slice ao xs.length c := by
  rcases h with ⟨rfl, rfl⟩ | ⟨b, o, c, h, _⟩
  · exact ⟨none, 0, rfl⟩
  · exact ⟨_, c, h⟩

theorem RdS.take {w : World} {b o n c : Nat} {xs : List Int} (h : RdS w (.slice (some ⟨b, o, none⟩) n c) xs) (p : Nat) (hp : p ≤ n) : RdS w (.slice (some ⟨b, o, none⟩) p c) (xs.take p) := by
  rcases h with ⟨h, rfl⟩ | ⟨b', o', c', h, h2, h3, h4⟩
  · simp at h
  · simp only [Value.slice.injEq, Option.some.injEq, Addr.mk.injEq, and_true] at h
    obtain ⟨⟨rfl, rfl⟩, rfl, rfl⟩ := h
    have e : (xs.take p).length = p := by simp; omega
    refine Or.inr ⟨b, o, c, by rw [e], by omega, h3, fun j hj => ?_⟩
    rw [h4 j (by omega)]
    simp [List.getD, List.getElem?_take, show j < p by omega]

theorem l1Trim_nil (w : World) : Calls Tryd.prog 56 #[.slice none 0 0] w fun e w' => e = .returned (.slice none 0 0) ∧ w' = w := by
  go_enter Tryd.func56, Tryd.ntmps56
  go_wp2
  refine wp_loop_rounds 1 ?_
  rw [rounds_succ]
  go_wp2
  go_ret
  exact ⟨rfl, rfl⟩

/-- l1Trim: the same row, cut. -/
theorem l1Trim_c (ao : Option Addr) (n c : Nat) (xs : List Int) (w : World) (hn : n ≤ 17592186044416) (hr : RdS w (.slice ao n c) xs) :
    Calls Tryd.prog 56 #[.slice ao n c] w fun e w' => e = .returned (.slice ao (trim xs).length c) ∧ w' = w ∧ RdS w (.slice ao (trim xs).length c) (trim xs) := by
  have hx := hr.rd.1
  rcases hr with ⟨h, rfl⟩ | ⟨b, o, c', h, h2, h3, h4⟩
  · simp only [Value.slice.injEq] at h
    obtain ⟨rfl, rfl, rfl⟩ := h
    exact (l1Trim_nil w).mono fun e w' h => ⟨h.1, h.2, Or.inl ⟨rfl, rfl⟩⟩
  · have hr' : RdS w (.slice ao n c) xs := Or.inr ⟨b, o, c', h, h2, h3, h4⟩
    simp only [Value.slice.injEq] at h
    obtain ⟨rfl, rfl, rfl⟩ := h
    refine (l1Trim_at b o xs.length c xs w rfl hn h2 h3 h4).mono fun e w' h => ⟨h.1, h.2, ?_⟩
    obtain ⟨m, hm, ht⟩ := trim_take xs
    have hl : (trim xs).length = m := by rw [ht]; simp; omega
    have := hr'.take m hm
    rw [hl, ht]; exact this

theorem Own.take {w : World} {base n c p : Nat} {ao : Option Addr} {xs : List Int} (h : Own w base (.slice ao n c) xs) (hp : p ≤ n) : Own w base (.slice ao p c) (xs.take p) := by
  have hx := h.rd'.1
  have e : (xs.take p).length = p := by simp; omega
  refine ⟨by simp [cellsI], ?_⟩
  rcases h.2 with ⟨h1, h2⟩ | ⟨g, cap, cur, hv, hg, hh, h3, h4, h5, h6⟩
  · simp only [Value.slice.injEq] at h1
    obtain ⟨rfl, rfl, rfl⟩ := h1
    obtain rfl : p = 0 := by omega
    exact Or.inl ⟨rfl, by simp⟩
  · simp only [Value.slice.injEq] at hv
    obtain ⟨rfl, hn, rfl⟩ := hv
    refine Or.inr ⟨g, c, cur, by rw [e], hg, hh, by omega, h4, h5, ?_⟩
    rw [e]
    have : cellsI (xs.take p) = (cellsI xs).take p := by simp [cellsI, List.map_take]
    rw [this, ← h6, List.take_take]
    congr 1
    omega

theorem Own.trimmed {w : World} {base n c : Nat} {ao : Option Addr} {xs : List Int} (h : Own w base (.slice ao n c) xs) : Own w base (.slice ao (trim xs).length c) (trim xs) := by
  obtain ⟨m, hm, ht⟩ := trim_take xs
  have hl : (trim xs).length = m := by rw [ht]; simp; omega
  rw [hl, ht]
  exact h.take (by rw [← h.rd'.1]; exact hm)

end Go.Proofs.YtaedplfihjfchaaDoor
