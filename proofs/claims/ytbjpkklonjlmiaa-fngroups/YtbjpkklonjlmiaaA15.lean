/- Chapter 15: small functions, lists of ints appended. -/
import Derived.Test.YtbjpkklonjlmiaaX12
import Derived.Deep.RegionHeld3
import Derived.Laws.OwnMore
import Derived.Deep.RegionLaw
import Derived.Deep.AppendLies
import Derived.Laws.AppendOwnNone
import Derived.Lib.AppendZeros
import Derived.Deep.RegionWith
namespace Go.Proofs.Ytbjpkklonjlmiaa
set_option linter.unusedVariables false
set_option maxRecDepth 1000000
set_option linter.unusedSimpArgs false
open Go.RowKit

theorem ret_int {a b : Int} (h : a = b) : Ending.returned (.int .i64 a) = .returned (.int .i64 b) := by rw [h]
theorem Rd.get {w : World} {ao : Option Addr} {xs : List Int} (h : Rd w ao xs) {k : Nat} (hk : k < xs.length) : ∃ b o, ao = some ⟨b, o, none⟩ ∧ w.cell? ⟨b, o + k, none⟩ = some (.int .i64 (xs.getD k 0)) := by
  rcases h with rfl | ⟨b, o, rfl, hc⟩
  · simp at hk
  · exact ⟨b, o, rfl, hc k hk⟩
theorem of_mem_getD {α : Type} {xs : List α} (d : α) {x : α} (h : x ∈ xs) : ∃ j, j < xs.length ∧ xs.getD j d = x := by
  obtain ⟨i, hi, e⟩ := List.getElem_of_mem h
  exact ⟨i, hi, by simpa [List.getD, hi] using e⟩
theorem all_out {α : Type} {d : α} {xs : List α} {p : α → Bool} {k : Nat} (hk : k < xs.length) (h : p (xs.getD k d) = false) : xs.all p = false := by
  rw [List.all_eq_false]
  exact ⟨_, mem_getD d hk, by rw [h]; simp⟩
theorem all_end {α : Type} {d : α} {xs : List α} {p : α → Bool} (h : ∀ j, j < xs.length → p (xs.getD j d) = true) : xs.all p = true := by
  rw [List.all_eq_true]
  intro x hx
  obtain ⟨j, hj, e⟩ := of_mem_getD d hx
  rw [← e]; exact h j hj
theorem take_snoc {α : Type} (d : α) {xs : List α} {k : Nat} (h : k < xs.length) : xs.take (k + 1) = xs.take k ++ [xs.getD k d] := by
  rw [List.take_succ_eq_append_getElem h]; simp [List.getD, h]

theorem l1In_c (x lo hi : Int) (w : World) :
    Calls Try.prog 43 #[.int .i64 x, .int .i64 lo, .int .i64 hi] w fun e w' => e = .returned (.bool (decide (lo ≤ x ∧ x ≤ hi))) ∧ w' = w := by
  by_cases h1 : lo ≤ x
  · by_cases h2 : x ≤ hi
    · rw [decide_eq_true ⟨h1, h2⟩]
      go_enter Try.func43, Try.ntmps43
      go_wp2
      go_ret
      exact ⟨rfl, rfl⟩
    · rw [decide_eq_false (by omega)]
      go_enter Try.func43, Try.ntmps43
      go_wp2
      go_ret
      exact ⟨rfl, rfl⟩
  · rw [decide_eq_false (by omega)]
    go_enter Try.func43, Try.ntmps43
    go_wp2
    go_ret
    exact ⟨rfl, rfl⟩

theorem Own.nil {w : World} {base n c : Nat} {ao : Option Addr} {xs : List Int} (h : Own w base (.slice ao n c) xs) : ao = none → n = 0 ∧ c = 0 := by
  intro e
  rcases h.form with ⟨h1, _⟩ | ⟨g, cap, h1, _⟩
  · simp only [Value.slice.injEq] at h1; exact ⟨h1.2.1, h1.2.2⟩
  · simp only [Value.slice.injEq] at h1; rw [e] at h1; cases h1.1
/-- A list that is read is appended to a row of the call's own. -/
theorem appendI_run (w : World) (base : Nat) (v : Value) (xs ys : List Int) (ao : Option Addr) (m c : Nat) (hown : Own w base v xs) (hr : Rd w ao ys) (hm : ys.length = m) (hnil : ao = none → m = 0 ∧ c = 0) (hb : xs.length + m ≤ 1000000) (hbase : base ≤ w.heap.size) :
    ∃ v' w', (∀ ty, (Builtin.append_ #[24, 24] ty #[v, .slice ao m c]).run Try.prog w = .ok v' w') ∧ Own w' base v' (xs ++ ys) ∧ w.grownBy w' v.ownBlock ∧ Below base w w' := by
  obtain ⟨i0, hi, hz0, hz1, hz2⟩ := info_parts Try.infoInt
  have hge : ∀ k, v.ownBlock = some k → base ≤ k := own_block_ge hown
  cases ao with
  | none =>
    obtain ⟨rfl, rfl⟩ := hnil rfl
    obtain rfl := List.length_eq_zero_iff.1 hm
    refine ⟨v, w, fun ty => run_append_owned_none (P := Try.prog) (w := w) base 24 ty 3 i0 1 Try.underlying24 hi v xs.length (cellsI xs) hown, by rw [List.append_nil]; exact hown, World.grownBy.refl _ _, Below.refl _ _⟩
  | some a =>
    have hnews : ∀ j u, (cellsI ys)[j]? = some u → w.cell? (a.add j) = some u := fun j u hj => by
      rcases hr with rfl | ⟨b', o', he, hc⟩
      · simp [cellsI] at hj
      · simp only [Option.some.injEq] at he
        subst he
        have hjl : j < ys.length := by have := (List.getElem?_eq_some_iff.1 hj).1; simpa [cellsI] using this
        rw [getD_map_int ys j hjl] at hj
        simp only [Option.some.injEq] at hj
        subst hj
        rw [Go.WideShapes.add_plain]
        exact hc j hjl
    obtain ⟨v', w', hrun, hown', hgrow, _⟩ := run_append_own (P := Try.prog) w base 24 24 3 i0 (.int .i64 0) 1 8 Try.underlying24 hi hz0 hz1 hz2 rfl (by decide) v xs.length (cellsI xs) hown a m c (cellsI ys) (by rw [cellsI_length, hm, Nat.mul_one]) hnews (cellsI_oneCell _) (by unfold maxLen; omega) (by omega) hbase
    refine ⟨v', w', fun ty => hrun, ?_, hgrow, (Below.refl _ _).grown hgrow hbase hge⟩
    unfold Own
    rw [List.length_append, hm]
    simpa [cellsI] using hown'
theorem emptyI (w : World) : Own (w.alloc (.cells #[] 3)) w.heap.size (.slice (some ⟨w.heap.size, 0, none⟩) 0 0) [] :=
  ⟨rfl, .inr ⟨w.heap.size, 0, #[], rfl, Nat.le_refl _, (by show (w.heap.push _)[w.heap.size]? = _; simp), Nat.le_refl _, Nat.zero_le _, rfl, rfl⟩⟩
theorem litI (w : World) (x : Int) : Rd (w.alloc (.cells #[.int .i64 x] 3)) (some ⟨w.heap.size, 0, none⟩) [x] := Or.inr ⟨w.heap.size, 0, rfl, fun j hj => by
  obtain rfl : j = 0 := by simp at hj; omega
  simp⟩
theorem Own.back {w : World} {base g n c : Nat} {xs : List Int} (h : Own w base (.slice (some ⟨g, 0, none⟩) n c) xs) (k : Nat) : Rd w (some ⟨g, k, none⟩) (xs.drop k) := by
  have hl := h.rd'.1
  refine Or.inr ⟨g, k, rfl, fun j hj => ?_⟩
  rw [List.length_drop] at hj
  have := Own.cell (g := g) (cap := c) (xs := xs) (by rw [hl]; exact h) (k + j) (by omega)
  rw [this]
  congr 2
  simp [List.getD, List.getElem?_drop]
theorem Own.front {w : World} {base n c : Nat} {ao : Option Addr} {xs : List Int} (h : Own w base (.slice ao n c) xs) (k : Nat) : Rd w ao (xs.take k) := by
  rcases h.rd'.2 with rfl | ⟨b, o, rfl, hc⟩
  · exact Or.inl (by simp)
  · refine Or.inr ⟨b, o, rfl, fun j hj => ?_⟩
    rw [List.length_take] at hj
    rw [hc j (by omega)]
    congr 2
    simp [List.getD, List.getElem?_take, show j < k by omega]
theorem Own.cap {w : World} {base n c : Nat} {ao : Option Addr} {xs : List Int} (h : Own w base (.slice ao n c) xs) : n ≤ c := by
  rcases h.form with ⟨h1, _⟩ | ⟨g, cap, h1, _, _, hc, _⟩
  · simp only [Value.slice.injEq] at h1; omega
  · simp only [Value.slice.injEq] at h1; omega
theorem Own.addr {w : World} {base n c : Nat} {ao : Option Addr} {xs : List Int} (h : Own w base (.slice ao n c) xs) : (ao = none ∧ n = 0 ∧ c = 0 ∧ xs = []) ∨ ∃ g, ao = some ⟨g, 0, none⟩ ∧ base ≤ g ∧ g < w.heap.size := by
  rcases h.form with ⟨h1, h2⟩ | ⟨g, cap, h1, hb, hg, _⟩
  · simp only [Value.slice.injEq] at h1; exact Or.inl ⟨h1.1, h1.2.1, h1.2.2, h2⟩
  · simp only [Value.slice.injEq] at h1; exact Or.inr ⟨g, h1.1, hb, hg⟩


end Go.Proofs.Ytbjpkklonjlmiaa
