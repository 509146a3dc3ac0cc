/- Chapter 15: rows of steps: their parts, appends. -/
import Derived.Test.YtbjpkklonjlmiaaRS15
namespace Go.Proofs.Ytbjpkklonjlmiaa
set_option linter.unusedVariables false
set_option maxRecDepth 1000000
set_option linter.unusedSimpArgs false
open Go.RowKit

theorem OwnQ.nil {w : World} {base n c : Nat} {ao : Option Addr} {xs : List (Int × Int × Int)} (h : OwnQ w base (.slice ao n c) xs) : ao = none → n = 0 ∧ c = 0 := by
  intro e
  rcases h.form with ⟨h1, _⟩ | ⟨g, cap, h1, _⟩
  · simp only [Value.slice.injEq] at h1; exact ⟨h1.2.1, h1.2.2⟩
  · simp only [Value.slice.injEq] at h1; rw [e] at h1; cases h1.1
/-- A list that is read is appended to a row of the call's own. -/
theorem emptyQ (w : World) : OwnQ (w.alloc (.cells #[] 78)) w.heap.size (.slice (some ⟨w.heap.size, 0, none⟩) 0 0) [] :=
  ⟨rfl, .inr ⟨w.heap.size, 0, #[], rfl, Nat.le_refl _, (by show (w.heap.push _)[w.heap.size]? = _; simp), Nat.le_refl _, Nat.zero_le _, rfl, rfl⟩⟩
theorem OwnQ.cap {w : World} {base n c : Nat} {ao : Option Addr} {xs : List (Int × Int × Int)} (h : OwnQ w base (.slice ao n c) xs) : n ≤ c := by
  rcases h.form with ⟨h1, _⟩ | ⟨g, cap, h1, _, _, hc, _⟩
  · simp only [Value.slice.injEq] at h1; omega
  · simp only [Value.slice.injEq] at h1; omega
theorem OwnQ.addr {w : World} {base n c : Nat} {ao : Option Addr} {xs : List (Int × Int × Int)} (h : OwnQ w base (.slice ao n c) xs) : (ao = none ∧ n = 0 ∧ c = 0 ∧ xs = []) ∨ ∃ g, ao = some ⟨g, 0, none⟩ ∧ base ≤ g ∧ g < w.heap.size := by
  rcases h.form with ⟨h1, h2⟩ | ⟨g, cap, h1, hb, hg, _⟩
  · simp only [Value.slice.injEq] at h1; exact Or.inl ⟨h1.1, h1.2.1, h1.2.2, h2⟩
  · simp only [Value.slice.injEq] at h1; exact Or.inr ⟨g, h1.1, hb, hg⟩
theorem OwnQ.back {w : World} {base g n c : Nat} {xs : List (Int × Int × Int)} (h : OwnQ w base (.slice (some ⟨g, 0, none⟩) n c) xs) (k : Nat) : RdQ w (some ⟨g, k * 3, none⟩) (xs.drop k) := by
  have hl := h.rd'.1
  refine Or.inr ⟨g, k * 3, rfl, fun j hj => ?_⟩
  rw [List.length_drop] at hj
  have := OwnQ.cell (g := g) (cap := c) (xs := xs) (by rw [hl]; exact h) (k + j) (by omega)
  rw [Nat.add_mul] at this
  simpa [List.getD, List.getElem?_drop] using this
theorem OwnQ.front {w : World} {base n c : Nat} {ao : Option Addr} {xs : List (Int × Int × Int)} (h : OwnQ w base (.slice ao n c) xs) (k : Nat) : RdQ w ao (xs.take k) := by
  rcases h.rd'.2 with rfl | ⟨b, o, rfl, hc⟩
  · exact Or.inl (by simp)
  · refine Or.inr ⟨b, o, rfl, fun j hj => ?_⟩
    rw [List.length_take] at hj
    have := hc j (by omega)
    simpa [List.getD, List.getElem?_take, show j < k by omega] using this

theorem appendQ_run (w : World) (base : Nat) (v : Value) (xs ys : List (Int × Int × Int)) (ao : Option Addr) (m c : Nat) (hown : OwnQ w base v xs) (hr : RdQ w ao ys) (hm : ys.length = m) (hnil : ao = none → m = 0 ∧ c = 0) (hb : xs.length + m ≤ 1000000) (hbase : base ≤ w.heap.size) :
    ∃ v' w', (∀ ty, (Builtin.append_ #[68, 68] ty #[v, .slice ao m c]).run Try.prog w = .ok v' w') ∧ OwnQ w' base v' (xs ++ ys) ∧ w.grownBy w' v.ownBlock ∧ Below base w w' := by
  obtain ⟨i0, hi, hz0, hz1, hz2⟩ := info_parts Try.infostep
  have hge : ∀ k, v.ownBlock = some k → base ≤ k := own_block_geQ hown
  cases ao with
  | none =>
    obtain ⟨rfl, rfl⟩ := hnil rfl
    obtain rfl := List.length_eq_zero_iff.1 hm
    refine ⟨v, w, fun ty => run_append_owned_none (P := Try.prog) (w := w) base 68 ty 78 i0 3 Try.underlying68 hi v xs.length (cellsQ xs) hown, by rw [List.append_nil]; exact hown, World.grownBy.refl _ _, Below.refl _ _⟩
  | some a =>
    have hnews : ∀ j u, (cellsQ ys)[j]? = some u → w.cell? (a.add j) = some u := fun j u hj => by
      rcases hr with rfl | ⟨b', o', he, hc⟩
      · simp [cellsQ] at hj
      · simp only [Option.some.injEq] at he
        subst he
        have hjl := (List.getElem?_eq_some_iff.1 hj).1
        rw [cellsQ_length] at hjl
        rw [Go.WideShapes.add_plain]
        have hq : j / 3 < ys.length := by omega
        have h1 := cellsQ_at ys (j / 3) hq
        have h2 := hc (j / 3) hq
        rcases (by omega : j % 3 = 0 ∨ j % 3 = 1 ∨ j % 3 = 2) with e | e | e
        · have h3 := h1.1
          rw [show j / 3 * 3 = j by omega, hj] at h3
          have h4 := h2.1
          rw [show o' + j / 3 * 3 = o' + j by omega] at h4
          rw [h4, ← Option.some.inj h3]
        · have h3 := h1.2.1
          rw [show j / 3 * 3 + 1 = j by omega, hj] at h3
          have h4 := h2.2.1
          rw [show o' + j / 3 * 3 + 1 = o' + j by omega] at h4
          rw [h4, ← Option.some.inj h3]
        · have h3 := h1.2.2
          rw [show j / 3 * 3 + 2 = j by omega, hj] at h3
          have h4 := h2.2.2
          rw [show o' + j / 3 * 3 + 2 = o' + j by omega] at h4
          rw [h4, ← Option.some.inj h3]
    obtain ⟨v', w', hrun, hown', hgrow, _⟩ := run_append_own (P := Try.prog) w base 68 68 78 i0 (.agg #[.int .i64 0, .int .i64 0, .int .i64 0]) 3 24 Try.underlying68 hi hz0 hz1 hz2 rfl (by decide) v xs.length (cellsQ xs) hown a m c (cellsQ ys) (by rw [cellsQ_length, hm]) hnews (cellsQ_one _) (by unfold maxLen; omega) (by omega) hbase
    refine ⟨v', w', fun ty => hrun, ?_, hgrow, (Below.refl _ _).grown hgrow hbase hge⟩
    unfold OwnQ
    rw [List.length_append, hm]
    simpa [cellsQ] using hown'

theorem litQ (w : World) (x0 : Int) (x1 : Int) (x2 : Int) : RdQ (w.alloc (.cells #[.int .i64 x0, .int .i64 x1, .int .i64 x2] 78)) (some ⟨w.heap.size, 0, none⟩) [(x0, x1, x2)] := Or.inr ⟨w.heap.size, 0, rfl, fun j hj => by
  obtain rfl : j = 0 := by simp at hj; omega
  simp [List.getD]⟩

theorem own_nilQ (w : World) (base : Nat) : OwnQ w base (.slice none 0 0) [] := ⟨rfl, Or.inl ⟨rfl, rfl⟩⟩

end Go.Proofs.Ytbjpkklonjlmiaa
