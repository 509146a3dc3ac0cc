/- Chapter 14: lists of numbers, claims, tallies: their parts, literals, appends. -/
import Derived.Test.YtleddlfojogdiaaGreatAP12
import Derived.Test.YtleddlfojogdiaaGreatTA14
namespace Go.Proofs.YtleddlfojogdiaaGreat
set_option linter.unusedVariables false
set_option maxRecDepth 1000000
set_option linter.unusedSimpArgs false
open Go.RowKit

theorem below_drewM {B : Nat} {w w' : World} (h : Below B w w') (k : Nat) : Below B w (w'.drewN k) := ⟨h.os, h.tape, h.output, h.size, h.block⟩

theorem Rd.get {w : World} {ao : Option Addr} {xs : List Int} {k : Nat} (h : Rd w ao xs) (hk : k < xs.length) : ∃ b off, ao = some ⟨b, off, none⟩ ∧ w.cell? ⟨b, off + k, none⟩ = some (.int .i64 (xs.getD k 0)) := by
  rcases h with rfl | ⟨b, o, rfl, hc⟩
  · simp at hk
  · exact ⟨b, o, rfl, hc k hk⟩

theorem Own.nil {w : World} {base n c : Nat} {ao : Option Addr} {xs : List Int} (h : Own w base (.slice ao n c) xs) : ao = none → n = 0 ∧ c = 0 := by
  intro e
  rcases h.form with ⟨h1, _⟩ | ⟨g, cap, h1, _⟩
  · simp only [Value.slice.injEq] at h1; exact ⟨h1.2.1, h1.2.2⟩
  · simp only [Value.slice.injEq] at h1; rw [e] at h1; cases h1.1
/-- A list that is read is appended to a row of the call's own. -/
theorem emptyI (w : World) : Own (w.alloc (.cells #[] 3)) w.heap.size (.slice (some ⟨w.heap.size, 0, none⟩) 0 0) [] :=
  ⟨rfl, .inr ⟨w.heap.size, 0, #[], rfl, Nat.le_refl _, (by show (w.heap.push _)[w.heap.size]? = _; simp), Nat.le_refl _, Nat.zero_le _, rfl, rfl⟩⟩
theorem Own.back {w : World} {base g n c : Nat} {xs : List Int} (h : Own w base (.slice (some ⟨g, 0, none⟩) n c) xs) (k : Nat) : Rd w (some ⟨g, k, none⟩) (xs.drop k) := by
  have hl := h.rd'.1
  refine Or.inr ⟨g, k, rfl, fun j hj => ?_⟩
  rw [List.length_drop] at hj
  have := Own.cell (g := g) (cap := c) (xs := xs) (by rw [hl]; exact h) (k + j) (by omega)
  rw [this]
  congr 2
  simp [List.getD, List.getElem?_drop]
theorem Own.front {w : World} {base n c : Nat} {ao : Option Addr} {xs : List Int} (h : Own w base (.slice ao n c) xs) (k : Nat) : Rd w ao (xs.take k) := by
  rcases h.rd'.2 with rfl | ⟨b, o, rfl, hc⟩
  · exact Or.inl (by simp)
  · refine Or.inr ⟨b, o, rfl, fun j hj => ?_⟩
    rw [List.length_take] at hj
    rw [hc j (by omega)]
    congr 2
    simp [List.getD, List.getElem?_take, show j < k by omega]
theorem Own.cap {w : World} {base n c : Nat} {ao : Option Addr} {xs : List Int} (h : Own w base (.slice ao n c) xs) : n ≤ c := by
  rcases h.form with ⟨h1, _⟩ | ⟨g, cap, h1, _, _, hc, _⟩
  · simp only [Value.slice.injEq] at h1; omega
  · simp only [Value.slice.injEq] at h1; omega
theorem Own.addr {w : World} {base n c : Nat} {ao : Option Addr} {xs : List Int} (h : Own w base (.slice ao n c) xs) : (ao = none ∧ n = 0 ∧ c = 0 ∧ xs = []) ∨ ∃ g, ao = some ⟨g, 0, none⟩ ∧ base ≤ g ∧ g < w.heap.size := by
  rcases h.form with ⟨h1, h2⟩ | ⟨g, cap, h1, hb, hg, _⟩
  · simp only [Value.slice.injEq] at h1; exact Or.inl ⟨h1.1, h1.2.1, h1.2.2, h2⟩
  · simp only [Value.slice.injEq] at h1; exact Or.inr ⟨g, h1.1, hb, hg⟩

theorem OwnC.nil {w : World} {base n c : Nat} {ao : Option Addr} {xs : List (Int × Int × Int)} (h : OwnC w base (.slice ao n c) xs) : ao = none → n = 0 ∧ c = 0 := by
  intro e
  rcases h.form with ⟨h1, _⟩ | ⟨g, cap, h1, _⟩
  · simp only [Value.slice.injEq] at h1; exact ⟨h1.2.1, h1.2.2⟩
  · simp only [Value.slice.injEq] at h1; rw [e] at h1; cases h1.1
/-- A list that is read is appended to a row of the call's own. -/
theorem emptyC (w : World) : OwnC (w.alloc (.cells #[] 32)) w.heap.size (.slice (some ⟨w.heap.size, 0, none⟩) 0 0) [] :=
  ⟨rfl, .inr ⟨w.heap.size, 0, #[], rfl, Nat.le_refl _, (by show (w.heap.push _)[w.heap.size]? = _; simp), Nat.le_refl _, Nat.zero_le _, rfl, rfl⟩⟩
theorem OwnC.cap {w : World} {base n c : Nat} {ao : Option Addr} {xs : List (Int × Int × Int)} (h : OwnC w base (.slice ao n c) xs) : n ≤ c := by
  rcases h.form with ⟨h1, _⟩ | ⟨g, cap, h1, _, _, hc, _⟩
  · simp only [Value.slice.injEq] at h1; omega
  · simp only [Value.slice.injEq] at h1; omega
theorem OwnC.addr {w : World} {base n c : Nat} {ao : Option Addr} {xs : List (Int × Int × Int)} (h : OwnC w base (.slice ao n c) xs) : (ao = none ∧ n = 0 ∧ c = 0 ∧ xs = []) ∨ ∃ g, ao = some ⟨g, 0, none⟩ ∧ base ≤ g ∧ g < w.heap.size := by
  rcases h.form with ⟨h1, h2⟩ | ⟨g, cap, h1, hb, hg, _⟩
  · simp only [Value.slice.injEq] at h1; exact Or.inl ⟨h1.1, h1.2.1, h1.2.2, h2⟩
  · simp only [Value.slice.injEq] at h1; exact Or.inr ⟨g, h1.1, hb, hg⟩
theorem OwnC.back {w : World} {base g n c : Nat} {xs : List (Int × Int × Int)} (h : OwnC w base (.slice (some ⟨g, 0, none⟩) n c) xs) (k : Nat) : RdC w (some ⟨g, k * 3, none⟩) (xs.drop k) := by
  have hl := h.rd'.1
  refine Or.inr ⟨g, k * 3, rfl, fun j hj => ?_⟩
  rw [List.length_drop] at hj
  have := OwnC.cell (g := g) (cap := c) (xs := xs) (by rw [hl]; exact h) (k + j) (by omega)
  rw [Nat.add_mul] at this
  simpa [List.getD, List.getElem?_drop] using this
theorem OwnC.front {w : World} {base n c : Nat} {ao : Option Addr} {xs : List (Int × Int × Int)} (h : OwnC w base (.slice ao n c) xs) (k : Nat) : RdC w ao (xs.take k) := by
  rcases h.rd'.2 with rfl | ⟨b, o, rfl, hc⟩
  · exact Or.inl (by simp)
  · refine Or.inr ⟨b, o, rfl, fun j hj => ?_⟩
    rw [List.length_take] at hj
    have := hc j (by omega)
    simpa [List.getD, List.getElem?_take, show j < k by omega] using this

theorem OwnU.nil {w : World} {base n c : Nat} {ao : Option Addr} {xs : List (Int × Int × Int)} (h : OwnU w base (.slice ao n c) xs) : ao = none → n = 0 ∧ c = 0 := by
  intro e
  rcases h.form with ⟨h1, _⟩ | ⟨g, cap, h1, _⟩
  · simp only [Value.slice.injEq] at h1; exact ⟨h1.2.1, h1.2.2⟩
  · simp only [Value.slice.injEq] at h1; rw [e] at h1; cases h1.1
/-- A list that is read is appended to a row of the call's own. -/
theorem emptyU (w : World) : OwnU (w.alloc (.cells #[] 37)) w.heap.size (.slice (some ⟨w.heap.size, 0, none⟩) 0 0) [] :=
  ⟨rfl, .inr ⟨w.heap.size, 0, #[], rfl, Nat.le_refl _, (by show (w.heap.push _)[w.heap.size]? = _; simp), Nat.le_refl _, Nat.zero_le _, rfl, rfl⟩⟩
theorem OwnU.cap {w : World} {base n c : Nat} {ao : Option Addr} {xs : List (Int × Int × Int)} (h : OwnU w base (.slice ao n c) xs) : n ≤ c := by
  rcases h.form with ⟨h1, _⟩ | ⟨g, cap, h1, _, _, hc, _⟩
  · simp only [Value.slice.injEq] at h1; omega
  · simp only [Value.slice.injEq] at h1; omega
theorem OwnU.addr {w : World} {base n c : Nat} {ao : Option Addr} {xs : List (Int × Int × Int)} (h : OwnU w base (.slice ao n c) xs) : (ao = none ∧ n = 0 ∧ c = 0 ∧ xs = []) ∨ ∃ g, ao = some ⟨g, 0, none⟩ ∧ base ≤ g ∧ g < w.heap.size := by
  rcases h.form with ⟨h1, h2⟩ | ⟨g, cap, h1, hb, hg, _⟩
  · simp only [Value.slice.injEq] at h1; exact Or.inl ⟨h1.1, h1.2.1, h1.2.2, h2⟩
  · simp only [Value.slice.injEq] at h1; exact Or.inr ⟨g, h1.1, hb, hg⟩
theorem OwnU.back {w : World} {base g n c : Nat} {xs : List (Int × Int × Int)} (h : OwnU w base (.slice (some ⟨g, 0, none⟩) n c) xs) (k : Nat) : RdU w (some ⟨g, k * 3, none⟩) (xs.drop k) := by
  have hl := h.rd'.1
  refine Or.inr ⟨g, k * 3, rfl, fun j hj => ?_⟩
  rw [List.length_drop] at hj
  have := OwnU.cell (g := g) (cap := c) (xs := xs) (by rw [hl]; exact h) (k + j) (by omega)
  rw [Nat.add_mul] at this
  simpa [List.getD, List.getElem?_drop] using this
theorem OwnU.front {w : World} {base n c : Nat} {ao : Option Addr} {xs : List (Int × Int × Int)} (h : OwnU w base (.slice ao n c) xs) (k : Nat) : RdU w ao (xs.take k) := by
  rcases h.rd'.2 with rfl | ⟨b, o, rfl, hc⟩
  · exact Or.inl (by simp)
  · refine Or.inr ⟨b, o, rfl, fun j hj => ?_⟩
    rw [List.length_take] at hj
    have := hc j (by omega)
    simpa [List.getD, List.getElem?_take, show j < k by omega] using this

theorem appendU_run (w : World) (base : Nat) (v : Value) (xs ys : List (Int × Int × Int)) (ao : Option Addr) (m c : Nat) (hown : OwnU w base v xs) (hr : RdU w ao ys) (hm : ys.length = m) (hnil : ao = none → m = 0 ∧ c = 0) (hb : xs.length + m ≤ 1000000) (hbase : base ≤ w.heap.size) :
    ∃ v' w', (∀ ty, (Builtin.append_ #[27, 27] ty #[v, .slice ao m c]).run Tryz.prog w = .ok v' w') ∧ OwnU w' base v' (xs ++ ys) ∧ w.grownBy w' v.ownBlock ∧ Below base w w' := by
  obtain ⟨i0, hi, hz0, hz1, hz2⟩ := info_parts Tryz.infoTally
  have hge : ∀ k, v.ownBlock = some k → base ≤ k := own_block_geU hown
  cases ao with
  | none =>
    obtain ⟨rfl, rfl⟩ := hnil rfl
    obtain rfl := List.length_eq_zero_iff.1 hm
    refine ⟨v, w, fun ty => run_append_owned_none (P := Tryz.prog) (w := w) base 27 ty 37 i0 3 Tryz.underlying27 hi v xs.length (cellsU xs) hown, by rw [List.append_nil]; exact hown, World.grownBy.refl _ _, Below.refl _ _⟩
  | some a =>
    have hnews : ∀ j u, (cellsU ys)[j]? = some u → w.cell? (a.add j) = some u := fun j u hj => by
      rcases hr with rfl | ⟨b', o', he, hc⟩
      · simp [cellsU] at hj
      · simp only [Option.some.injEq] at he
        subst he
        have hjl := (List.getElem?_eq_some_iff.1 hj).1
        rw [cellsU_length] at hjl
        rw [Go.WideShapes.add_plain]
        have hq : j / 3 < ys.length := by omega
        have h1 := cellsU_at ys (j / 3) hq
        have h2 := hc (j / 3) hq
        rcases (by omega : j % 3 = 0 ∨ j % 3 = 1 ∨ j % 3 = 2) with e | e | e
        · have h3 := h1.1
          rw [show j / 3 * 3 = j by omega, hj] at h3
          have h4 := h2.1
          rw [show o' + j / 3 * 3 = o' + j by omega] at h4
          rw [h4, ← Option.some.inj h3]
        · have h3 := h1.2.1
          rw [show j / 3 * 3 + 1 = j by omega, hj] at h3
          have h4 := h2.2.1
          rw [show o' + j / 3 * 3 + 1 = o' + j by omega] at h4
          rw [h4, ← Option.some.inj h3]
        · have h3 := h1.2.2
          rw [show j / 3 * 3 + 2 = j by omega, hj] at h3
          have h4 := h2.2.2
          rw [show o' + j / 3 * 3 + 2 = o' + j by omega] at h4
          rw [h4, ← Option.some.inj h3]
    obtain ⟨v', w', hrun, hown', hgrow, _⟩ := run_append_own (P := Tryz.prog) w base 27 27 37 i0 (.agg #[.int .i64 0, .int .i64 0, .int .i64 0]) 3 24 Tryz.underlying27 hi hz0 hz1 hz2 rfl (by decide) v xs.length (cellsU xs) hown a m c (cellsU ys) (by rw [cellsU_length, hm]) hnews (cellsU_one _) (by unfold maxLen; omega) (by omega) hbase
    refine ⟨v', w', fun ty => hrun, ?_, hgrow, (Below.refl _ _).grown hgrow hbase hge⟩
    unfold OwnU
    rw [List.length_append, hm]
    simpa [cellsU] using hown'

theorem litU (w : World) (x0 : Int) (x1 : Int) (x2 : Int) : RdU (w.alloc (.cells #[.int .i64 x0, .int .i64 x1, .int .i64 x2] 37)) (some ⟨w.heap.size, 0, none⟩) [(x0, x1, x2)] := Or.inr ⟨w.heap.size, 0, rfl, fun j hj => by
  obtain rfl : j = 0 := by simp at hj; omega
  simp [List.getD]⟩

theorem own_nilU (w : World) (base : Nat) : OwnU w base (.slice none 0 0) [] := ⟨rfl, Or.inl ⟨rfl, rfl⟩⟩

end Go.Proofs.YtleddlfojogdiaaGreat
