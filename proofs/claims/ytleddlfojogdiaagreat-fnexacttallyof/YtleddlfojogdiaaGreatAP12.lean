/- Chapter 12: lists of numbers, of claims and of statements appended. -/
import Derived.Test.YtleddlfojogdiaaGreatP12
import Derived.Test.YtleddlfojogdiaaGreatS12
import Derived.Lib.SliceRun
import Derived.Laws.AppendOwnNone
import Derived.Laws.OwnMore
import Derived.Lib.AppendZeros
namespace Go.Proofs.YtleddlfojogdiaaGreat
set_option linter.unusedVariables false
set_option maxRecDepth 1000000
set_option linter.unusedSimpArgs false
open Go.RowKit

theorem row_sepT {w : World} {b1 b2 t1 t2 K1 K2 n m : Nat} {v u : Value} {cs ds : List Value} (h : w.ownsRow b1 t1 K1 v n cs) (k : w.ownsRow b2 t2 K2 u m ds) (ht : t1 ≠ t2) : v.ownBlock = none ∨ v.ownBlock ≠ u.ownBlock := by
  rcases h.2 with ⟨rfl, _⟩ | ⟨g, cap, cur, rfl, _, hg, _⟩
  · exact Or.inl rfl
  · rcases k.2 with ⟨rfl, _⟩ | ⟨g', cap', cur', rfl, _, hg', _⟩
    · exact Or.inr (by simp [Value.ownBlock])
    · refine Or.inr fun e => ?_
      simp only [Value.ownBlock, Option.some.injEq] at e
      subst e
      rw [hg] at hg'
      simp at hg'
      exact ht hg'.2

theorem appendI_run (w : World) (base : Nat) (v : Value) (xs ys : List Int) (ao : Option Addr) (m c : Nat) (hown : Own w base v xs) (hr : Rd w ao ys) (hm : ys.length = m) (hnil : ao = none → m = 0 ∧ c = 0) (hb : xs.length + m ≤ 1000000) (hbase : base ≤ w.heap.size) :
    ∃ v' w', (∀ ty, (Builtin.append_ #[81, 81] ty #[v, .slice ao m c]).run Tryz.prog w = .ok v' w') ∧ Own w' base v' (xs ++ ys) ∧ w.grownBy w' v.ownBlock ∧ Below base w w' := by
  obtain ⟨i0, hi, hz0, hz1, hz2⟩ := info_parts Tryz.infoInt
  have hge : ∀ k, v.ownBlock = some k → base ≤ k := own_block_ge hown
  cases ao with
  | none =>
    obtain ⟨rfl, rfl⟩ := hnil rfl
    obtain rfl := List.length_eq_zero_iff.1 hm
    refine ⟨v, w, fun ty => run_append_owned_none (P := Tryz.prog) (w := w) base 81 ty 3 i0 1 Tryz.underlying81 hi v xs.length (cellsI xs) hown, by rw [List.append_nil]; exact hown, World.grownBy.refl _ _, Below.refl _ _⟩
  | some a =>
    have hnews : ∀ j u, (cellsI ys)[j]? = some u → w.cell? (a.add j) = some u := fun j u hj => by
      rcases hr with rfl | ⟨b', o', he, hc⟩
      · simp [cellsI] at hj
      · simp only [Option.some.injEq] at he
        subst he
        have hjl : j < ys.length := by have := (List.getElem?_eq_some_iff.1 hj).1; simpa [cellsI] using this
        rw [getD_map_int ys j hjl] at hj
        simp only [Option.some.injEq] at hj
        subst hj
        rw [Go.WideShapes.add_plain]
        exact hc j hjl
    obtain ⟨v', w', hrun, hown', hgrow, _⟩ := run_append_own (P := Tryz.prog) w base 81 81 3 i0 (.int .i64 0) 1 8 Tryz.underlying81 hi hz0 hz1 hz2 rfl (by decide) v xs.length (cellsI xs) hown a m c (cellsI ys) (by rw [cellsI_length, hm, Nat.mul_one]) hnews (cellsI_oneCell _) (by unfold maxLen; omega) (by omega) hbase
    refine ⟨v', w', fun ty => hrun, ?_, hgrow, (Below.refl _ _).grown hgrow hbase hge⟩
    unfold Own
    rw [List.length_append, hm]
    simpa [cellsI] using hown'

theorem litI (w : World) (x : Int) : Rd (w.alloc (.cells #[.int .i64 x] 3)) (some ⟨w.heap.size, 0, none⟩) [x] := Or.inr ⟨w.heap.size, 0, rfl, fun j hj => by
  obtain rfl : j = 0 := by simp at hj; omega
  simp⟩

theorem appendC_run (w : World) (base : Nat) (v : Value) (xs ys : List (Int × Int × Int)) (ao : Option Addr) (m c : Nat) (hown : OwnC w base v xs) (hr : RdC w ao ys) (hm : ys.length = m) (hnil : ao = none → m = 0 ∧ c = 0) (hb : xs.length + m ≤ 1000000) (hbase : base ≤ w.heap.size) :
    ∃ v' w', (∀ ty, (Builtin.append_ #[23, 23] ty #[v, .slice ao m c]).run Tryz.prog w = .ok v' w') ∧ OwnC w' base v' (xs ++ ys) ∧ w.grownBy w' v.ownBlock ∧ Below base w w' := by
  obtain ⟨i0, hi, hz0, hz1, hz2⟩ := info_parts Tryz.infoClaim
  have hge : ∀ k, v.ownBlock = some k → base ≤ k := own_block_geC hown
  cases ao with
  | none =>
    obtain ⟨rfl, rfl⟩ := hnil rfl
    obtain rfl := List.length_eq_zero_iff.1 hm
    refine ⟨v, w, fun ty => run_append_owned_none (P := Tryz.prog) (w := w) base 23 ty 32 i0 3 Tryz.underlying23 hi v xs.length (cellsC xs) hown, by rw [List.append_nil]; exact hown, World.grownBy.refl _ _, Below.refl _ _⟩
  | some a =>
    have hnews : ∀ j u, (cellsC ys)[j]? = some u → w.cell? (a.add j) = some u := fun j u hj => by
      rcases hr with rfl | ⟨b', o', he, hc⟩
      · simp [cellsC] at hj
      · simp only [Option.some.injEq] at he
        subst he
        have hjl := (List.getElem?_eq_some_iff.1 hj).1
        rw [cellsC_length] at hjl
        rw [Go.WideShapes.add_plain]
        have hq : j / 3 < ys.length := by omega
        have h1 := cellsC_at ys (j / 3) hq
        have h2 := hc (j / 3) hq
        rcases (by omega : j % 3 = 0 ∨ j % 3 = 1 ∨ j % 3 = 2) with e | e | e
        · have h3 := h1.1
          rw [show j / 3 * 3 = j by omega, hj] at h3
          have h4 := h2.1
          rw [show o' + j / 3 * 3 = o' + j by omega] at h4
          rw [h4, ← Option.some.inj h3]
        · have h3 := h1.2.1
          rw [show j / 3 * 3 + 1 = j by omega, hj] at h3
          have h4 := h2.2.1
          rw [show o' + j / 3 * 3 + 1 = o' + j by omega] at h4
          rw [h4, ← Option.some.inj h3]
        · have h3 := h1.2.2
          rw [show j / 3 * 3 + 2 = j by omega, hj] at h3
          have h4 := h2.2.2
          rw [show o' + j / 3 * 3 + 2 = o' + j by omega] at h4
          rw [h4, ← Option.some.inj h3]
    obtain ⟨v', w', hrun, hown', hgrow, _⟩ := run_append_own (P := Tryz.prog) w base 23 23 32 i0 (.agg #[.int .i64 0, .int .i64 0, .int .i64 0]) 3 24 Tryz.underlying23 hi hz0 hz1 hz2 rfl (by decide) v xs.length (cellsC xs) hown a m c (cellsC ys) (by rw [cellsC_length, hm]) hnews (cellsC_one _) (by unfold maxLen; omega) (by omega) hbase
    refine ⟨v', w', fun ty => hrun, ?_, hgrow, (Below.refl _ _).grown hgrow hbase hge⟩
    unfold OwnC
    rw [List.length_append, hm]
    simpa [cellsC] using hown'

theorem litC (w : World) (x0 : Int) (x1 : Int) (x2 : Int) : RdC (w.alloc (.cells #[.int .i64 x0, .int .i64 x1, .int .i64 x2] 32)) (some ⟨w.heap.size, 0, none⟩) [(x0, x1, x2)] := Or.inr ⟨w.heap.size, 0, rfl, fun j hj => by
  obtain rfl : j = 0 := by simp at hj; omega
  simp [List.getD]⟩

theorem appendS_run (w : World) (base : Nat) (v : Value) (xs ys : List (Int × Int × Int × Int × Bool)) (ao : Option Addr) (m c : Nat) (hown : OwnS w base v xs) (hr : RdS w ao ys) (hm : ys.length = m) (hnil : ao = none → m = 0 ∧ c = 0) (hb : xs.length + m ≤ 1000000) (hbase : base ≤ w.heap.size) :
    ∃ v' w', (∀ ty, (Builtin.append_ #[24, 24] ty #[v, .slice ao m c]).run Tryz.prog w = .ok v' w') ∧ OwnS w' base v' (xs ++ ys) ∧ w.grownBy w' v.ownBlock ∧ Below base w w' := by
  obtain ⟨i0, hi, hz0, hz1, hz2⟩ := info_parts Tryz.infoStatement
  have hge : ∀ k, v.ownBlock = some k → base ≤ k := own_block_geS hown
  cases ao with
  | none =>
    obtain ⟨rfl, rfl⟩ := hnil rfl
    obtain rfl := List.length_eq_zero_iff.1 hm
    refine ⟨v, w, fun ty => run_append_owned_none (P := Tryz.prog) (w := w) base 24 ty 34 i0 5 Tryz.underlying24 hi v xs.length (cellsS xs) hown, by rw [List.append_nil]; exact hown, World.grownBy.refl _ _, Below.refl _ _⟩
  | some a =>
    have hnews : ∀ j u, (cellsS ys)[j]? = some u → w.cell? (a.add j) = some u := fun j u hj => by
      rcases hr with rfl | ⟨b', o', he, hc⟩
      · simp [cellsS] at hj
      · simp only [Option.some.injEq] at he
        subst he
        have hjl := (List.getElem?_eq_some_iff.1 hj).1
        rw [cellsS_length] at hjl
        rw [Go.WideShapes.add_plain]
        have hq : j / 5 < ys.length := by omega
        have h1 := cellsS_at ys (j / 5) hq
        have h2 := hc (j / 5) hq
        rcases (by omega : j % 5 = 0 ∨ j % 5 = 1 ∨ j % 5 = 2 ∨ j % 5 = 3 ∨ j % 5 = 4) with e | e | e | e | e
        · have h3 := h1.1
          rw [show j / 5 * 5 = j by omega, hj] at h3
          have h4 := h2.1
          rw [show o' + j / 5 * 5 = o' + j by omega] at h4
          rw [h4, ← Option.some.inj h3]
        · have h3 := h1.2.1
          rw [show j / 5 * 5 + 1 = j by omega, hj] at h3
          have h4 := h2.2.1
          rw [show o' + j / 5 * 5 + 1 = o' + j by omega] at h4
          rw [h4, ← Option.some.inj h3]
        · have h3 := h1.2.2.1
          rw [show j / 5 * 5 + 2 = j by omega, hj] at h3
          have h4 := h2.2.2.1
          rw [show o' + j / 5 * 5 + 2 = o' + j by omega] at h4
          rw [h4, ← Option.some.inj h3]
        · have h3 := h1.2.2.2.1
          rw [show j / 5 * 5 + 3 = j by omega, hj] at h3
          have h4 := h2.2.2.2.1
          rw [show o' + j / 5 * 5 + 3 = o' + j by omega] at h4
          rw [h4, ← Option.some.inj h3]
        · have h3 := h1.2.2.2.2
          rw [show j / 5 * 5 + 4 = j by omega, hj] at h3
          have h4 := h2.2.2.2.2
          rw [show o' + j / 5 * 5 + 4 = o' + j by omega] at h4
          rw [h4, ← Option.some.inj h3]
    obtain ⟨v', w', hrun, hown', hgrow, _⟩ := run_append_own (P := Tryz.prog) w base 24 24 34 i0 (.agg #[.int .i64 0, .int .i64 0, .int .i64 0, .int .i64 0, .bool false]) 5 40 Tryz.underlying24 hi hz0 hz1 hz2 rfl (by decide) v xs.length (cellsS xs) hown a m c (cellsS ys) (by rw [cellsS_length, hm]) hnews (cellsS_one _) (by unfold maxLen; omega) (by omega) hbase
    refine ⟨v', w', fun ty => hrun, ?_, hgrow, (Below.refl _ _).grown hgrow hbase hge⟩
    unfold OwnS
    rw [List.length_append, hm]
    simpa [cellsS] using hown'

theorem litS (w : World) (x0 : Int) (x1 : Int) (x2 : Int) (x3 : Int) (x4 : Bool) : RdS (w.alloc (.cells #[.int .i64 x0, .int .i64 x1, .int .i64 x2, .int .i64 x3, .bool x4] 34)) (some ⟨w.heap.size, 0, none⟩) [(x0, x1, x2, x3, x4)] := Or.inr ⟨w.heap.size, 0, rfl, fun j hj => by
  obtain rfl : j = 0 := by simp at hj; omega
  simp [List.getD]⟩

theorem own_nilC (w : World) (base : Nat) : OwnC w base (.slice none 0 0) [] := ⟨rfl, Or.inl ⟨rfl, rfl⟩⟩

theorem own_nilS (w : World) (base : Nat) : OwnS w base (.slice none 0 0) [] := ⟨rfl, Or.inl ⟨rfl, rfl⟩⟩

theorem own_nilI (w : World) (base : Nat) : Own w base (.slice none 0 0) [] := ⟨rfl, Or.inl ⟨rfl, rfl⟩⟩

end Go.Proofs.YtleddlfojogdiaaGreat
