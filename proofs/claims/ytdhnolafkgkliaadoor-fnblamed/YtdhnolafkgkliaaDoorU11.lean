/- Chapter 11: lists of numbers and of receipts appended; the last hand that had the letter. -/
import Derived.Test.YtdhnolafkgkliaaDoorC11
import Derived.Test.YtdhnolafkgkliaaDoorB11
import Derived.Lib.SliceRun
import Derived.Laws.AppendOwnNone
import Derived.Laws.OwnMore
import Derived.Lib.AppendZeros
namespace Go.Proofs.YtdhnolafkgkliaaDoor
set_option linter.unusedVariables false
set_option maxRecDepth 1000000
set_option linter.unusedSimpArgs false
open Go.RowKit

theorem row_sepT {w : World} {b1 b2 t1 t2 K1 K2 n m : Nat} {v u : Value} {cs ds : List Value} (h : w.ownsRow b1 t1 K1 v n cs) (k : w.ownsRow b2 t2 K2 u m ds) (ht : t1 ≠ t2) : v.ownBlock = none ∨ v.ownBlock ≠ u.ownBlock := by
  rcases h.2 with ⟨rfl, _⟩ | ⟨g, cap, cur, rfl, _, hg, _⟩
  · exact Or.inl rfl
  · rcases k.2 with ⟨rfl, _⟩ | ⟨g', cap', cur', rfl, _, hg', _⟩
    · exact Or.inr (by simp [Value.ownBlock])
    · refine Or.inr fun e => ?_
      simp only [Value.ownBlock, Option.some.injEq] at e
      subst e
      rw [hg] at hg'
      simp at hg'
      exact ht hg'.2

theorem appendI_run (w : World) (base : Nat) (v : Value) (xs ys : List Int) (ao : Option Addr) (m c : Nat) (hown : Own w base v xs) (hr : Rd w ao ys) (hm : ys.length = m) (hnil : ao = none → m = 0 ∧ c = 0) (hb : xs.length + m ≤ 1000000) (hbase : base ≤ w.heap.size) :
    ∃ v' w', (∀ ty, (Builtin.append_ #[23, 23] ty #[v, .slice ao m c]).run Tryd.prog w = .ok v' w') ∧ Own w' base v' (xs ++ ys) ∧ w.grownBy w' v.ownBlock ∧ Below base w w' := by
  obtain ⟨i0, hi, hz0, hz1, hz2⟩ := info_parts Tryd.infoInt
  have hge : ∀ k, v.ownBlock = some k → base ≤ k := own_block_ge hown
  cases ao with
  | none =>
    obtain ⟨rfl, rfl⟩ := hnil rfl
    obtain rfl := List.length_eq_zero_iff.1 hm
    refine ⟨v, w, fun ty => run_append_owned_none (P := Tryd.prog) (w := w) base 23 ty 3 i0 1 Tryd.underlying23 hi v xs.length (cellsI xs) hown, by rw [List.append_nil]; exact hown, World.grownBy.refl _ _, Below.refl _ _⟩
  | some a =>
    have hnews : ∀ j u, (cellsI ys)[j]? = some u → w.cell? (a.add j) = some u := fun j u hj => by
      rcases hr with rfl | ⟨b', o', he, hc⟩
      · simp [cellsI] at hj
      · simp only [Option.some.injEq] at he
        subst he
        have hjl : j < ys.length := by have := (List.getElem?_eq_some_iff.1 hj).1; simpa [cellsI] using this
        rw [getD_map_int ys j hjl] at hj
        simp only [Option.some.injEq] at hj
        subst hj
        rw [Go.WideShapes.add_plain]
        exact hc j hjl
    obtain ⟨v', w', hrun, hown', hgrow, _⟩ := run_append_own (P := Tryd.prog) w base 23 23 3 i0 (.int .i64 0) 1 8 Tryd.underlying23 hi hz0 hz1 hz2 rfl (by decide) v xs.length (cellsI xs) hown a m c (cellsI ys) (by rw [cellsI_length, hm, Nat.mul_one]) hnews (cellsI_oneCell _) (by unfold maxLen; omega) (by omega) hbase
    refine ⟨v', w', fun ty => hrun, ?_, hgrow, (Below.refl _ _).grown hgrow hbase hge⟩
    unfold Own
    rw [List.length_append, hm]
    simpa [cellsI] using hown'

theorem litI (w : World) (x : Int) : Rd (w.alloc (.cells #[.int .i64 x] 3)) (some ⟨w.heap.size, 0, none⟩) [x] := Or.inr ⟨w.heap.size, 0, rfl, fun j hj => by
  obtain rfl : j = 0 := by simp at hj; omega
  simp⟩

theorem appendR_run (w : World) (base : Nat) (v : Value) (xs ys : List (Int × Int × Int × Int)) (ao : Option Addr) (m c : Nat) (hown : OwnR w base v xs) (hr : RdR w ao ys) (hm : ys.length = m) (hnil : ao = none → m = 0 ∧ c = 0) (hb : xs.length + m ≤ 1000000) (hbase : base ≤ w.heap.size) :
    ∃ v' w', (∀ ty, (Builtin.append_ #[26, 26] ty #[v, .slice ao m c]).run Tryd.prog w = .ok v' w') ∧ OwnR w' base v' (xs ++ ys) ∧ w.grownBy w' v.ownBlock ∧ Below base w w' := by
  obtain ⟨i0, hi, hz0, hz1, hz2⟩ := info_parts Tryd.infoReceipt
  have hge : ∀ k, v.ownBlock = some k → base ≤ k := own_block_geR hown
  cases ao with
  | none =>
    obtain ⟨rfl, rfl⟩ := hnil rfl
    obtain rfl := List.length_eq_zero_iff.1 hm
    refine ⟨v, w, fun ty => run_append_owned_none (P := Tryd.prog) (w := w) base 26 ty 43 i0 4 Tryd.underlying26 hi v xs.length (cellsR xs) hown, by rw [List.append_nil]; exact hown, World.grownBy.refl _ _, Below.refl _ _⟩
  | some a =>
    have hnews : ∀ j u, (cellsR ys)[j]? = some u → w.cell? (a.add j) = some u := fun j u hj => by
      rcases hr with rfl | ⟨b', o', he, hc⟩
      · simp [cellsR] at hj
      · simp only [Option.some.injEq] at he
        subst he
        have hjl := (List.getElem?_eq_some_iff.1 hj).1
        rw [cellsR_length] at hjl
        rw [Go.WideShapes.add_plain]
        have hq : j / 4 < ys.length := by omega
        have h1 := cellsR_at ys (j / 4) hq
        have h2 := hc (j / 4) hq
        rcases (by omega : j % 4 = 0 ∨ j % 4 = 1 ∨ j % 4 = 2 ∨ j % 4 = 3) with e | e | e | e
        · have h3 := h1.1
          rw [show j / 4 * 4 = j by omega, hj] at h3
          have h4 := h2.1
          rw [show o' + j / 4 * 4 = o' + j by omega] at h4
          rw [h4, ← Option.some.inj h3]
        · have h3 := h1.2.1
          rw [show j / 4 * 4 + 1 = j by omega, hj] at h3
          have h4 := h2.2.1
          rw [show o' + j / 4 * 4 + 1 = o' + j by omega] at h4
          rw [h4, ← Option.some.inj h3]
        · have h3 := h1.2.2.1
          rw [show j / 4 * 4 + 2 = j by omega, hj] at h3
          have h4 := h2.2.2.1
          rw [show o' + j / 4 * 4 + 2 = o' + j by omega] at h4
          rw [h4, ← Option.some.inj h3]
        · have h3 := h1.2.2.2
          rw [show j / 4 * 4 + 3 = j by omega, hj] at h3
          have h4 := h2.2.2.2
          rw [show o' + j / 4 * 4 + 3 = o' + j by omega] at h4
          rw [h4, ← Option.some.inj h3]
    obtain ⟨v', w', hrun, hown', hgrow, _⟩ := run_append_own (P := Tryd.prog) w base 26 26 43 i0 (.agg #[.int .i64 0, .int .i64 0, .int .i64 0, .int .i64 0]) 4 32 Tryd.underlying26 hi hz0 hz1 hz2 rfl (by decide) v xs.length (cellsR xs) hown a m c (cellsR ys) (by rw [cellsR_length, hm]) hnews (cellsR_one _) (by unfold maxLen; omega) (by omega) hbase
    refine ⟨v', w', fun ty => hrun, ?_, hgrow, (Below.refl _ _).grown hgrow hbase hge⟩
    unfold OwnR
    rw [List.length_append, hm]
    simpa [cellsR] using hown'

theorem litR (w : World) (x y z s : Int) : RdR (w.alloc (.cells #[.int .i64 x, .int .i64 y, .int .i64 z, .int .i64 s] 43)) (some ⟨w.heap.size, 0, none⟩) [(x, y, z, s)] := Or.inr ⟨w.heap.size, 0, rfl, fun j hj => by
  obtain rfl : j = 0 := by simp at hj; omega
  simp [List.getD]⟩

theorem lastWith_c (n : Nat) (lo : Int) (w : World) (hn : n ≤ 6) : Calls Tryd.prog 46 #[.int .i64 n, .int .i64 lo] w fun e w' => e = .returned (.int .i64 (atI n lo)) ∧ w' = w := by
  unfold atI
  by_cases h : lo = -1
  · rw [if_pos h]
    have h' : (lo == -1) = true := by simpa using h
    clear h
    go_enter Tryd.func46, Tryd.ntmps46
    go_wp2
    go_ret
    exact ⟨rfl, rfl⟩
  · rw [if_neg h]
    have h' : (lo == -1) = false := by simpa using h
    clear h
    go_enter Tryd.func46, Tryd.ntmps46
    go_wp2
    go_ret
    exact ⟨rfl, rfl⟩

end Go.Proofs.YtdhnolafkgkliaaDoor
