/- Chapter 10: lists of emits, steps and bools appended. -/
import Derived.Test.YteopaocomfepfaaE10
import Derived.Test.YteopaocomfepfaaK10
import Derived.Test.YteopaocomfepfaaAR10
namespace Go.Proofs.Yteopaocomfepfaa
set_option linter.unusedVariables false
set_option maxRecDepth 1000000
set_option linter.unusedSimpArgs false
open Go.RowKit

/-- A list that is read is appended to a row of the call's own. -/
theorem appendE_run (w : World) (base : Nat) (v : Value) (xs ys : List (Int × Int × Int)) (ao : Option Addr) (m c : Nat) (hown : OwnE w base v xs) (hr : RdE w ao ys) (hm : ys.length = m) (hnil : ao = none → m = 0 ∧ c = 0) (hb : xs.length + m ≤ 1000000) (hbase : base ≤ w.heap.size) :
    ∃ v' w', (∀ ty, (Builtin.append_ #[26, 26] ty #[v, .slice ao m c]).run Try.prog w = .ok v' w') ∧ OwnE w' base v' (xs ++ ys) ∧ w.grownBy w' v.ownBlock ∧ Below base w w' := by
  obtain ⟨i0, hi, hz0, hz1, hz2⟩ := info_parts Try.infoEmit
  have hge : ∀ k, v.ownBlock = some k → base ≤ k := own_block_geE hown
  cases ao with
  | none =>
    obtain ⟨rfl, rfl⟩ := hnil rfl
    obtain rfl := List.length_eq_zero_iff.1 hm
    refine ⟨v, w, fun ty => run_append_owned_none (P := Try.prog) (w := w) base 26 ty 52 i0 3 Try.underlying26 hi v xs.length (cellsE xs) hown, by rw [List.append_nil]; exact hown, World.grownBy.refl _ _, Below.refl _ _⟩
  | some a =>
    have hnews : ∀ j u, (cellsE ys)[j]? = some u → w.cell? (a.add j) = some u := fun j u hj => by
      rcases hr with rfl | ⟨b', o', he, hc⟩
      · simp [cellsE] at hj
      · simp only [Option.some.injEq] at he
        subst he
        have hjl := (List.getElem?_eq_some_iff.1 hj).1
        rw [cellsE_length] at hjl
        rw [Go.WideShapes.add_plain]
        have hq : j / 3 < ys.length := by omega
        have h1 := cellsE_at ys (j / 3) hq
        have h2 := hc (j / 3) hq
        rcases (by omega : j % 3 = 0 ∨ j % 3 = 1 ∨ j % 3 = 2) with e | e | e
        · have h3 := h1.1
          rw [show j / 3 * 3 = j by omega, hj] at h3
          have h4 := h2.1
          rw [show o' + j / 3 * 3 = o' + j by omega] at h4
          rw [h4, ← Option.some.inj h3]
        · have h3 := h1.2.1
          rw [show j / 3 * 3 + 1 = j by omega, hj] at h3
          have h4 := h2.2.1
          rw [show o' + j / 3 * 3 + 1 = o' + j by omega] at h4
          rw [h4, ← Option.some.inj h3]
        · have h3 := h1.2.2
          rw [show j / 3 * 3 + 2 = j by omega, hj] at h3
          have h4 := h2.2.2
          rw [show o' + j / 3 * 3 + 2 = o' + j by omega] at h4
          rw [h4, ← Option.some.inj h3]
    obtain ⟨v', w', hrun, hown', hgrow, _⟩ := run_append_own (P := Try.prog) w base 26 26 52 i0 (.agg #[.int .i64 0, .int .i64 0, .int .i64 0]) 3 24 Try.underlying26 hi hz0 hz1 hz2 rfl (by decide) v xs.length (cellsE xs) hown a m c (cellsE ys) (by rw [cellsE_length, hm]) hnews (cellsE_one _) (by unfold maxLen; omega) (by omega) hbase
    refine ⟨v', w', fun ty => hrun, ?_, hgrow, (Below.refl _ _).grown hgrow hbase hge⟩
    unfold OwnE
    rw [List.length_append, hm]
    simpa [cellsE] using hown'
theorem litE (w : World) (x y z : Int) : RdE (w.alloc (.cells #[.int .i64 x, .int .i64 y, .int .i64 z] 52)) (some ⟨w.heap.size, 0, none⟩) [(x, y, z)] := Or.inr ⟨w.heap.size, 0, rfl, fun j hj => by
  obtain rfl : j = 0 := by simp at hj; omega
  simp [List.getD]⟩

/-- A list that is read is appended to a row of the call's own. -/
theorem appendK_run (w : World) (base : Nat) (v : Value) (xs ys : List (Int × ByteArray)) (ao : Option Addr) (m c : Nat) (hown : OwnK w base v xs) (hr : RdK w ao ys) (hm : ys.length = m) (hnil : ao = none → m = 0 ∧ c = 0) (hb : xs.length + m ≤ 1000000) (hbase : base ≤ w.heap.size) :
    ∃ v' w', (∀ ty, (Builtin.append_ #[23, 23] ty #[v, .slice ao m c]).run Try.prog w = .ok v' w') ∧ OwnK w' base v' (xs ++ ys) ∧ w.grownBy w' v.ownBlock ∧ Below base w w' := by
  obtain ⟨i0, hi, hz0, hz1, hz2⟩ := info_parts Try.infoCoverStep
  have hge : ∀ k, v.ownBlock = some k → base ≤ k := own_block_geK hown
  cases ao with
  | none =>
    obtain ⟨rfl, rfl⟩ := hnil rfl
    obtain rfl := List.length_eq_zero_iff.1 hm
    refine ⟨v, w, fun ty => run_append_owned_none (P := Try.prog) (w := w) base 23 ty 39 i0 2 Try.underlying23 hi v xs.length (cellsK xs) hown, by rw [List.append_nil]; exact hown, World.grownBy.refl _ _, Below.refl _ _⟩
  | some a =>
    have hnews : ∀ j u, (cellsK ys)[j]? = some u → w.cell? (a.add j) = some u := fun j u hj => by
      rcases hr with rfl | ⟨b', o', he, hc⟩
      · simp [cellsK] at hj
      · simp only [Option.some.injEq] at he
        subst he
        have hjl := (List.getElem?_eq_some_iff.1 hj).1
        rw [cellsK_length] at hjl
        rw [Go.WideShapes.add_plain]
        have hq : j / 2 < ys.length := by omega
        have h1 := cellsK_at ys (j / 2) hq
        have h2 := hc (j / 2) hq
        rcases (by omega : j % 2 = 0 ∨ j % 2 = 1) with e | e
        · have h3 := h1.1
          rw [show j / 2 * 2 = j by omega, hj] at h3
          have h4 := h2.1
          rw [show o' + j / 2 * 2 = o' + j by omega] at h4
          rw [h4, ← Option.some.inj h3]
        · have h3 := h1.2
          rw [show j / 2 * 2 + 1 = j by omega, hj] at h3
          have h4 := h2.2
          rw [show o' + j / 2 * 2 + 1 = o' + j by omega] at h4
          rw [h4, ← Option.some.inj h3]
    obtain ⟨v', w', hrun, hown', hgrow, _⟩ := run_append_own (P := Try.prog) w base 23 23 39 i0 (.agg #[.int .i64 0, .string ByteArray.empty]) 2 24 Try.underlying23 hi hz0 hz1 hz2 rfl (by decide) v xs.length (cellsK xs) hown a m c (cellsK ys) (by rw [cellsK_length, hm]) hnews (cellsK_one _) (by unfold maxLen; omega) (by omega) hbase
    refine ⟨v', w', fun ty => hrun, ?_, hgrow, (Below.refl _ _).grown hgrow hbase hge⟩
    unfold OwnK
    rw [List.length_append, hm]
    simpa [cellsK] using hown'
theorem litK (w : World) (x : Int) (y : ByteArray) : RdK (w.alloc (.cells #[.int .i64 x, .string y] 39)) (some ⟨w.heap.size, 0, none⟩) [(x, y)] := Or.inr ⟨w.heap.size, 0, rfl, fun j hj => by
  obtain rfl : j = 0 := by simp at hj; omega
  simp [List.getD]⟩

/-- A list that is read is appended to a row of the call's own. -/
theorem appendB_run (w : World) (base : Nat) (v : Value) (xs ys : List Bool) (ao : Option Addr) (m c : Nat) (hown : OwnB w base v xs) (hr : RdB w ao ys) (hm : ys.length = m) (hnil : ao = none → m = 0 ∧ c = 0) (hb : xs.length + m ≤ 1000000) (hbase : base ≤ w.heap.size) :
    ∃ v' w', (∀ ty, (Builtin.append_ #[28, 28] ty #[v, .slice ao m c]).run Try.prog w = .ok v' w') ∧ OwnB w' base v' (xs ++ ys) ∧ w.grownBy w' v.ownBlock ∧ Below base w w' := by
  obtain ⟨i0, hi, hz0, hz1, hz2⟩ := info_parts Try.infoBool
  have hge : ∀ k, v.ownBlock = some k → base ≤ k := own_block_geB hown
  cases ao with
  | none =>
    obtain ⟨rfl, rfl⟩ := hnil rfl
    obtain rfl := List.length_eq_zero_iff.1 hm
    refine ⟨v, w, fun ty => run_append_owned_none (P := Try.prog) (w := w) base 28 ty 4 i0 1 Try.underlying28 hi v xs.length (cellsB xs) hown, by rw [List.append_nil]; exact hown, World.grownBy.refl _ _, Below.refl _ _⟩
  | some a =>
    have hnews : ∀ j u, (cellsB ys)[j]? = some u → w.cell? (a.add j) = some u := fun j u hj => by
      rcases hr with rfl | ⟨b', o', he, hc⟩
      · simp [cellsB] at hj
      · simp only [Option.some.injEq] at he
        subst he
        have hjl := (List.getElem?_eq_some_iff.1 hj).1
        rw [cellsB_length] at hjl
        rw [Go.WideShapes.add_plain]
        rw [getD_map_bool ys j (by omega)] at hj
        simp only [Option.some.injEq] at hj
        subst hj
        exact hc j (by omega)
    obtain ⟨v', w', hrun, hown', hgrow, _⟩ := run_append_own (P := Try.prog) w base 28 28 4 i0 (.bool false) 1 1 Try.underlying28 hi hz0 hz1 hz2 rfl (by decide) v xs.length (cellsB xs) hown a m c (cellsB ys) (by rw [cellsB_length, hm, Nat.mul_one]) hnews (cellsB_oneCell _) (by unfold maxLen; omega) (by omega) hbase
    refine ⟨v', w', fun ty => hrun, ?_, hgrow, (Below.refl _ _).grown hgrow hbase hge⟩
    unfold OwnB
    rw [List.length_append, hm]
    simpa [cellsB] using hown'
theorem litB (w : World) (x : Bool) : RdB (w.alloc (.cells #[.bool x] 4)) (some ⟨w.heap.size, 0, none⟩) [x] := Or.inr ⟨w.heap.size, 0, rfl, fun j hj => by
  obtain rfl : j = 0 := by simp at hj; omega
  simp⟩

end Go.Proofs.Yteopaocomfepfaa
