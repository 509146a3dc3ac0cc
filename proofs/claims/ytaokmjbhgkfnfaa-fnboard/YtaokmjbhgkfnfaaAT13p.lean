/- Chapter 13: steps put behind a row of steps. -/
import Derived.Test.YtaokmjbhgkfnfaaTR13p
namespace Go.Proofs.Ytaokmjbhgkfnfaa
set_option linter.unusedVariables false
set_option maxRecDepth 1000000
set_option linter.unusedSimpArgs false
open Go.RowKit

theorem appendT_run (w : World) (base : Nat) (v : Value) (xs ys : List (Int × Int × Int)) (ao : Option Addr) (m c : Nat) (hown : OwnT w base v xs) (hr : RdT w ao ys) (hm : ys.length = m) (hnil : ao = none → m = 0 ∧ c = 0) (hb : xs.length + m ≤ 1000000) (hbase : base ≤ w.heap.size) :
    ∃ v' w', (∀ ty, (Builtin.append_ #[24, 24] ty #[v, .slice ao m c]).run Try.prog w = .ok v' w') ∧ OwnT w' base v' (xs ++ ys) ∧ w.grownBy w' v.ownBlock ∧ Below base w w' := by
  obtain ⟨i0, hi, hz0, hz1, hz2⟩ := info_parts Try.infoBoardStep
  have hge : ∀ k, v.ownBlock = some k → base ≤ k := own_block_geT hown
  cases ao with
  | none =>
    obtain ⟨rfl, rfl⟩ := hnil rfl
    obtain rfl := List.length_eq_zero_iff.1 hm
    refine ⟨v, w, fun ty => run_append_owned_none (P := Try.prog) (w := w) base 24 ty 40 i0 3 Try.underlying24 hi v xs.length (cellsT xs) hown, by rw [List.append_nil]; exact hown, World.grownBy.refl _ _, Below.refl _ _⟩
  | some a =>
    have hnews : ∀ j u, (cellsT ys)[j]? = some u → w.cell? (a.add j) = some u := fun j u hj => by
      rcases hr with rfl | ⟨b', o', he, hc⟩
      · simp [cellsT] at hj
      · simp only [Option.some.injEq] at he
        subst he
        have hjl := (List.getElem?_eq_some_iff.1 hj).1
        rw [cellsT_length] at hjl
        rw [Go.WideShapes.add_plain]
        have hq : j / 3 < ys.length := by omega
        have h1 := cellsT_at ys (j / 3) hq
        have h2 := hc (j / 3) hq
        rcases (by omega : j % 3 = 0 ∨ j % 3 = 1 ∨ j % 3 = 2) with e | e | e
        · have h3 := h1.1
          rw [show j / 3 * 3 = j by omega, hj] at h3
          have h4 := h2.1
          rw [show o' + j / 3 * 3 = o' + j by omega] at h4
          rw [h4, ← Option.some.inj h3]
        · have h3 := h1.2.1
          rw [show j / 3 * 3 + 1 = j by omega, hj] at h3
          have h4 := h2.2.1
          rw [show o' + j / 3 * 3 + 1 = o' + j by omega] at h4
          rw [h4, ← Option.some.inj h3]
        · have h3 := h1.2.2
          rw [show j / 3 * 3 + 2 = j by omega, hj] at h3
          have h4 := h2.2.2
          rw [show o' + j / 3 * 3 + 2 = o' + j by omega] at h4
          rw [h4, ← Option.some.inj h3]
    obtain ⟨v', w', hrun, hown', hgrow, _⟩ := run_append_own (P := Try.prog) w base 24 24 40 i0 (.agg #[.int .i64 0, .int .i64 0, .int .i64 0]) 3 24 Try.underlying24 hi hz0 hz1 hz2 rfl (by decide) v xs.length (cellsT xs) hown a m c (cellsT ys) (by rw [cellsT_length, hm]) hnews (cellsT_one _) (by unfold maxLen; omega) (by omega) hbase
    refine ⟨v', w', fun ty => hrun, ?_, hgrow, (Below.refl _ _).grown hgrow hbase hge⟩
    unfold OwnT
    rw [List.length_append, hm]
    simpa [cellsT] using hown'
theorem litT (w : World) (x y z : Int) : RdT (w.alloc (.cells #[.int .i64 x, .int .i64 y, .int .i64 z] 40)) (some ⟨w.heap.size, 0, none⟩) [(x, y, z)] := Or.inr ⟨w.heap.size, 0, rfl, fun j hj => by
  obtain rfl : j = 0 := by simp at hj; omega
  simp [List.getD]⟩

end Go.Proofs.Ytaokmjbhgkfnfaa
