/- How arguments that are lists of parts are opened. -/
import Derived.Test.YtamppekadobagaaBP
import Derived.Test.YtamppekadobagaaOpen4
import Derived.Deep.SlicePairs
namespace Go.Proofs.Ytamppekadobagaa
set_option linter.unusedVariables false
set_option linter.unusedSimpArgs false
open Go.ChangeShapes Go.WideShapes Go.ChangeAt Go.RowKit

theorem Try.cellsLPart : Try.prog.cellsOf 84 = 2 := by kernel_rfl

theorem open_parts3 {H : Type} {enc : TypeId × Value → H} {W : World} {base : Nat} {v : Value} {d : DataW H} {p : List MemPlace} (hv : Value.okWide Try.prog W .any base 55 v) (h : DataW.Trod enc Try.prog W 0 (fun _ => true) true 55 v d p) :
    ∃ (ao : Option Addr) (n c : Nat) (xs : List (Int × Int)), v = .slice ao n c ∧ xs.length = n ∧ n ≤ 9223372036854775807 ∧ RdP W ao xs := by
  obtain ⟨fuel, hf⟩ := h
  rw [okWide_cells Try.underlying55 hv] at hf
  rcases Go.Deep.open_slice_pairs Try.underlying55 Try.underlying84 Try.cellsLPart rfl rfl Try.cellsInt Try.cellsInt hf with ⟨hcs, _⟩ | ⟨a, l, c, m, k, V0, V1, D0, D1, P0, P1, hcs, _, hl, hm, hz, _, hcell⟩
  · simp at hcs
    exact ⟨none, 0, 0, [], hcs, rfl, by omega, Or.inl rfl⟩
  · simp at hcs
    simp at hz
    unfold maxLen at hm
    have hint : ∀ i, i < l → ∃ q : Int × Int, W.cell? (a.add (i * 2)) = some (.int .i64 q.1) ∧ W.cell? (a.add (i * 2 + 1)) = some (.int .i64 q.2) := fun i hi => by
      obtain ⟨h1, h2, h3, h4⟩ := hcell i (by omega)
      obtain ⟨x, hx, _⟩ := DataW.trod_int Try.underlying3 h3
      obtain ⟨y, hy, _⟩ := DataW.trod_int Try.underlying3 h4
      simp at hx hy
      exact ⟨(x, y), by rw [h1, hx], by rw [h2, hy]⟩
    obtain ⟨Q, hQ⟩ := Go.Deep.choose_lt hint
    refine ⟨some a, l, c, (List.range l).map Q, hcs, by simp, by omega, ?_⟩
    by_cases h0 : l = 0
    · left; subst h0; simp
    · right
      obtain ⟨b, off, spot⟩ := a
      have hspot : spot = none := by simpa [Addr.add] using World.cell?_spot (hQ 0 (by omega)).1
      subst hspot
      refine ⟨b, off, rfl, fun j hj => ?_⟩
      simp at hj
      have := hQ j (by omega)
      rw [Go.WideShapes.add_plain, Go.WideShapes.add_plain] at this
      have e : ((List.range l).map Q).getD j (0, 0) = Q j := by simp [List.getD, hj]
      rw [e]
      exact ⟨this.1, by simpa [Nat.add_assoc] using this.2⟩

end Go.Proofs.Ytamppekadobagaa
