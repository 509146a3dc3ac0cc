/- A slice of bools opened. -/
import Derived.Test.YtlepejafednlfaaB9B
import Derived.Test.YtlepejafednlfaaOpen4
import Derived.Deep.Grids
namespace Go.Proofs.Ytlepejafednlfaa
set_option linter.unusedVariables false
set_option maxRecDepth 1000000
set_option linter.unusedSimpArgs false
open Go.ChangeShapes Go.WideShapes Go.ChangeAt Go.RowKit

theorem Try.cellsBool : Try.prog.cellsOf 4 = 1 := by kernel_rfl

theorem open_bools3 {H : Type} {enc : TypeId × Value → H} {W : World} {base : Nat} {v : Value} {d : DataW H} {p : List MemPlace} (hv : Value.okWide Try.prog W .any base 25 v) (h : DataW.Trod enc Try.prog W 0 (fun _ => true) true 25 v d p) :
    ∃ (ao : Option Addr) (n c : Nat) (xs : List Bool), v = .slice ao n c ∧ xs.length = n ∧ n ≤ 9223372036854775807 ∧ RdB W ao xs := by
  obtain ⟨fuel, hf⟩ := h
  rw [okWide_cells Try.underlying25 hv] at hf
  rcases Go.Deep.open_bools Try.underlying25 Try.underlying4 Try.cellsBool hf with ⟨hcs, _⟩ | ⟨a, l, c, B, hcs, _, hl, hm, _, hcell⟩
  · simp at hcs
    exact ⟨none, 0, 0, [], hcs, rfl, by omega, Or.inl rfl⟩
  · simp at hcs
    unfold maxLen at hm
    refine ⟨some a, l, c, (List.range l).map B, hcs, by simp, by omega, ?_⟩
    by_cases h0 : l = 0
    · left; subst h0; simp
    · right
      obtain ⟨b, off, spot⟩ := a
      have hspot : spot = none := by simpa [Addr.add] using World.cell?_spot (hcell 0 (by omega))
      subst hspot
      refine ⟨b, off, rfl, fun j hj => ?_⟩
      simp at hj
      have := hcell j (by omega)
      rw [Go.WideShapes.add_plain] at this
      rw [this]
      simp [List.getD, hj]

end Go.Proofs.Ytlepejafednlfaa
