/- How an argument that is a list of lists of texts is opened. -/
import Derived.Test.YtelchkoplncmaaaOpenM
import Derived.Test.YtelchkoplncmaaaSS8
import Derived.Deep.Slices
namespace Go.Proofs.Ytelchkoplncmaaa
set_option linter.unusedVariables false
set_option maxRecDepth 1000000
set_option linter.unusedSimpArgs false
open Go.ChangeShapes Go.WideShapes Go.ChangeAt Go.RowKit

theorem open_strss {H : Type} {enc : TypeId × Value → H} {W : World} {base : Nat} {v : Value} {d : DataW H} {p : List MemPlace} (hv : Value.okWide Try.prog W .any base 23 v) (h : DataW.Trod enc Try.prog W 0 (fun _ => true) true 23 v d p) :
    ∃ (ao : Option Addr) (n c : Nat) (xss : List (List ByteArray)), v = .slice ao n c ∧ xss.length = n ∧ n ≤ 9223372036854775807 ∧ RdSS W ao xss ∧ ∀ l ∈ xss, l.length ≤ 9223372036854775807 ∧ ∀ s ∈ l, s.size ≤ 9223372036854775807 := by
  obtain ⟨fuel, hf⟩ := h
  rw [okWide_cells Try.underlying23 hv] at hf
  rcases Go.Deep.open_slice1 Try.underlying23 Try.cellsStrs hf with ⟨hcs, _⟩ | ⟨a, l, c, m, q, V, D, Pl, hcs, _, hl, hm, hmm, _, hx⟩
  · simp at hcs
    exact ⟨none, 0, 0, [], hcs, rfl, by omega, Or.inl rfl, by simp⟩
  · simp at hcs
    simp at hmm
    subst hmm
    unfold maxLen at hm
    have key : ∀ i, i < l → ∃ ss : List ByteArray, (∃ ro rc, V i = .slice ro ss.length rc ∧ RdS W ro ss) ∧ ss.length ≤ 9223372036854775807 ∧ ∀ s ∈ ss, s.size ≤ 9223372036854775807 := fun i hi => by
      obtain ⟨ro, n', rc, ss, h1, h2, h3, h4, h5⟩ := open_strs8 (hx i (by omega)).2
      exact ⟨ss, ⟨ro, rc, by rw [h1, h2], h4⟩, by omega, h5⟩
    obtain ⟨f, hfn⟩ := Go.Deep.choose_lt (α := List ByteArray) key
    refine ⟨some a, l, _, (List.range l).map f, hcs, by simp, by omega, ?_, fun x hx2 => ?_⟩
    · by_cases h0 : l = 0
      · left; subst h0; simp
      · right
        obtain ⟨b, off, spot⟩ := a
        have hspot : spot = none := by simpa [Addr.add] using World.cell?_spot (hx 0 (by omega)).1
        subst hspot
        refine ⟨b, off, rfl, fun j hj => ?_⟩
        simp at hj
        have hc := (hx j (by omega)).1
        rw [Go.WideShapes.add_plain] at hc
        have e : ((List.range l).map f).getD j [] = f j := by simp [List.getD, hj]
        obtain ⟨⟨ro, rc, hV, hR⟩, _⟩ := hfn j hj
        rw [e]
        exact ⟨ro, rc, by rw [hc, hV], hR⟩
    · simp at hx2
      obtain ⟨i, hi, rfl⟩ := hx2
      exact (hfn i hi).2

end Go.Proofs.Ytelchkoplncmaaa
