/- How lists of claims, tallies and lists of tallies are opened. -/
import Derived.Test.YtleddlfojogdiaaOpen12
import Derived.Test.YtleddlfojogdiaaC12
import Derived.Test.YtleddlfojogdiaaTA14
namespace Go.Proofs.Ytleddlfojogdiaa
set_option linter.unusedVariables false
set_option maxRecDepth 1000000
set_option linter.unusedSimpArgs false
open Go.ChangeShapes Go.WideShapes Go.ChangeAt Go.RowKit

theorem Try.cellsLTally : Try.prog.cellsOf 43 = 3 := by kernel_rfl

/-- Three cells that are walked as a tally are three ints. -/
theorem tally_cells {H : Type} {enc : TypeId × Value → H} {W : World} {fuel : Nat} {c0 c1 c2 : Value} {x : DataW H × List MemPlace} (h : DataW.trod enc Try.prog W 0 (fun _ => true) true fuel 43 [c0, c1, c2] = some x) :
    ∃ x0 x1 x2 : Int, c0 = .int .i64 x0 ∧ c1 = .int .i64 x1 ∧ c2 = .int .i64 x2 ∧ (-9223372036854775808 ≤ x0 ∧ x0 ≤ 9223372036854775807) ∧ (-9223372036854775808 ≤ x1 ∧ x1 ≤ 9223372036854775807) ∧ (-9223372036854775808 ≤ x2 ∧ x2 ≤ 9223372036854775807) := by
  obtain ⟨ys, n, _, _, _, hyl, hf⟩ := DataW.trod_struct Try.underlying43 h
  match ys, hyl with
  | [y0, y1, y2], _ =>
    have g0 := hf 0 _ rfl
    have g1 := hf 1 _ rfl
    have g2 := hf 2 _ rfl
    simp [Try.cellsInt] at g0 g1 g2
    obtain ⟨x0, hx0, _, wx0⟩ := DataW.trod_int Try.underlying3 g0
    obtain ⟨x1, hx1, _, wx1⟩ := DataW.trod_int Try.underlying3 g1
    obtain ⟨x2, hx2, _, wx2⟩ := DataW.trod_int Try.underlying3 g2
    simp at hx0 hx1 hx2
    exact ⟨x0, x1, x2, hx0, hx1, hx2, wf_i64 wx0, wf_i64 wx1, wf_i64 wx2⟩

theorem open_tally {H : Type} {enc : TypeId × Value → H} {W : World} {base : Nat} {v : Value} {d : DataW H} {p : List MemPlace} (hv : Value.okWide Try.prog W .any base 43 v) (h : DataW.Trod enc Try.prog W 0 (fun _ => true) true 43 v d p) :
    ∃ x0 x1 x2 : Int, v = .agg #[.int .i64 x0, .int .i64 x1, .int .i64 x2] ∧ (-9223372036854775808 ≤ x0 ∧ x0 ≤ 9223372036854775807) ∧ (-9223372036854775808 ≤ x1 ∧ x1 ≤ 9223372036854775807) ∧ (-9223372036854775808 ≤ x2 ∧ x2 ≤ 9223372036854775807) := by
  obtain ⟨cs, rfl, hsz⟩ := okWide_struct Try.underlying43 hv
  obtain ⟨c0, c1, c2, rfl⟩ := arr_3 (hsz.trans Try.cellsLTally)
  obtain ⟨fuel, hf0⟩ := h
  obtain ⟨x0, x1, x2, rfl, rfl, rfl, w⟩ := tally_cells hf0
  exact ⟨x0, x1, x2, rfl, w⟩

theorem open_TallyS {H : Type} {enc : TypeId × Value → H} {W : World} {base : Nat} {v : Value} {d : DataW H} {p : List MemPlace} (hv : Value.okWide Try.prog W .any base 46 v) (h : DataW.Trod enc Try.prog W 0 (fun _ => true) true 46 v d p) :
    ∃ (ao : Option Addr) (n c : Nat) (xs : List (Int × Int × Int)), v = .slice ao n c ∧ xs.length = n ∧ n ≤ 9223372036854775807 ∧ RdU W ao xs := by
  obtain ⟨fuel, hf⟩ := h
  rw [okWide_cells Try.underlying46 hv] at hf
  rcases Go.Deep.open_slice Try.underlying46 hf with ⟨hcs, _⟩ | ⟨a, l, c, m, k, D, Pl, hcs, _, hl, hm, hz, _, hcell⟩
  · simp at hcs
    exact ⟨none, 0, 0, [], hcs, rfl, by omega, Or.inl rfl⟩
  · simp at hcs
    simp at hz
    unfold maxLen at hm
    have hint : ∀ i, i < l → ∃ q : Int × Int × Int, W.cell? (a.add (i * 3)) = some (.int .i64 q.1) ∧ W.cell? (a.add (i * 3 + 1)) = some (.int .i64 q.2.1) ∧ W.cell? (a.add (i * 3 + 2)) = some (.int .i64 q.2.2) := fun i hi => by
      obtain ⟨cs', h1, h2⟩ := hcell i (by omega)
      rw [Try.cellsLTally] at h1
      obtain ⟨_, hlen, hc⟩ := World.cells?_some h1
      obtain ⟨ys, n, _, _, _, hyl, hf⟩ := DataW.trod_struct Try.underlying43 h2
      match ys, hyl, cs', hlen with
      | [y0, y1, y2], _, [c0, c1, c2], _ =>
        have g0 := hf 0 _ rfl
        have g1 := hf 1 _ rfl
        have g2 := hf 2 _ rfl
        simp [Try.cellsInt] at g0 g1 g2
        obtain ⟨x0, hx0, _, wx0⟩ := DataW.trod_int Try.underlying3 g0
        obtain ⟨x1, hx1, _, wx1⟩ := DataW.trod_int Try.underlying3 g1
        obtain ⟨x2, hx2, _, wx2⟩ := DataW.trod_int Try.underlying3 g2
        simp at hx0 hx1 hx2
        subst hx0 hx1 hx2
        have e0 := hc 0 (by omega)
        have e1 := hc 1 (by omega)
        have e2 := hc 2 (by omega)
        rw [Go.Deep.add_add] at e0 e1 e2
        exact ⟨(x0, x1, x2), by simpa using e0, by simpa using e1, by simpa using e2⟩
    obtain ⟨Q, hQ⟩ := Go.Deep.choose_lt hint
    refine ⟨some a, l, c, (List.range l).map Q, hcs, by simp, by omega, ?_⟩
    by_cases h0 : l = 0
    · left; subst h0; simp
    · right
      obtain ⟨b, off, spot⟩ := a
      have hspot : spot = none := by simpa [Addr.add] using World.cell?_spot (hQ 0 (by omega)).1
      subst hspot
      refine ⟨b, off, rfl, fun j hj => ?_⟩
      simp at hj
      have := hQ j (by omega)
      simp only [Go.WideShapes.add_plain] at this
      have e : ((List.range l).map Q).getD j (0, 0, 0) = Q j := by simp [List.getD, hj]
      rw [e]
      simpa [Nat.add_assoc] using this

end Go.Proofs.Ytleddlfojogdiaa
