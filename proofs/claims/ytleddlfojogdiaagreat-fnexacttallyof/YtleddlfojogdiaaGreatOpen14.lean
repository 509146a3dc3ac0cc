/- How lists of claims, tallies and lists of tallies are opened. -/
import Derived.Test.YtleddlfojogdiaaGreatOpen12
import Derived.Test.YtleddlfojogdiaaGreatC12
import Derived.Test.YtleddlfojogdiaaGreatTA14
namespace Go.Proofs.YtleddlfojogdiaaGreat
set_option linter.unusedVariables false
set_option maxRecDepth 1000000
set_option linter.unusedSimpArgs false
open Go.ChangeShapes Go.WideShapes Go.ChangeAt Go.RowKit

theorem open_ClaimS {H : Type} {enc : TypeId × Value → H} {W : World} {base : Nat} {v : Value} {d : DataW H} {p : List MemPlace} (hv : Value.okWide Tryz.prog W .any base 48 v) (h : DataW.Trod enc Tryz.prog W 0 (fun _ => true) true 48 v d p) :
    ∃ (ao : Option Addr) (n c : Nat) (xs : List (Int × Int × Int)), v = .slice ao n c ∧ xs.length = n ∧ n ≤ 9223372036854775807 ∧ RdC W ao xs := by
  obtain ⟨fuel, hf⟩ := h
  rw [okWide_cells Tryz.underlying48 hv] at hf
  rcases Go.Deep.open_slice Tryz.underlying48 hf with ⟨hcs, _⟩ | ⟨a, l, c, m, k, D, Pl, hcs, _, hl, hm, hz, _, hcell⟩
  · simp at hcs
    exact ⟨none, 0, 0, [], hcs, rfl, by omega, Or.inl rfl⟩
  · simp at hcs
    simp at hz
    unfold maxLen at hm
    have hint : ∀ i, i < l → ∃ q : Int × Int × Int, W.cell? (a.add (i * 3)) = some (.int .i64 q.1) ∧ W.cell? (a.add (i * 3 + 1)) = some (.int .i64 q.2.1) ∧ W.cell? (a.add (i * 3 + 2)) = some (.int .i64 q.2.2) := fun i hi => by
      obtain ⟨cs', h1, h2⟩ := hcell i (by omega)
      rw [Tryz.cellsLClaim] at h1
      obtain ⟨_, hlen, hc⟩ := World.cells?_some h1
      obtain ⟨ys, n, _, _, _, hyl, hf⟩ := DataW.trod_struct Tryz.underlying88 h2
      match ys, hyl, cs', hlen with
      | [y0, y1, y2], _, [c0, c1, c2], _ =>
        have g0 := hf 0 _ rfl
        have g1 := hf 1 _ rfl
        have g2 := hf 2 _ rfl
        simp [Tryz.cellsInt] at g0 g1 g2
        obtain ⟨x0, hx0, _, wx0⟩ := DataW.trod_int Tryz.underlying3 g0
        obtain ⟨x1, hx1, _, wx1⟩ := DataW.trod_int Tryz.underlying3 g1
        obtain ⟨x2, hx2, _, wx2⟩ := DataW.trod_int Tryz.underlying3 g2
        simp at hx0 hx1 hx2
        subst hx0 hx1 hx2
        have e0 := hc 0 (by omega)
        have e1 := hc 1 (by omega)
        have e2 := hc 2 (by omega)
        rw [Go.Deep.add_add] at e0 e1 e2
        exact ⟨(x0, x1, x2), by simpa using e0, by simpa using e1, by simpa using e2⟩
    obtain ⟨Q, hQ⟩ := Go.Deep.choose_lt hint
    refine ⟨some a, l, c, (List.range l).map Q, hcs, by simp, by omega, ?_⟩
    by_cases h0 : l = 0
    · left; subst h0; simp
    · right
      obtain ⟨b, off, spot⟩ := a
      have hspot : spot = none := by simpa [Addr.add] using World.cell?_spot (hQ 0 (by omega)).1
      subst hspot
      refine ⟨b, off, rfl, fun j hj => ?_⟩
      simp at hj
      have := hQ j (by omega)
      simp only [Go.WideShapes.add_plain] at this
      have e : ((List.range l).map Q).getD j (0, 0, 0) = Q j := by simp [List.getD, hj]
      rw [e]
      simpa [Nat.add_assoc] using this

end Go.Proofs.YtleddlfojogdiaaGreat
