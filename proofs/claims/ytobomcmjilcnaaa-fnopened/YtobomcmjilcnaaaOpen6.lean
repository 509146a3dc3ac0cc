/- How arguments are opened: numbers, lists of ints, sealed numbers, lists of them. -/
import Derived.Test.YtobomcmjilcnaaaBQ
import Derived.ProofKit
import Derived.OpenShut
import Derived.ShutString
import Derived.ChangeOld
import Derived.Deep.SlicePairs
namespace Go.Proofs.Ytobomcmjilcnaaa
set_option linter.unusedVariables false
set_option maxRecDepth 1000000
set_option linter.unusedSimpArgs false
open Go.ChangeShapes Go.WideShapes Go.ChangeAt Go.RowKit

theorem Try.own : ownKnob Try.prog.godebug = none := by kernel_rfl
theorem Try.laidOut : laidOutB Try.prog = true := by kernel_rfl

theorem Try.cellsLSealed : Try.prog.cellsOf 50 = 2 := by kernel_rfl

theorem Try.cellsInt : Try.prog.cellsOf 3 = 1 := by kernel_rfl

theorem arr_two {cs : Array Value} (h : cs.size = 2) : ∃ c0 c1, cs = #[c0, c1] := by
  obtain ⟨l⟩ := cs
  match l, h with
  | [c0, c1], _ => exact ⟨c0, c1, rfl⟩

theorem wf_i64 {x : Int} (h : (Lit.int .i64 x).wf = true) : -9223372036854775808 ≤ x ∧ x ≤ 9223372036854775807 := by
  simpa [Lit.wf, IntKind.min, IntKind.max, IntKind.signed, IntKind.bits] using h

theorem open_sealed {H : Type} {enc : TypeId × Value → H} {W : World} {base : Nat} {v : Value} {d : DataW H} {p : List MemPlace} (hv : Value.okWide Try.prog W .any base 50 v) (h : DataW.Trod enc Try.prog W 0 (fun _ => true) true 50 v d p) :
    ∃ x y : Int, v = .agg #[.int .i64 x, .int .i64 y] ∧ (-9223372036854775808 ≤ x ∧ x ≤ 9223372036854775807) ∧ (-9223372036854775808 ≤ y ∧ y ≤ 9223372036854775807) := by
  obtain ⟨cs, rfl, hsz⟩ := okWide_struct Try.underlying50 hv
  obtain ⟨c0, c1, rfl⟩ := arr_two (hsz.trans Try.cellsLSealed)
  obtain ⟨fuel, hf⟩ := h
  obtain ⟨y0, y1, n, _, _, h0, h1⟩ := trod_struct2 Try.underlying50 hf
  rw [Try.cellsInt] at h0 h1
  simp [Value.cells] at h0 h1
  obtain ⟨x, hx, _, wx⟩ := DataW.trod_int Try.underlying3 h0
  obtain ⟨y, hy, _, wy⟩ := DataW.trod_int Try.underlying3 h1
  simp at hx hy
  subst hx; subst hy
  exact ⟨x, y, rfl, wf_i64 wx, wf_i64 wy⟩

theorem okWide_cells {W : World} {base : Nat} {t e : TypeId} {v : Value} (ht : Try.prog.underlying t = some (.slice e)) (hv : Value.okWide Try.prog W .any base t v) : v.cells.toList = [v] := by
  obtain ⟨a, l, c, rfl⟩ := okWide_slice ht hv
  rfl

theorem open_ints3 {H : Type} {enc : TypeId × Value → H} {W : World} {base : Nat} {v : Value} {d : DataW H} {p : List MemPlace} (hv : Value.okWide Try.prog W .any base 23 v) (h : DataW.Trod enc Try.prog W 0 (fun _ => true) true 23 v d p) :
    ∃ (ao : Option Addr) (n c : Nat) (xs : List Int), v = .slice ao n c ∧ xs.length = n ∧ n ≤ 9223372036854775807 ∧ Rd W ao xs ∧ ∀ y ∈ xs, -9223372036854775808 ≤ y ∧ y ≤ 9223372036854775807 := by
  obtain ⟨fuel, hf⟩ := h
  rw [okWide_cells Try.underlying23 hv] at hf
  rcases open_ints Try.underlying23 Try.underlying3 Try.cellsInt hf with ⟨hcs, _⟩ | ⟨a, l, c, zs, hcs, _, hl, hm, hz, _, hcell, hwz⟩
  · simp at hcs
    exact ⟨none, 0, 0, [], hcs, rfl, by omega, Or.inl rfl, by simp⟩
  · simp at hcs
    simp at hz
    unfold maxLen at hm
    refine ⟨some a, l, c, zs.take l, hcs, by simp; omega, by omega, ?_, fun y hy => wf_i64 (hwz y (List.mem_of_mem_take hy))⟩
    by_cases h0 : l = 0
    · left; subst h0; simp
    · right
      obtain ⟨b, off, rfl, hc⟩ := ints_at hcell (by omega)
      refine ⟨b, off, rfl, fun j hj => ?_⟩
      simp at hj
      have := hc j (by omega)
      rw [this]
      simp [List.getD, List.getElem?_take, show j < l by omega]

theorem open_sealeds3 {H : Type} {enc : TypeId × Value → H} {W : World} {base : Nat} {v : Value} {d : DataW H} {p : List MemPlace} (hv : Value.okWide Try.prog W .any base 44 v) (h : DataW.Trod enc Try.prog W 0 (fun _ => true) true 44 v d p) :
    ∃ (ao : Option Addr) (n c : Nat) (xs : List (Int × Int)), v = .slice ao n c ∧ xs.length = n ∧ n ≤ 9223372036854775807 ∧ RdP W ao xs := by
  obtain ⟨fuel, hf⟩ := h
  rw [okWide_cells Try.underlying44 hv] at hf
  rcases Go.Deep.open_slice_pairs Try.underlying44 Try.underlying50 Try.cellsLSealed rfl rfl Try.cellsInt Try.cellsInt hf with ⟨hcs, _⟩ | ⟨a, l, c, m, k, V0, V1, D0, D1, P0, P1, hcs, _, hl, hm, hz, _, hcell⟩
  · simp at hcs
    exact ⟨none, 0, 0, [], hcs, rfl, by omega, Or.inl rfl⟩
  · simp at hcs
    simp at hz
    unfold maxLen at hm
    have hint : ∀ i, i < l → ∃ q : Int × Int, W.cell? (a.add (i * 2)) = some (.int .i64 q.1) ∧ W.cell? (a.add (i * 2 + 1)) = some (.int .i64 q.2) := fun i hi => by
      obtain ⟨h1, h2, h3, h4⟩ := hcell i (by omega)
      obtain ⟨x, hx, _⟩ := DataW.trod_int Try.underlying3 h3
      obtain ⟨y, hy, _⟩ := DataW.trod_int Try.underlying3 h4
      simp at hx hy
      exact ⟨(x, y), by rw [h1, hx], by rw [h2, hy]⟩
    obtain ⟨Q, hQ⟩ := Go.Deep.choose_lt hint
    refine ⟨some a, l, c, (List.range l).map Q, hcs, by simp, by omega, ?_⟩
    by_cases h0 : l = 0
    · left; subst h0; simp
    · right
      obtain ⟨b, off, spot⟩ := a
      have hspot : spot = none := by simpa [Addr.add] using World.cell?_spot (hQ 0 (by omega)).1
      subst hspot
      refine ⟨b, off, rfl, fun j hj => ?_⟩
      simp at hj
      have := hQ j (by omega)
      rw [Go.WideShapes.add_plain, Go.WideShapes.add_plain] at this
      have e : ((List.range l).map Q).getD j (0, 0) = Q j := by simp [List.getD, hj]
      rw [e]
      exact ⟨this.1, by simpa [Nat.add_assoc] using this.2⟩

end Go.Proofs.Ytobomcmjilcnaaa
