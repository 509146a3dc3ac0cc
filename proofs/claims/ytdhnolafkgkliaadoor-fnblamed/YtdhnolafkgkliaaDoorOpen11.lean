/- How arguments are opened: numbers, lists of ints, receipts, lists of receipts. -/
import Derived.Test.YtdhnolafkgkliaaDoorR11
import Derived.ProofKit
import Derived.OpenShut
import Derived.ShutString
import Derived.ChangeOld
import Derived.Deep.Slices
namespace Go.Proofs.YtdhnolafkgkliaaDoor
set_option linter.unusedVariables false
set_option maxRecDepth 1000000
set_option linter.unusedSimpArgs false
open Go.ChangeShapes Go.WideShapes Go.ChangeAt Go.RowKit

theorem Tryd.own : ownKnob Tryd.prog.godebug = none := by kernel_rfl
theorem Tryd.laidOut : laidOutB Tryd.prog = true := by kernel_rfl

theorem Tryd.cellsInt : Tryd.prog.cellsOf 3 = 1 := by kernel_rfl

theorem arr_two {cs : Array Value} (h : cs.size = 2) : ∃ c0 c1, cs = #[c0, c1] := by
  obtain ⟨l⟩ := cs
  match l, h with
  | [c0, c1], _ => exact ⟨c0, c1, rfl⟩

theorem wf_i64 {x : Int} (h : (Lit.int .i64 x).wf = true) : -9223372036854775808 ≤ x ∧ x ≤ 9223372036854775807 := by
  simpa [Lit.wf, IntKind.min, IntKind.max, IntKind.signed, IntKind.bits] using h

theorem okWide_cells {W : World} {base : Nat} {t e : TypeId} {v : Value} (ht : Tryd.prog.underlying t = some (.slice e)) (hv : Value.okWide Tryd.prog W .any base t v) : v.cells.toList = [v] := by
  obtain ⟨a, l, c, rfl⟩ := okWide_slice ht hv
  rfl

theorem open_ints3 {H : Type} {enc : TypeId × Value → H} {W : World} {base : Nat} {v : Value} {d : DataW H} {p : List MemPlace} (hv : Value.okWide Tryd.prog W .any base 23 v) (h : DataW.Trod enc Tryd.prog W 0 (fun _ => true) true 23 v d p) :
    ∃ (ao : Option Addr) (n c : Nat) (xs : List Int), v = .slice ao n c ∧ xs.length = n ∧ n ≤ 9223372036854775807 ∧ Rd W ao xs ∧ ∀ y ∈ xs, -9223372036854775808 ≤ y ∧ y ≤ 9223372036854775807 := by
  obtain ⟨fuel, hf⟩ := h
  rw [okWide_cells Tryd.underlying23 hv] at hf
  rcases open_ints Tryd.underlying23 Tryd.underlying3 Tryd.cellsInt hf with ⟨hcs, _⟩ | ⟨a, l, c, zs, hcs, _, hl, hm, hz, _, hcell, hwz⟩
  · simp at hcs
    exact ⟨none, 0, 0, [], hcs, rfl, by omega, Or.inl rfl, by simp⟩
  · simp at hcs
    simp at hz
    unfold maxLen at hm
    refine ⟨some a, l, c, zs.take l, hcs, by simp; omega, by omega, ?_, fun y hy => wf_i64 (hwz y (List.mem_of_mem_take hy))⟩
    by_cases h0 : l = 0
    · left; subst h0; simp
    · right
      obtain ⟨b, off, rfl, hc⟩ := ints_at hcell (by omega)
      refine ⟨b, off, rfl, fun j hj => ?_⟩
      simp at hj
      have := hc j (by omega)
      rw [this]
      simp [List.getD, List.getElem?_take, show j < l by omega]

theorem Tryd.cellsLReceipt : Tryd.prog.cellsOf 57 = 4 := by kernel_rfl

theorem arr_4 {cs : Array Value} (h : cs.size = 4) : ∃ c0 c1 c2 c3, cs = #[c0, c1, c2, c3] := by
  obtain ⟨l⟩ := cs
  match l, h with
  | [c0, c1, c2, c3], _ => exact ⟨c0, c1, c2, c3, rfl⟩

theorem open_Receipt {H : Type} {enc : TypeId × Value → H} {W : World} {base : Nat} {v : Value} {d : DataW H} {p : List MemPlace} (hv : Value.okWide Tryd.prog W .any base 57 v) (h : DataW.Trod enc Tryd.prog W 0 (fun _ => true) true 57 v d p) :
    ∃ x0 x1 x2 x3 : Int, v = .agg #[.int .i64 x0, .int .i64 x1, .int .i64 x2, .int .i64 x3] ∧ (-9223372036854775808 ≤ x0 ∧ x0 ≤ 9223372036854775807) ∧ (-9223372036854775808 ≤ x1 ∧ x1 ≤ 9223372036854775807) ∧ (-9223372036854775808 ≤ x2 ∧ x2 ≤ 9223372036854775807) ∧ (-9223372036854775808 ≤ x3 ∧ x3 ≤ 9223372036854775807) := by
  obtain ⟨cs, rfl, hsz⟩ := okWide_struct Tryd.underlying57 hv
  obtain ⟨c0, c1, c2, c3, rfl⟩ := arr_4 (hsz.trans Tryd.cellsLReceipt)
  obtain ⟨fuel, hf0⟩ := h
  obtain ⟨ys, n, _, _, _, hyl, hf⟩ := DataW.trod_struct Tryd.underlying57 hf0
  match ys, hyl with
  | [y0, y1, y2, y3], _ =>
    have g0 := hf 0 _ rfl
    have g1 := hf 1 _ rfl
    have g2 := hf 2 _ rfl
    have g3 := hf 3 _ rfl
    simp [Tryd.cellsInt, Value.cells] at g0 g1 g2 g3
    obtain ⟨x0, hx0, _, wx0⟩ := DataW.trod_int Tryd.underlying3 g0
    obtain ⟨x1, hx1, _, wx1⟩ := DataW.trod_int Tryd.underlying3 g1
    obtain ⟨x2, hx2, _, wx2⟩ := DataW.trod_int Tryd.underlying3 g2
    obtain ⟨x3, hx3, _, wx3⟩ := DataW.trod_int Tryd.underlying3 g3
    simp at hx0 hx1 hx2 hx3
    subst hx0 hx1 hx2 hx3
    exact ⟨x0, x1, x2, x3, rfl, wf_i64 wx0, wf_i64 wx1, wf_i64 wx2, wf_i64 wx3⟩

theorem open_ReceiptS {H : Type} {enc : TypeId × Value → H} {W : World} {base : Nat} {v : Value} {d : DataW H} {p : List MemPlace} (hv : Value.okWide Tryd.prog W .any base 60 v) (h : DataW.Trod enc Tryd.prog W 0 (fun _ => true) true 60 v d p) :
    ∃ (ao : Option Addr) (n c : Nat) (xs : List (Int × Int × Int × Int)), v = .slice ao n c ∧ xs.length = n ∧ n ≤ 9223372036854775807 ∧ RdR W ao xs := by
  obtain ⟨fuel, hf⟩ := h
  rw [okWide_cells Tryd.underlying60 hv] at hf
  rcases Go.Deep.open_slice Tryd.underlying60 hf with ⟨hcs, _⟩ | ⟨a, l, c, m, k, D, Pl, hcs, _, hl, hm, hz, _, hcell⟩
  · simp at hcs
    exact ⟨none, 0, 0, [], hcs, rfl, by omega, Or.inl rfl⟩
  · simp at hcs
    simp at hz
    unfold maxLen at hm
    have hint : ∀ i, i < l → ∃ q : Int × Int × Int × Int, W.cell? (a.add (i * 4)) = some (.int .i64 q.1) ∧ W.cell? (a.add (i * 4 + 1)) = some (.int .i64 q.2.1) ∧ W.cell? (a.add (i * 4 + 2)) = some (.int .i64 q.2.2.1) ∧ W.cell? (a.add (i * 4 + 3)) = some (.int .i64 q.2.2.2) := fun i hi => by
      obtain ⟨cs', h1, h2⟩ := hcell i (by omega)
      rw [Tryd.cellsLReceipt] at h1
      obtain ⟨_, hlen, hc⟩ := World.cells?_some h1
      obtain ⟨ys, n, _, _, _, hyl, hf⟩ := DataW.trod_struct Tryd.underlying57 h2
      match ys, hyl, cs', hlen with
      | [y0, y1, y2, y3], _, [c0, c1, c2, c3], _ =>
        have g0 := hf 0 _ rfl
        have g1 := hf 1 _ rfl
        have g2 := hf 2 _ rfl
        have g3 := hf 3 _ rfl
        simp [Tryd.cellsInt] at g0 g1 g2 g3
        obtain ⟨x0, hx0, _, wx0⟩ := DataW.trod_int Tryd.underlying3 g0
        obtain ⟨x1, hx1, _, wx1⟩ := DataW.trod_int Tryd.underlying3 g1
        obtain ⟨x2, hx2, _, wx2⟩ := DataW.trod_int Tryd.underlying3 g2
        obtain ⟨x3, hx3, _, wx3⟩ := DataW.trod_int Tryd.underlying3 g3
        simp at hx0 hx1 hx2 hx3
        subst hx0 hx1 hx2 hx3
        have e0 := hc 0 (by omega)
        have e1 := hc 1 (by omega)
        have e2 := hc 2 (by omega)
        have e3 := hc 3 (by omega)
        rw [Go.Deep.add_add] at e0 e1 e2 e3
        exact ⟨(x0, x1, x2, x3), by simpa using e0, by simpa using e1, by simpa using e2, by simpa using e3⟩
    obtain ⟨Q, hQ⟩ := Go.Deep.choose_lt hint
    refine ⟨some a, l, c, (List.range l).map Q, hcs, by simp, by omega, ?_⟩
    by_cases h0 : l = 0
    · left; subst h0; simp
    · right
      obtain ⟨b, off, spot⟩ := a
      have hspot : spot = none := by simpa [Addr.add] using World.cell?_spot (hQ 0 (by omega)).1
      subst hspot
      refine ⟨b, off, rfl, fun j hj => ?_⟩
      simp at hj
      have := hQ j (by omega)
      simp only [Go.WideShapes.add_plain] at this
      have e : ((List.range l).map Q).getD j (0, 0, 0, 0) = Q j := by simp [List.getD, hj]
      rw [e]
      simpa [Nat.add_assoc] using this

end Go.Proofs.YtdhnolafkgkliaaDoor
