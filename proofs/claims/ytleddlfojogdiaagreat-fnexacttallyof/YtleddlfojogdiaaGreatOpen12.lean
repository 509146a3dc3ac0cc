/- How arguments are opened: numbers, bools, lists of bools, claims, lists of statements. -/
import Derived.Test.YtleddlfojogdiaaGreatS12
import Derived.ProofKit
import Derived.OpenShut
import Derived.ShutString
import Derived.ChangeOld
import Derived.Deep.Slices
import Derived.Deep.Grids
namespace Go.Proofs.YtleddlfojogdiaaGreat
set_option linter.unusedVariables false
set_option maxRecDepth 1000000
set_option linter.unusedSimpArgs false
open Go.ChangeShapes Go.WideShapes Go.ChangeAt Go.RowKit

theorem Tryz.own : ownKnob Tryz.prog.godebug = none := by kernel_rfl
theorem Tryz.laidOut : laidOutB Tryz.prog = true := by kernel_rfl

theorem Tryz.cellsInt : Tryz.prog.cellsOf 3 = 1 := by kernel_rfl

theorem arr_two {cs : Array Value} (h : cs.size = 2) : ∃ c0 c1, cs = #[c0, c1] := by
  obtain ⟨l⟩ := cs
  match l, h with
  | [c0, c1], _ => exact ⟨c0, c1, rfl⟩

theorem wf_i64 {x : Int} (h : (Lit.int .i64 x).wf = true) : -9223372036854775808 ≤ x ∧ x ≤ 9223372036854775807 := by
  simpa [Lit.wf, IntKind.min, IntKind.max, IntKind.signed, IntKind.bits] using h

theorem okWide_cells {W : World} {base : Nat} {t e : TypeId} {v : Value} (ht : Tryz.prog.underlying t = some (.slice e)) (hv : Value.okWide Tryz.prog W .any base t v) : v.cells.toList = [v] := by
  obtain ⟨a, l, c, rfl⟩ := okWide_slice ht hv
  rfl

theorem open_ints3 {H : Type} {enc : TypeId × Value → H} {W : World} {base : Nat} {v : Value} {d : DataW H} {p : List MemPlace} (hv : Value.okWide Tryz.prog W .any base 81 v) (h : DataW.Trod enc Tryz.prog W 0 (fun _ => true) true 81 v d p) :
    ∃ (ao : Option Addr) (n c : Nat) (xs : List Int), v = .slice ao n c ∧ xs.length = n ∧ n ≤ 9223372036854775807 ∧ Rd W ao xs ∧ ∀ y ∈ xs, -9223372036854775808 ≤ y ∧ y ≤ 9223372036854775807 := by
  obtain ⟨fuel, hf⟩ := h
  rw [okWide_cells Tryz.underlying81 hv] at hf
  rcases open_ints Tryz.underlying81 Tryz.underlying3 Tryz.cellsInt hf with ⟨hcs, _⟩ | ⟨a, l, c, zs, hcs, _, hl, hm, hz, _, hcell, hwz⟩
  · simp at hcs
    exact ⟨none, 0, 0, [], hcs, rfl, by omega, Or.inl rfl, by simp⟩
  · simp at hcs
    simp at hz
    unfold maxLen at hm
    refine ⟨some a, l, c, zs.take l, hcs, by simp; omega, by omega, ?_, fun y hy => wf_i64 (hwz y (List.mem_of_mem_take hy))⟩
    by_cases h0 : l = 0
    · left; subst h0; simp
    · right
      obtain ⟨b, off, rfl, hc⟩ := ints_at hcell (by omega)
      refine ⟨b, off, rfl, fun j hj => ?_⟩
      simp at hj
      have := hc j (by omega)
      rw [this]
      simp [List.getD, List.getElem?_take, show j < l by omega]

theorem Tryz.cellsBool : Tryz.prog.cellsOf 4 = 1 := by kernel_rfl

theorem Tryz.cellsLClaim : Tryz.prog.cellsOf 88 = 3 := by kernel_rfl

theorem Tryz.cellsLStatement : Tryz.prog.cellsOf 91 = 5 := by kernel_rfl

theorem arr_3 {cs : Array Value} (h : cs.size = 3) : ∃ c0 c1 c2, cs = #[c0, c1, c2] := by
  obtain ⟨l⟩ := cs
  match l, h with
  | [c0, c1, c2], _ => exact ⟨c0, c1, c2, rfl⟩

/-- Three cells that are walked as a claim are three ints. -/
theorem claim_cells {H : Type} {enc : TypeId × Value → H} {W : World} {fuel : Nat} {c0 c1 c2 : Value} {x : DataW H × List MemPlace} (h : DataW.trod enc Tryz.prog W 0 (fun _ => true) true fuel 88 [c0, c1, c2] = some x) :
    ∃ x0 x1 x2 : Int, c0 = .int .i64 x0 ∧ c1 = .int .i64 x1 ∧ c2 = .int .i64 x2 ∧ (-9223372036854775808 ≤ x0 ∧ x0 ≤ 9223372036854775807) ∧ (-9223372036854775808 ≤ x1 ∧ x1 ≤ 9223372036854775807) ∧ (-9223372036854775808 ≤ x2 ∧ x2 ≤ 9223372036854775807) := by
  obtain ⟨ys, n, _, _, _, hyl, hf⟩ := DataW.trod_struct Tryz.underlying88 h
  match ys, hyl with
  | [y0, y1, y2], _ =>
    have g0 := hf 0 _ rfl
    have g1 := hf 1 _ rfl
    have g2 := hf 2 _ rfl
    simp [Tryz.cellsInt] at g0 g1 g2
    obtain ⟨x0, hx0, _, wx0⟩ := DataW.trod_int Tryz.underlying3 g0
    obtain ⟨x1, hx1, _, wx1⟩ := DataW.trod_int Tryz.underlying3 g1
    obtain ⟨x2, hx2, _, wx2⟩ := DataW.trod_int Tryz.underlying3 g2
    simp at hx0 hx1 hx2
    exact ⟨x0, x1, x2, hx0, hx1, hx2, wf_i64 wx0, wf_i64 wx1, wf_i64 wx2⟩

theorem open_claim {H : Type} {enc : TypeId × Value → H} {W : World} {base : Nat} {v : Value} {d : DataW H} {p : List MemPlace} (hv : Value.okWide Tryz.prog W .any base 88 v) (h : DataW.Trod enc Tryz.prog W 0 (fun _ => true) true 88 v d p) :
    ∃ x0 x1 x2 : Int, v = .agg #[.int .i64 x0, .int .i64 x1, .int .i64 x2] ∧ (-9223372036854775808 ≤ x0 ∧ x0 ≤ 9223372036854775807) ∧ (-9223372036854775808 ≤ x1 ∧ x1 ≤ 9223372036854775807) ∧ (-9223372036854775808 ≤ x2 ∧ x2 ≤ 9223372036854775807) := by
  obtain ⟨cs, rfl, hsz⟩ := okWide_struct Tryz.underlying88 hv
  obtain ⟨c0, c1, c2, rfl⟩ := arr_3 (hsz.trans Tryz.cellsLClaim)
  obtain ⟨fuel, hf0⟩ := h
  obtain ⟨x0, x1, x2, rfl, rfl, rfl, w⟩ := claim_cells hf0
  exact ⟨x0, x1, x2, rfl, w⟩

theorem open_StatementS {H : Type} {enc : TypeId × Value → H} {W : World} {base : Nat} {v : Value} {d : DataW H} {p : List MemPlace} (hv : Value.okWide Tryz.prog W .any base 49 v) (h : DataW.Trod enc Tryz.prog W 0 (fun _ => true) true 49 v d p) :
    ∃ (ao : Option Addr) (n c : Nat) (xs : List (Int × Int × Int × Int × Bool)), v = .slice ao n c ∧ xs.length = n ∧ n ≤ 9223372036854775807 ∧ RdS W ao xs := by
  obtain ⟨fuel, hf⟩ := h
  rw [okWide_cells Tryz.underlying49 hv] at hf
  rcases Go.Deep.open_slice Tryz.underlying49 hf with ⟨hcs, _⟩ | ⟨a, l, c, m, k, D, Pl, hcs, _, hl, hm, hz, _, hcell⟩
  · simp at hcs
    exact ⟨none, 0, 0, [], hcs, rfl, by omega, Or.inl rfl⟩
  · simp at hcs
    simp at hz
    unfold maxLen at hm
    have hint : ∀ i, i < l → ∃ q : Int × Int × Int × Int × Bool, W.cell? (a.add (i * 5)) = some (.int .i64 q.1) ∧ W.cell? (a.add (i * 5 + 1)) = some (.int .i64 q.2.1) ∧ W.cell? (a.add (i * 5 + 2)) = some (.int .i64 q.2.2.1) ∧ W.cell? (a.add (i * 5 + 3)) = some (.int .i64 q.2.2.2.1) ∧ W.cell? (a.add (i * 5 + 4)) = some (.bool q.2.2.2.2) := fun i hi => by
      obtain ⟨cs', h1, h2⟩ := hcell i (by omega)
      rw [Tryz.cellsLStatement] at h1
      obtain ⟨_, hlen, hc⟩ := World.cells?_some h1
      obtain ⟨ys, n, _, _, _, hyl, hf⟩ := DataW.trod_struct Tryz.underlying91 h2
      match ys, hyl, cs', hlen with
      | [y0, y1, y2], _, [c0, c1, c2, c3, c4], _ =>
        have g0 := hf 0 _ rfl
        have g1 := hf 1 _ rfl
        have g2 := hf 2 _ rfl
        simp [Tryz.cellsInt, Tryz.cellsBool, Tryz.cellsLClaim] at g0 g1 g2
        obtain ⟨x0, hx0, _, wx0⟩ := DataW.trod_int Tryz.underlying3 g0
        obtain ⟨x1, x2, x3, hx1, hx2, hx3, _⟩ := claim_cells g1
        obtain ⟨x4, hx4, _⟩ := DataW.trod_bool Tryz.underlying4 g2
        simp at hx0 hx4
        subst hx0 hx1 hx2 hx3 hx4
        have e0 := hc 0 (by omega)
        have e1 := hc 1 (by omega)
        have e2 := hc 2 (by omega)
        have e3 := hc 3 (by omega)
        have e4 := hc 4 (by omega)
        rw [Go.Deep.add_add] at e0 e1 e2 e3 e4
        exact ⟨(x0, x1, x2, x3, x4), by simpa using e0, by simpa using e1, by simpa using e2, by simpa using e3, by simpa using e4⟩
    obtain ⟨Q, hQ⟩ := Go.Deep.choose_lt hint
    refine ⟨some a, l, c, (List.range l).map Q, hcs, by simp, by omega, ?_⟩
    by_cases h0 : l = 0
    · left; subst h0; simp
    · right
      obtain ⟨b, off, spot⟩ := a
      have hspot : spot = none := by simpa [Addr.add] using World.cell?_spot (hQ 0 (by omega)).1
      subst hspot
      refine ⟨b, off, rfl, fun j hj => ?_⟩
      simp at hj
      have := hQ j (by omega)
      simp only [Go.WideShapes.add_plain] at this
      have e : ((List.range l).map Q).getD j (0, 0, 0, 0, false) = Q j := by simp [List.getD, hj]
      rw [e]
      simpa [Nat.add_assoc] using this

end Go.Proofs.YtleddlfojogdiaaGreat
