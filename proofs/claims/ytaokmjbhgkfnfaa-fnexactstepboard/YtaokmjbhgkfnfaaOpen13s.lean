/- How arguments are opened: numbers, bools, lists of ints, lists of them, boards, steps. -/
import Derived.Test.YtaokmjbhgkfnfaaI13s
import Derived.ProofKit
import Derived.OpenShut
import Derived.ShutString
import Derived.ChangeOld
import Derived.Deep.Slices
import Derived.Deep.Grids
namespace Go.Proofs.Ytaokmjbhgkfnfaa
set_option linter.unusedVariables false
set_option maxRecDepth 1000000
set_option linter.unusedSimpArgs false
open Go.ChangeShapes Go.WideShapes Go.ChangeAt Go.RowKit

theorem Try.own : ownKnob Try.prog.godebug = none := by kernel_rfl
theorem Try.laidOut : laidOutB Try.prog = true := by kernel_rfl

theorem Try.cellsInt : Try.prog.cellsOf 3 = 1 := by kernel_rfl

theorem wf_i64 {x : Int} (h : (Lit.int .i64 x).wf = true) : -9223372036854775808 ≤ x ∧ x ≤ 9223372036854775807 := by
  simpa [Lit.wf, IntKind.min, IntKind.max, IntKind.signed, IntKind.bits] using h

theorem Try.cellsInts : Try.prog.cellsOf 23 = 1 := by kernel_rfl

theorem Try.cellsIntss : Try.prog.cellsOf 27 = 1 := by kernel_rfl

theorem Try.cellsLBoard : Try.prog.cellsOf 62 = 5 := by kernel_rfl

theorem Try.cellsLStep : Try.prog.cellsOf 66 = 3 := by kernel_rfl

theorem arr_3 {cs : Array Value} (h : cs.size = 3) : ∃ c0 c1 c2, cs = #[c0, c1, c2] := by
  obtain ⟨l⟩ := cs
  match l, h with
  | [c0, c1, c2], _ => exact ⟨c0, c1, c2, rfl⟩

theorem trod_struct5 {H : Type} {enc : TypeId × Value → H} {P : Program} {w : World} {base : Nat} {spare : Nat → Bool} {held : Bool} {t : TypeId} {f0 f1 f2 f3 f4 : Field} {fuel : Nat} {cs : List Value} {x : DataW H × List MemPlace} (ht : P.underlying t = some (.struct #[f0, f1, f2, f3, f4])) (h : DataW.trod enc P w base spare held fuel t cs = some x) :
    ∃ (y0 y1 y2 y3 y4 : DataW H × List MemPlace) (n : Nat), DataW.trod enc P w base spare held n f0.type ((cs.drop f0.offset).take (P.cellsOf f0.type)) = some y0 ∧ DataW.trod enc P w base spare held n f1.type ((cs.drop f1.offset).take (P.cellsOf f1.type)) = some y1 ∧ DataW.trod enc P w base spare held n f2.type ((cs.drop f2.offset).take (P.cellsOf f2.type)) = some y2 ∧ DataW.trod enc P w base spare held n f3.type ((cs.drop f3.offset).take (P.cellsOf f3.type)) = some y3 ∧ DataW.trod enc P w base spare held n f4.type ((cs.drop f4.offset).take (P.cellsOf f4.type)) = some y4 := by
  obtain ⟨xs, n, _, rfl, hl, hlen, hf⟩ := DataW.trod_struct ht h
  match xs, hlen with
  | [y0, y1, y2, y3, y4], _ => exact ⟨y0, y1, y2, y3, y4, n, by simpa using hf 0 f0 rfl, by simpa using hf 1 f1 rfl, by simpa using hf 2 f2 rfl, by simpa using hf 3 f3 rfl, by simpa using hf 4 f4 rfl⟩

theorem arr_five {cs : Array Value} (h : cs.size = 5) : ∃ c0 c1 c2 c3 c4, cs = #[c0, c1, c2, c3, c4] := by
  obtain ⟨l⟩ := cs
  match l, h with
  | [c0, c1, c2, c3, c4], _ => exact ⟨c0, c1, c2, c3, c4, rfl⟩

theorem open_ints8 {H : Type} {enc : TypeId × Value → H} {W : World} {fuel : Nat} {v : Value} {x : DataW H × List MemPlace} (hf : DataW.trod enc Try.prog W 0 (fun _ => true) true fuel 23 [v] = some x) :
    ∃ (ao : Option Addr) (n c : Nat) (xs : List Int), v = .slice ao n c ∧ xs.length = n ∧ n ≤ 9223372036854775807 ∧ Rd W ao xs := by
  rcases open_ints Try.underlying23 Try.underlying3 Try.cellsInt hf with ⟨hcs, _⟩ | ⟨a, l, c, zs, hcs, _, hl, hm, hz, _, hcell, hwz⟩
  · simp at hcs
    exact ⟨none, 0, 0, [], hcs, rfl, by omega, Or.inl rfl⟩
  · simp at hcs
    simp at hz
    unfold maxLen at hm
    refine ⟨some a, l, c, zs.take l, hcs, by simp; omega, by omega, ?_⟩
    by_cases h0 : l = 0
    · left; subst h0; simp
    · right
      obtain ⟨b, off, rfl, hc⟩ := ints_at hcell (by omega)
      refine ⟨b, off, rfl, fun j hj => ?_⟩
      simp at hj
      have := hc j (by omega)
      rw [this]
      simp [List.getD, List.getElem?_take, show j < l by omega]

theorem open_intssC {H : Type} {enc : TypeId × Value → H} {W : World} {fuel : Nat} {v : Value} {x : DataW H × List MemPlace} (hf : DataW.trod enc Try.prog W 0 (fun _ => true) true fuel 27 [v] = some x) :
    ∃ (ao : Option Addr) (n c : Nat) (xss : List (List Int)), v = .slice ao n c ∧ xss.length = n ∧ n ≤ 9223372036854775807 ∧ RdII W ao xss ∧ ∀ l ∈ xss, l.length ≤ 9223372036854775807 := by
  rcases Go.Deep.open_slice1 Try.underlying27 Try.cellsInts hf with ⟨hcs, _⟩ | ⟨a, l, c, m, q, V, D, Pl, hcs, _, hl, hm, hmm, _, hx⟩
  · simp at hcs
    exact ⟨none, 0, 0, [], hcs, rfl, by omega, Or.inl rfl, by simp⟩
  · simp at hcs
    simp at hmm
    subst hmm
    unfold maxLen at hm
    have key : ∀ i, i < l → ∃ ss : List Int, (∃ ro rc, V i = .slice ro ss.length rc ∧ Rd W ro ss) ∧ ss.length ≤ 9223372036854775807 := fun i hi => by
      obtain ⟨ro, n', rc, ss, h1, h2, h3, h4⟩ := open_ints8 (hx i (by omega)).2
      exact ⟨ss, ⟨ro, rc, by rw [h1, h2], h4⟩, by omega⟩
    obtain ⟨f, hfn⟩ := Go.Deep.choose_lt (α := List Int) key
    refine ⟨some a, l, _, (List.range l).map f, hcs, by simp, by omega, ?_, fun x hx2 => ?_⟩
    · by_cases h0 : l = 0
      · left; subst h0; simp
      · right
        obtain ⟨b, off, spot⟩ := a
        have hspot : spot = none := by simpa [Addr.add] using World.cell?_spot (hx 0 (by omega)).1
        subst hspot
        refine ⟨b, off, rfl, fun j hj => ?_⟩
        simp at hj
        have hc := (hx j (by omega)).1
        rw [Go.WideShapes.add_plain] at hc
        have e : ((List.range l).map f).getD j [] = f j := by simp [List.getD, hj]
        obtain ⟨⟨ro, rc, hV, hR⟩, _⟩ := hfn j hj
        rw [e]
        exact ⟨ro, rc, by rw [hc, hV], hR⟩
    · simp at hx2
      obtain ⟨i, hi, rfl⟩ := hx2
      exact (hfn i hi).2

theorem open_board {H : Type} {enc : TypeId × Value → H} {W : World} {base : Nat} {v : Value} {d : DataW H} {p : List MemPlace} (hv : Value.okWide Try.prog W .any base 62 v) (h : DataW.Trod enc Try.prog W 0 (fun _ => true) true 62 v d p) :
    ∃ (f e : Int) (sa : Option Addr) (sn sc : Nat) (la : Option Addr) (ln lc : Nat) (ta : Option Addr) (tn tc : Nat) (sg : List (List Int)) (li ls : List Int), v = .agg #[.int .i64 f, .int .i64 e, .slice sa sn sc, .slice la ln lc, .slice ta tn tc] ∧ sg.length = sn ∧ sn ≤ 9223372036854775807 ∧ li.length = ln ∧ ln ≤ 9223372036854775807 ∧ ls.length = tn ∧ tn ≤ 9223372036854775807 ∧ RdII W sa sg ∧ Rd W la li ∧ Rd W ta ls ∧ ∀ l ∈ sg, l.length ≤ 9223372036854775807 := by
  obtain ⟨cs, rfl, hsz⟩ := okWide_struct Try.underlying62 hv
  obtain ⟨c0, c1, c2, c3, c4, rfl⟩ := arr_five (hsz.trans Try.cellsLBoard)
  obtain ⟨fuel, hf⟩ := h
  obtain ⟨y0, y1, y2, y3, y4, n, h0, h1, h2, h3, h4⟩ := trod_struct5 Try.underlying62 hf
  rw [Try.cellsInt] at h0 h1
  rw [Try.cellsIntss] at h2
  rw [Try.cellsInts] at h3 h4
  simp [Value.cells] at h0 h1 h2 h3 h4
  obtain ⟨sa, sn, sc, sg, rfl, hs1, hs2, hs3, hs4⟩ := open_intssC h2
  obtain ⟨la, ln, lc, li, rfl, hl1, hl2, hl3⟩ := open_ints8 h3
  obtain ⟨ta, tn, tc, ls, rfl, ht1, ht2, ht3⟩ := open_ints8 h4
  obtain ⟨a, ha, _⟩ := DataW.trod_int Try.underlying3 h0
  obtain ⟨b, hb, _⟩ := DataW.trod_int Try.underlying3 h1
  simp at ha hb
  subst ha; subst hb
  exact ⟨a, b, sa, sn, sc, la, ln, lc, ta, tn, tc, sg, li, ls, rfl, hs1, hs2, hl1, hl2, ht1, ht2, hs3, hl3, ht3, hs4⟩

theorem step_cells {H : Type} {enc : TypeId × Value → H} {W : World} {fuel : Nat} {c0 c1 c2 : Value} {x : DataW H × List MemPlace} (h : DataW.trod enc Try.prog W 0 (fun _ => true) true fuel 66 [c0, c1, c2] = some x) :
    ∃ x0 x1 x2 : Int, c0 = .int .i64 x0 ∧ c1 = .int .i64 x1 ∧ c2 = .int .i64 x2 ∧ (-9223372036854775808 ≤ x0 ∧ x0 ≤ 9223372036854775807) ∧ (-9223372036854775808 ≤ x1 ∧ x1 ≤ 9223372036854775807) ∧ (-9223372036854775808 ≤ x2 ∧ x2 ≤ 9223372036854775807) := by
  obtain ⟨ys, n, _, _, _, hyl, hf⟩ := DataW.trod_struct Try.underlying66 h
  match ys, hyl with
  | [y0, y1, y2], _ =>
    have g0 := hf 0 _ rfl
    have g1 := hf 1 _ rfl
    have g2 := hf 2 _ rfl
    simp [Try.cellsInt] at g0 g1 g2
    obtain ⟨x0, hx0, _, wx0⟩ := DataW.trod_int Try.underlying3 g0
    obtain ⟨x1, hx1, _, wx1⟩ := DataW.trod_int Try.underlying3 g1
    obtain ⟨x2, hx2, _, wx2⟩ := DataW.trod_int Try.underlying3 g2
    simp at hx0 hx1 hx2
    exact ⟨x0, x1, x2, hx0, hx1, hx2, wf_i64 wx0, wf_i64 wx1, wf_i64 wx2⟩

theorem open_step {H : Type} {enc : TypeId × Value → H} {W : World} {base : Nat} {v : Value} {d : DataW H} {p : List MemPlace} (hv : Value.okWide Try.prog W .any base 66 v) (h : DataW.Trod enc Try.prog W 0 (fun _ => true) true 66 v d p) :
    ∃ x0 x1 x2 : Int, v = .agg #[.int .i64 x0, .int .i64 x1, .int .i64 x2] ∧ (-9223372036854775808 ≤ x0 ∧ x0 ≤ 9223372036854775807) ∧ (-9223372036854775808 ≤ x1 ∧ x1 ≤ 9223372036854775807) ∧ (-9223372036854775808 ≤ x2 ∧ x2 ≤ 9223372036854775807) := by
  obtain ⟨cs, rfl, hsz⟩ := okWide_struct Try.underlying66 hv
  obtain ⟨c0, c1, c2, rfl⟩ := arr_3 (hsz.trans Try.cellsLStep)
  obtain ⟨fuel, hf0⟩ := h
  obtain ⟨x0, x1, x2, rfl, rfl, rfl, w⟩ := step_cells hf0
  exact ⟨x0, x1, x2, rfl, w⟩

end Go.Proofs.Ytaokmjbhgkfnfaa
