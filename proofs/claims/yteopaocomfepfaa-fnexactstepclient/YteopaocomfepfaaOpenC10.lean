/- How arguments of the laws' own structs of a client and of a step, and lists of steps, are opened. -/
import Derived.Test.YteopaocomfepfaaOpenS
import Derived.Test.YteopaocomfepfaaK10
import Derived.Deep.Strs
import Derived.Deep.SlicePairs
namespace Go.Proofs.Yteopaocomfepfaa
set_option linter.unusedVariables false
set_option maxRecDepth 1000000
set_option linter.unusedSimpArgs false
open Go.ChangeShapes Go.WideShapes Go.ChangeAt Go.RowKit

theorem trod_struct3 {H : Type} {enc : TypeId × Value → H} {P : Program} {w : World} {base : Nat} {spare : Nat → Bool} {held : Bool} {t : TypeId} {f0 f1 f2 : Field} {fuel : Nat} {cs : List Value} {x : DataW H × List MemPlace} (ht : P.underlying t = some (.struct #[f0, f1, f2])) (h : DataW.trod enc P w base spare held fuel t cs = some x) :
    ∃ (y0 y1 y2 : DataW H × List MemPlace) (n : Nat), DataW.trod enc P w base spare held n f0.type ((cs.drop f0.offset).take (P.cellsOf f0.type)) = some y0 ∧ DataW.trod enc P w base spare held n f1.type ((cs.drop f1.offset).take (P.cellsOf f1.type)) = some y1 ∧ DataW.trod enc P w base spare held n f2.type ((cs.drop f2.offset).take (P.cellsOf f2.type)) = some y2 := by
  obtain ⟨xs, n, _, rfl, hl, hlen, hf⟩ := DataW.trod_struct ht h
  match xs, hlen with
  | [y0, y1, y2], _ => exact ⟨y0, y1, y2, n, by simpa using hf 0 f0 rfl, by simpa using hf 1 f1 rfl, by simpa using hf 2 f2 rfl⟩

theorem trod_struct2 {H : Type} {enc : TypeId × Value → H} {P : Program} {w : World} {base : Nat} {spare : Nat → Bool} {held : Bool} {t : TypeId} {f0 f1 : Field} {fuel : Nat} {cs : List Value} {x : DataW H × List MemPlace} (ht : P.underlying t = some (.struct #[f0, f1])) (h : DataW.trod enc P w base spare held fuel t cs = some x) :
    ∃ (y0 y1 : DataW H × List MemPlace) (n : Nat), DataW.trod enc P w base spare held n f0.type ((cs.drop f0.offset).take (P.cellsOf f0.type)) = some y0 ∧ DataW.trod enc P w base spare held n f1.type ((cs.drop f1.offset).take (P.cellsOf f1.type)) = some y1 := by
  obtain ⟨xs, n, _, rfl, hl, hlen, hf⟩ := DataW.trod_struct ht h
  match xs, hlen with
  | [y0, y1], _ => exact ⟨y0, y1, n, by simpa using hf 0 f0 rfl, by simpa using hf 1 f1 rfl⟩

theorem arr_of3 {cs : Array Value} (h : cs.size = 3) : ∃ c0 c1 c2, cs = #[c0, c1, c2] := by
  obtain ⟨l⟩ := cs
  match l, h with
  | [c0, c1, c2], _ => exact ⟨c0, c1, c2, rfl⟩

theorem arr_of2 {cs : Array Value} (h : cs.size = 2) : ∃ c0 c1, cs = #[c0, c1] := by
  obtain ⟨l⟩ := cs
  match l, h with
  | [c0, c1], _ => exact ⟨c0, c1, rfl⟩

theorem Try.cellsLClient : Try.prog.cellsOf 63 = 3 := by kernel_rfl
theorem Try.cellsLStep : Try.prog.cellsOf 67 = 2 := by kernel_rfl
theorem Try.cellsStrs : Try.prog.cellsOf 27 = 1 := by kernel_rfl

theorem open_strs8 {H : Type} {enc : TypeId × Value → H} {W : World} {fuel : Nat} {v : Value} {x : DataW H × List MemPlace} (hf : DataW.trod enc Try.prog W 0 (fun _ => true) true fuel 27 [v] = some x) :
    ∃ (ao : Option Addr) (n c : Nat) (ss : List ByteArray), v = .slice ao n c ∧ ss.length = n ∧ n ≤ 9223372036854775807 ∧ RdS W ao ss ∧ ∀ s ∈ ss, s.size ≤ 9223372036854775807 := by
  rcases Go.Deep.open_strs Try.underlying27 Try.underlying9 Try.cellsStr hf with ⟨hcs, _⟩ | ⟨a, l, c, m, Sx, hcs, _, hl, hm, hz, _, hcell⟩
  · simp at hcs
    exact ⟨none, 0, 0, [], hcs, rfl, by omega, Or.inl rfl, by simp⟩
  · simp at hcs
    simp at hz
    unfold maxLen at hm
    refine ⟨some a, l, c, (List.range l).map Sx, hcs, by simp, by omega, ?_, fun s hs => ?_⟩
    · by_cases h0 : l = 0
      · left; subst h0; simp
      · right
        obtain ⟨b, off, spot⟩ := a
        have hspot : spot = none := by simpa [Addr.add] using World.cell?_spot (hcell 0 (by omega)).1
        subst hspot
        refine ⟨b, off, rfl, fun j hj => ?_⟩
        simp at hj
        have := (hcell j (by omega)).1
        rw [Go.WideShapes.add_plain] at this
        rw [this]
        simp [List.getD, hj]
    · simp at hs
      obtain ⟨i, hi, rfl⟩ := hs
      have := (hcell i (by omega)).2
      unfold maxLen at this
      omega

theorem open_client {H : Type} {enc : TypeId × Value → H} {W : World} {base : Nat} {v : Value} {d : DataW H} {p : List MemPlace} (hv : Value.okWide Try.prog W .any base 63 v) (h : DataW.Trod enc Try.prog W 0 (fun _ => true) true 63 v d p) :
    ∃ (ao : Option Addr) (n c : Nat) (t y : Int) (xs : List ByteArray), v = .agg #[.slice ao n c, .int .i64 t, .int .i64 y] ∧ xs.length = n ∧ n ≤ 9223372036854775807 ∧ RdS W ao xs ∧ ∀ s ∈ xs, s.size ≤ 9223372036854775807 := by
  obtain ⟨cs, rfl, hsz⟩ := okWide_struct Try.underlying63 hv
  obtain ⟨c0, c1, c2, rfl⟩ := arr_of3 (hsz.trans Try.cellsLClient)
  obtain ⟨fuel, hf⟩ := h
  obtain ⟨y0, y1, y2, n, h0, h1, h2⟩ := trod_struct3 Try.underlying63 hf
  rw [Try.cellsStrs] at h0
  rw [Try.cellsInt] at h1 h2
  simp [Value.cells] at h0 h1 h2
  obtain ⟨ao, n', c, xs, rfl, hx1, hx2, hx3, hx4⟩ := open_strs8 h0
  obtain ⟨a, ha, _⟩ := DataW.trod_int Try.underlying3 h1
  obtain ⟨b, hb, _⟩ := DataW.trod_int Try.underlying3 h2
  simp at ha hb
  subst ha; subst hb
  exact ⟨ao, n', c, a, b, xs, rfl, hx1, hx2, hx3, hx4⟩

theorem open_step {H : Type} {enc : TypeId × Value → H} {W : World} {base : Nat} {v : Value} {d : DataW H} {p : List MemPlace} (hv : Value.okWide Try.prog W .any base 67 v) (h : DataW.Trod enc Try.prog W 0 (fun _ => true) true 67 v d p) :
    ∃ (k : Int) (s : ByteArray), v = .agg #[.int .i64 k, .string s] ∧ s.size ≤ 9223372036854775807 := by
  obtain ⟨cs, rfl, hsz⟩ := okWide_struct Try.underlying67 hv
  obtain ⟨c0, c1, rfl⟩ := arr_of2 (hsz.trans Try.cellsLStep)
  obtain ⟨fuel, hf⟩ := h
  obtain ⟨y0, y1, n, h0, h1⟩ := trod_struct2 Try.underlying67 hf
  rw [Try.cellsInt] at h0
  rw [Try.cellsStr] at h1
  simp [Value.cells] at h0 h1
  obtain ⟨a, ha, _⟩ := DataW.trod_int Try.underlying3 h0
  obtain ⟨s, hs, hs2⟩ := DataW.trod_string Try.underlying9 h1
  simp at ha hs
  subst ha; subst hs
  exact ⟨a, s, rfl, by have := hs2; unfold maxLen at this; omega⟩

theorem open_steps {H : Type} {enc : TypeId × Value → H} {W : World} {base : Nat} {v : Value} {d : DataW H} {p : List MemPlace} (hv : Value.okWide Try.prog W .any base 72 v) (h : DataW.Trod enc Try.prog W 0 (fun _ => true) true 72 v d p) :
    ∃ (ao : Option Addr) (n c : Nat) (xs : List (Int × ByteArray)), v = .slice ao n c ∧ xs.length = n ∧ n ≤ 9223372036854775807 ∧ RdK W ao xs ∧ ∀ x ∈ xs, x.2.size ≤ 9223372036854775807 := by
  obtain ⟨fuel, hf⟩ := h
  rw [okWide_cells Try.underlying72 hv] at hf
  rcases Go.Deep.open_slice_pairs Try.underlying72 Try.underlying67 Try.cellsLStep rfl rfl Try.cellsInt Try.cellsStr hf with ⟨hcs, _⟩ | ⟨a, l, c, m, k, V0, V1, D0, D1, P0, P1, hcs, _, hl, hm, hz, _, hcell⟩
  · simp at hcs
    exact ⟨none, 0, 0, [], hcs, rfl, by omega, Or.inl rfl, by simp⟩
  · simp at hcs
    simp at hz
    unfold maxLen at hm
    have hint : ∀ i, i < l → ∃ q : Int × ByteArray, (W.cell? (a.add (i * 2)) = some (.int .i64 q.1) ∧ W.cell? (a.add (i * 2 + 1)) = some (.string q.2)) ∧ q.2.size ≤ 9223372036854775807 := fun i hi => by
      obtain ⟨h1, h2, h3, h4⟩ := hcell i (by omega)
      obtain ⟨x, hx, _⟩ := DataW.trod_int Try.underlying3 h3
      obtain ⟨y, hy, hy2⟩ := DataW.trod_string Try.underlying9 h4
      simp at hx hy
      exact ⟨(x, y), ⟨by rw [h1, hx], by rw [h2, hy]⟩, by have := hy2; unfold maxLen at this; show y.size ≤ _; omega⟩
    obtain ⟨Q, hQ⟩ := Go.Deep.choose_lt hint
    refine ⟨some a, l, c, (List.range l).map Q, hcs, by simp, by omega, ?_, fun x hx => ?_⟩
    · by_cases h0 : l = 0
      · left; subst h0; simp
      · right
        obtain ⟨b, off, spot⟩ := a
        have hspot : spot = none := by simpa [Addr.add] using World.cell?_spot (hQ 0 (by omega)).1.1
        subst hspot
        refine ⟨b, off, rfl, fun j hj => ?_⟩
        simp at hj
        have := (hQ j (by omega)).1
        rw [Go.WideShapes.add_plain, Go.WideShapes.add_plain] at this
        have e : ((List.range l).map Q).getD j (0, ByteArray.empty) = Q j := by simp [List.getD, hj]
        rw [e]
        exact ⟨this.1, by simpa [Nat.add_assoc] using this.2⟩
    · simp at hx
      obtain ⟨i, hi, rfl⟩ := hx
      exact (hQ i hi).2

end Go.Proofs.Yteopaocomfepfaa
