/- How an argument of the laws' own struct of a mix is opened. -/
import Derived.Test.YtelchkoplncmaaaOpenS
import Derived.Deep.Strs
namespace Go.Proofs.Ytelchkoplncmaaa
set_option linter.unusedVariables false
set_option maxRecDepth 1000000
set_option linter.unusedSimpArgs false
open Go.ChangeShapes Go.WideShapes Go.ChangeAt Go.RowKit

theorem trod_struct5 {H : Type} {enc : TypeId × Value → H} {P : Program} {w : World} {base : Nat} {spare : Nat → Bool} {held : Bool} {t : TypeId} {f0 f1 f2 f3 f4 : Field} {fuel : Nat} {cs : List Value} {x : DataW H × List MemPlace} (ht : P.underlying t = some (.struct #[f0, f1, f2, f3, f4])) (h : DataW.trod enc P w base spare held fuel t cs = some x) :
    ∃ (y0 y1 y2 y3 y4 : DataW H × List MemPlace) (n : Nat), DataW.trod enc P w base spare held n f0.type ((cs.drop f0.offset).take (P.cellsOf f0.type)) = some y0 ∧ DataW.trod enc P w base spare held n f1.type ((cs.drop f1.offset).take (P.cellsOf f1.type)) = some y1 ∧ DataW.trod enc P w base spare held n f2.type ((cs.drop f2.offset).take (P.cellsOf f2.type)) = some y2 ∧ DataW.trod enc P w base spare held n f3.type ((cs.drop f3.offset).take (P.cellsOf f3.type)) = some y3 ∧ DataW.trod enc P w base spare held n f4.type ((cs.drop f4.offset).take (P.cellsOf f4.type)) = some y4 := by
  obtain ⟨xs, n, _, rfl, hl, hlen, hf⟩ := DataW.trod_struct ht h
  match xs, hlen with
  | [y0, y1, y2, y3, y4], _ => exact ⟨y0, y1, y2, y3, y4, n, by simpa using hf 0 f0 rfl, by simpa using hf 1 f1 rfl, by simpa using hf 2 f2 rfl, by simpa using hf 3 f3 rfl, by simpa using hf 4 f4 rfl⟩

theorem Try.cellsLMix : Try.prog.cellsOf 58 = 5 := by kernel_rfl
theorem Try.cellsStrs : Try.prog.cellsOf 29 = 1 := by kernel_rfl
theorem Try.cellsInts : Try.prog.cellsOf 30 = 1 := by kernel_rfl

theorem arr_five {cs : Array Value} (h : cs.size = 5) : ∃ c0 c1 c2 c3 c4, cs = #[c0, c1, c2, c3, c4] := by
  obtain ⟨l⟩ := cs
  match l, h with
  | [c0, c1, c2, c3, c4], _ => exact ⟨c0, c1, c2, c3, c4, rfl⟩

theorem open_strs8 {H : Type} {enc : TypeId × Value → H} {W : World} {fuel : Nat} {v : Value} {x : DataW H × List MemPlace} (hf : DataW.trod enc Try.prog W 0 (fun _ => true) true fuel 29 [v] = some x) :
    ∃ (ao : Option Addr) (n c : Nat) (ss : List ByteArray), v = .slice ao n c ∧ ss.length = n ∧ n ≤ 9223372036854775807 ∧ RdS W ao ss ∧ ∀ s ∈ ss, s.size ≤ 9223372036854775807 := by
  rcases Go.Deep.open_strs Try.underlying29 Try.underlying9 Try.cellsStr hf with ⟨hcs, _⟩ | ⟨a, l, c, m, Sx, hcs, _, hl, hm, hz, _, hcell⟩
  · simp at hcs
    exact ⟨none, 0, 0, [], hcs, rfl, by omega, Or.inl rfl, by simp⟩
  · simp at hcs
    simp at hz
    unfold maxLen at hm
    refine ⟨some a, l, c, (List.range l).map Sx, hcs, by simp, by omega, ?_, fun s hs => ?_⟩
    · by_cases h0 : l = 0
      · left; subst h0; simp
      · right
        obtain ⟨b, off, spot⟩ := a
        have hspot : spot = none := by simpa [Addr.add] using World.cell?_spot (hcell 0 (by omega)).1
        subst hspot
        refine ⟨b, off, rfl, fun j hj => ?_⟩
        simp at hj
        have := (hcell j (by omega)).1
        rw [Go.WideShapes.add_plain] at this
        rw [this]
        simp [List.getD, hj]
    · simp at hs
      obtain ⟨i, hi, rfl⟩ := hs
      have := (hcell i (by omega)).2
      unfold maxLen at this
      omega

theorem open_ints8 {H : Type} {enc : TypeId × Value → H} {W : World} {fuel : Nat} {v : Value} {x : DataW H × List MemPlace} (hf : DataW.trod enc Try.prog W 0 (fun _ => true) true fuel 30 [v] = some x) :
    ∃ (ao : Option Addr) (n c : Nat) (xs : List Int), v = .slice ao n c ∧ xs.length = n ∧ n ≤ 9223372036854775807 ∧ Rd W ao xs := by
  rcases open_ints Try.underlying30 Try.underlying3 Try.cellsInt hf with ⟨hcs, _⟩ | ⟨a, l, c, zs, hcs, _, hl, hm, hz, _, hcell, hwz⟩
  · simp at hcs
    exact ⟨none, 0, 0, [], hcs, rfl, by omega, Or.inl rfl⟩
  · simp at hcs
    simp at hz
    unfold maxLen at hm
    refine ⟨some a, l, c, zs.take l, hcs, by simp; omega, by omega, ?_⟩
    by_cases h0 : l = 0
    · left; subst h0; simp
    · right
      obtain ⟨b, off, rfl, hc⟩ := ints_at hcell (by omega)
      refine ⟨b, off, rfl, fun j hj => ?_⟩
      simp at hj
      have := hc j (by omega)
      rw [this]
      simp [List.getD, List.getElem?_take, show j < l by omega]

theorem open_mix {H : Type} {enc : TypeId × Value → H} {W : World} {base : Nat} {v : Value} {d : DataW H} {p : List MemPlace} (hv : Value.okWide Try.prog W .any base 58 v) (h : DataW.Trod enc Try.prog W 0 (fun _ => true) true 58 v d p) :
    ∃ (po so : Option Addr) (n c m d : Nat) (a b t : Int) (xs : List ByteArray) (ys : List Int), v = .agg #[.slice po n c, .int .i64 a, .int .i64 b, .int .i64 t, .slice so m d] ∧ xs.length = n ∧ ys.length = m ∧ n ≤ 9223372036854775807 ∧ m ≤ 9223372036854775807 ∧ RdS W po xs ∧ Rd W so ys ∧ ∀ s ∈ xs, s.size ≤ 9223372036854775807 := by
  obtain ⟨cs, rfl, hsz⟩ := okWide_struct Try.underlying58 hv
  obtain ⟨c0, c1, c2, c3, c4, rfl⟩ := arr_five (hsz.trans Try.cellsLMix)
  obtain ⟨fuel, hf⟩ := h
  obtain ⟨y0, y1, y2, y3, y4, n, h0, h1, h2, h3, h4⟩ := trod_struct5 Try.underlying58 hf
  rw [Try.cellsStrs] at h0
  rw [Try.cellsInt] at h1 h2 h3
  rw [Try.cellsInts] at h4
  simp [Value.cells] at h0 h1 h2 h3 h4
  obtain ⟨po, n', c, xs, rfl, hx1, hx2, hx3, hx4⟩ := open_strs8 h0
  obtain ⟨so, m, d', ys, rfl, hy1, hy2, hy3⟩ := open_ints8 h4
  obtain ⟨a, ha, _⟩ := DataW.trod_int Try.underlying3 h1
  obtain ⟨b, hb, _⟩ := DataW.trod_int Try.underlying3 h2
  obtain ⟨t, ht, _⟩ := DataW.trod_int Try.underlying3 h3
  simp at ha hb ht
  subst ha; subst hb; subst ht
  exact ⟨po, so, n', c, m, d', a, b, t, xs, ys, rfl, hx1, hy1, hx2, hy2, hx3, hy3, hx4⟩

end Go.Proofs.Ytelchkoplncmaaa
