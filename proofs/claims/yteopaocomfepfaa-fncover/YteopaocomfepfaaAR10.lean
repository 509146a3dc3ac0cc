/- Chapter 10: lists of texts appended. -/
import Derived.Test.YteopaocomfepfaaS10
import Derived.Lib.SliceRun
import Derived.Laws.AppendOwnNone
import Derived.Laws.OwnMore
import Derived.Lib.AppendZeros
namespace Go.Proofs.Yteopaocomfepfaa
set_option linter.unusedVariables false
set_option maxRecDepth 1000000
set_option linter.unusedSimpArgs false
open Go.RowKit

/-- A list that is read is appended to a row of the call's own. -/
theorem appendS_run (w : World) (base : Nat) (v : Value) (xs ys : List ByteArray) (ao : Option Addr) (m c : Nat) (hown : OwnS w base v xs) (hr : RdS w ao ys) (hm : ys.length = m) (hnil : ao = none → m = 0 ∧ c = 0) (hb : xs.length + m ≤ 1000000) (hbase : base ≤ w.heap.size) :
    ∃ v' w', (∀ ty, (Builtin.append_ #[27, 27] ty #[v, .slice ao m c]).run Try.prog w = .ok v' w') ∧ OwnS w' base v' (xs ++ ys) ∧ w.grownBy w' v.ownBlock ∧ Below base w w' := by
  obtain ⟨i0, hi, hz0, hz1, hz2⟩ := info_parts Try.infoStr
  have hge : ∀ k, v.ownBlock = some k → base ≤ k := own_block_geS hown
  cases ao with
  | none =>
    obtain ⟨rfl, rfl⟩ := hnil rfl
    obtain rfl := List.length_eq_zero_iff.1 hm
    refine ⟨v, w, fun ty => run_append_owned_none (P := Try.prog) (w := w) base 27 ty 9 i0 1 Try.underlying27 hi v xs.length (cellsS xs) hown, by rw [List.append_nil]; exact hown, World.grownBy.refl _ _, Below.refl _ _⟩
  | some a =>
    have hnews : ∀ j u, (cellsS ys)[j]? = some u → w.cell? (a.add j) = some u := fun j u hj => by
      rcases hr with rfl | ⟨b', o', he, hc⟩
      · simp [cellsS] at hj
      · simp only [Option.some.injEq] at he
        subst he
        have hjl : j < ys.length := by have := (List.getElem?_eq_some_iff.1 hj).1; simpa [cellsS] using this
        rw [getD_map_str ys j hjl] at hj
        simp only [Option.some.injEq] at hj
        subst hj
        rw [Go.WideShapes.add_plain]
        exact hc j hjl
    obtain ⟨v', w', hrun, hown', hgrow, _⟩ := run_append_own (P := Try.prog) w base 27 27 9 i0 (.string ByteArray.empty) 1 16 Try.underlying27 hi hz0 hz1 hz2 rfl (by decide) v xs.length (cellsS xs) hown a m c (cellsS ys) (by rw [cellsS_length, hm, Nat.mul_one]) hnews (cellsS_oneCell _) (by unfold maxLen; omega) (by omega) hbase
    refine ⟨v', w', fun ty => hrun, ?_, hgrow, (Below.refl _ _).grown hgrow hbase hge⟩
    unfold OwnS
    rw [List.length_append, hm]
    simpa [cellsS] using hown'
theorem emptyS (w : World) : OwnS (w.alloc (.cells #[] 9)) w.heap.size (.slice (some ⟨w.heap.size, 0, none⟩) 0 0) [] :=
  ⟨rfl, .inr ⟨w.heap.size, 0, #[], rfl, Nat.le_refl _, (by show (w.heap.push _)[w.heap.size]? = _; simp), Nat.le_refl _, Nat.zero_le _, rfl, rfl⟩⟩
theorem litS (w : World) (x : ByteArray) : RdS (w.alloc (.cells #[.string x] 9)) (some ⟨w.heap.size, 0, none⟩) [x] := Or.inr ⟨w.heap.size, 0, rfl, fun j hj => by
  obtain rfl : j = 0 := by simp at hj; omega
  simp⟩
theorem OwnS.back {w : World} {base g n c : Nat} {xs : List ByteArray} (h : OwnS w base (.slice (some ⟨g, 0, none⟩) n c) xs) (k : Nat) : RdS w (some ⟨g, k, none⟩) (xs.drop k) := by
  have hl := h.rd'.1
  refine Or.inr ⟨g, k, rfl, fun j hj => ?_⟩
  rw [List.length_drop] at hj
  have := OwnS.cell (g := g) (cap := c) (xs := xs) (by rw [hl]; exact h) (k + j) (by omega)
  rw [this]
  congr 2
  simp [List.getD, List.getElem?_drop]
theorem OwnS.front {w : World} {base n c : Nat} {ao : Option Addr} {xs : List ByteArray} (h : OwnS w base (.slice ao n c) xs) (k : Nat) : RdS w ao (xs.take k) := by
  rcases h.rd'.2 with rfl | ⟨b, o, rfl, hc⟩
  · exact Or.inl (by simp)
  · refine Or.inr ⟨b, o, rfl, fun j hj => ?_⟩
    rw [List.length_take] at hj
    rw [hc j (by omega)]
    congr 2
    simp [List.getD, List.getElem?_take, show j < k by omega]
theorem OwnS.cap {w : World} {base n c : Nat} {ao : Option Addr} {xs : List ByteArray} (h : OwnS w base (.slice ao n c) xs) : n ≤ c := by
  rcases h.form with ⟨h1, _⟩ | ⟨g, cap, h1, _, _, hc, _⟩
  · simp only [Value.slice.injEq] at h1; omega
  · simp only [Value.slice.injEq] at h1; omega
theorem OwnS.addr {w : World} {base n c : Nat} {ao : Option Addr} {xs : List ByteArray} (h : OwnS w base (.slice ao n c) xs) : (ao = none ∧ n = 0 ∧ c = 0 ∧ xs = []) ∨ ∃ g, ao = some ⟨g, 0, none⟩ ∧ base ≤ g ∧ g < w.heap.size := by
  rcases h.form with ⟨h1, h2⟩ | ⟨g, cap, h1, hb, hg, _⟩
  · simp only [Value.slice.injEq] at h1; exact Or.inl ⟨h1.1, h1.2.1, h1.2.2, h2⟩
  · simp only [Value.slice.injEq] at h1; exact Or.inr ⟨g, h1.1, hb, hg⟩

theorem step_append_run {P : Program} {ops : Array Oper} {o : Oper} {a : Act} {w : World} {K : Act → World → Prop} {Q : Exit → Act → World → Prop} {E : Prop}
    (hg : o.guard = none) (d x : Operand) (dT sT : TypeId) (hop : o.op = Op.call { callee := Callee.builtin Builtin.append, args := #[d, x], argTypes := #[dT, sT] })
    (v u : Value) (hd : a.eval d = v) (hx : a.eval x = u) {v' : Value} {w' : World} (hr : (Builtin.append_ #[dT, sT] o.type #[v, u]).run P w = .ok v' w') (hK : K (a.put o.dst v') w') :
    if Region.wanted o (yielded ops a.tmps) = true then Oper.wp P o a w K Q else E := by
  have hw : Region.wanted o (yielded ops a.tmps) = true := by simp [Region.wanted, hg]
  rw [if_pos hw]
  exact Lib.wp_append_run w d x dT sT hop v u hd hx v' w' hr hK

/-- A slice of texts as it is told: its list, its capacity. -/
structure QOk (w : World) (ao : Option Addr) (n c : Nat) (xs : List ByteArray) : Prop where
  len : xs.length = n
  cap : n ≤ c
  nil : ao = none → n = 0 ∧ c = 0
  rd : RdS w ao xs
theorem QOk.later {w w' : World} {ao : Option Addr} {n c : Nat} {xs : List ByteArray} (h : QOk w ao n c xs) (hb : Below w.heap.size w w') : QOk w' ao n c xs := ⟨h.len, h.cap, h.nil, h.rd.later hb⟩
theorem QOk.none (w : World) : QOk w none 0 0 [] := ⟨rfl, Nat.le_refl _, fun _ => ⟨rfl, rfl⟩, Or.inl rfl⟩
theorem OwnS.ok {w : World} {base n c : Nat} {ao : Option Addr} {xs : List ByteArray} (h : OwnS w base (.slice ao n c) xs) : QOk w ao n c xs := ⟨h.rd'.1, h.cap, h.nil, h.rd'.2⟩

end Go.Proofs.Yteopaocomfepfaa
