/- Contracts of the helpers over lists of texts. -/
import Derived.Test.YtjpegbodhpnflaaDoorB3
import Derived.Laws.BytesArg
import Derived.Deep.RegionWith
namespace Go.Proofs.YtjpegbodhpnflaaDoor
set_option linter.unusedVariables false
set_option maxRecDepth 1000000
set_option linter.unusedSimpArgs false
open Go.RowKit

theorem tl_inj {a b : ByteArray} (h : a.toList = b.toList) : a = b := by
  rw [ByteArray.toList_eq, ByteArray.toList_eq] at h
  exact Go.WideShapes.bytes_inj h

theorem Tryd.infoStr : (Tryd.prog.info? 9).map (fun i => (i.zero, i.size, i.bytes)) = some (some (.string ByteArray.empty), 1, 16) := by kernel_rfl

/-- A list of ints as the cells of a row. -/
def cellsS (xs : List ByteArray) : List Value := xs.map Value.string

/-- The slice at address ao of length xs.length reads as xs. -/
def RdS (w : World) (ao : Option Addr) (xs : List ByteArray) : Prop :=
  xs = [] ∨ ∃ b off, ao = some ⟨b, off, none⟩ ∧ ∀ j, j < xs.length → w.cell? ⟨b, off + j, none⟩ = some (.string (xs.getD j ByteArray.empty))


theorem getD_map_str (xs : List ByteArray) (j : Nat) (h : j < xs.length) : (cellsS xs)[j]? = some (.string (xs.getD j ByteArray.empty)) := by
  unfold cellsS; simp [List.getD, h]

theorem take_eq_succS {xs ys : List ByteArray} {k : Nat} (hx : k < xs.length) (hy : k < ys.length) (h : xs.take k = ys.take k) (e : xs.getD k ByteArray.empty = ys.getD k ByteArray.empty) : xs.take (k + 1) = ys.take (k + 1) := by
  rw [List.take_succ_eq_append_getElem hx, List.take_succ_eq_append_getElem hy, h]
  simp [List.getD, hx, hy] at e
  rw [e]

/-- The slice value v is a row of the call's own (block from base on) that holds xs. -/
def OwnS (w : World) (base : Nat) (v : Value) (xs : List ByteArray) : Prop := w.ownsRow base 9 1 v xs.length (cellsS xs)

theorem cellsS_length (xs : List ByteArray) : (cellsS xs).length = xs.length := by simp [cellsS]
theorem cellsS_set (xs : List ByteArray) (k : Nat) (x : ByteArray) : (cellsS xs).set k (.string x) = cellsS (xs.set k x) := by simp [cellsS, List.map_set]
theorem strs_oneCell (zs : List ByteArray) : ∀ u ∈ zs.map Value.string, u.oneCell' = true := by
  intro u hu
  obtain ⟨x, _, rfl⟩ := List.mem_map.1 hu
  rfl
theorem cellsS_oneCell (xs : List ByteArray) : ∀ u ∈ cellsS xs, u.oneCell' = true := strs_oneCell _

theorem OwnS.form {w : World} {base : Nat} {v : Value} {xs : List ByteArray} (h : OwnS w base v xs) : (v = .slice none 0 0 ∧ xs = []) ∨ ∃ g cap, v = .slice (some ⟨g, 0, none⟩) xs.length cap ∧ base ≤ g ∧ g < w.heap.size ∧ xs.length ≤ cap ∧ cap ≤ maxLen := by
  rcases h.2 with ⟨h1, h2⟩ | ⟨g, cap, cur, hv, hb, hg, hc, hm, _⟩
  · exact Or.inl ⟨h1, List.length_eq_zero_iff.1 h2⟩
  · exact Or.inr ⟨g, cap, hv, hb, (Array.getElem?_eq_some_iff.1 hg).1, hc, hm⟩

theorem OwnS.cell {w : World} {base g cap : Nat} {xs : List ByteArray} (h : OwnS w base (.slice (some ⟨g, 0, none⟩) xs.length cap) xs) : ∀ j, j < xs.length → w.cell? ⟨g, j, none⟩ = some (.string (xs.getD j ByteArray.empty)) := fun j hj => by
  rw [World.ownsRow.cellAt h j (by omega)]
  exact getD_map_str xs j hj

theorem OwnS.free {w : World} {base g cap : Nat} {xs : List ByteArray} (h : OwnS w base (.slice (some ⟨g, 0, none⟩) xs.length cap) xs) (j : Nat) : w.frozen? ⟨g, j, none⟩ = false := World.ownsRow.frozenAt h j

theorem OwnS.rd {w : World} {base : Nat} {v : Value} {xs : List ByteArray} (h : OwnS w base v xs) : ∃ ao cap, v = .slice ao xs.length cap ∧ RdS w ao xs := by
  rcases h.form with ⟨rfl, rfl⟩ | ⟨g, cap, rfl, _⟩
  · exact ⟨none, 0, rfl, Or.inl rfl⟩
  · exact ⟨_, _, rfl, Or.inr ⟨g, 0, rfl, fun j hj => by simpa using h.cell j hj⟩⟩

theorem OwnS.later {w w' : World} {base : Nat} {v : Value} {xs : List ByteArray} (h : OwnS w base v xs) (hb : Below w.heap.size w w') : OwnS w' base v xs := by
  refine ⟨h.1, ?_⟩
  rcases h.2 with h2 | ⟨g, cap, cur, hv, hg, hh, r⟩
  · exact Or.inl h2
  · exact Or.inr ⟨g, cap, cur, hv, hg, by rw [hb.block g (Array.getElem?_eq_some_iff.1 hh).1]; exact hh, r⟩

theorem OwnS.mono {w : World} {base base' : Nat} {v : Value} {xs : List ByteArray} (h : OwnS w base v xs) (hb : base' ≤ base) : OwnS w base' v xs := by
  refine ⟨h.1, ?_⟩
  rcases h.2 with h2 | ⟨g, cap, cur, hv, hg, r⟩
  · exact Or.inl h2
  · exact Or.inr ⟨g, cap, cur, hv, Nat.le_trans hb hg, r⟩

theorem OwnS.kept {w w' : World} {base : Nat} {v : Value} {xs : List ByteArray} {row : Option Nat} (h : OwnS w base v xs) (hg : w.grownBy w' row) (hne : v.ownBlock = none ∨ v.ownBlock ≠ row) : OwnS w' base v xs := World.ownsRow.kept h hg hne

theorem RdS.later {w w' : World} {ao : Option Addr} {xs : List ByteArray} (h : RdS w ao xs) (hb : Below w.heap.size w w') : RdS w' ao xs := by
  rcases h with h | ⟨b, off, he, hc⟩
  · exact Or.inl h
  · refine Or.inr ⟨b, off, he, fun j hj => ?_⟩
    rw [hb.cell (p := ⟨b, off + j, none⟩) (World.block_lt_of_cell? w _ (hc j hj))]
    exact hc j hj

theorem OwnS.shape {w : World} {base : Nat} {v : Value} {xs : List ByteArray} (h : OwnS w base v xs) : ∃ ao cap, v = .slice ao xs.length cap := by
  obtain ⟨ao, cap, h1, _⟩ := h.rd
  exact ⟨ao, cap, h1⟩

theorem OwnS.rd' {w : World} {base n cap : Nat} {ao : Option Addr} {xs : List ByteArray} (h : OwnS w base (.slice ao n cap) xs) : xs.length = n ∧ RdS w ao xs := by
  obtain ⟨ao', cap', h1, h2⟩ := h.rd
  simp only [Value.slice.injEq] at h1
  obtain ⟨rfl, h3, _⟩ := h1
  exact ⟨h3.symm, h2⟩

theorem own_pushS {w w1 : World} {base : Nat} {v v' : Value} {out : List ByteArray} {x : ByteArray} (h : w1.ownsRow base 9 1 v' (out.length + 1) (cellsS out ++ [.string x])) : OwnS w1 base v' (out ++ [x]) := by
  unfold OwnS
  rw [show (out ++ [x]).length = out.length + 1 by simp]
  simpa [cellsS] using h
theorem own_block_geS {w : World} {base : Nat} {v : Value} {xs : List ByteArray} (h : OwnS w base v xs) : ∀ k, v.ownBlock = some k → base ≤ k := fun k hk => (World.ownsRow.lt h k hk).1

/-- The digits that a mark is written with, ahead of what is there. -/
def digF (k : Nat) (out : ByteArray) : ByteArray :=
  if h : k = 0 then out else digF (k / 10) (strOfNums [((48 + k % 10 : Nat) : Int)] ++ out)
termination_by k
decreasing_by omega
def markT (k : Nat) : ByteArray := if k = 0 then ByteArray.mk #[109, 48] else ByteArray.mk #[109] ++ digF k ByteArray.empty
theorem digF_step {k : Nat} (h : k ≠ 0) (out : ByteArray) : digF k out = digF (k / 10) (strOfNums [((48 + k % 10 : Nat) : Int)] ++ out) := by
  rw [digF, dif_neg h]
theorem digF_zero (out : ByteArray) : digF 0 out = out := by rw [digF, dif_pos rfl]

/-- The marks of a row of n texts. -/
def marksS (k : Int) (n : Nat) : List ByteArray := (List.range n).map (fun j : Nat => markT (k.toNat + j))
theorem marksS_length (k : Int) (n : Nat) : (marksS k n).length = n := by simp [marksS]
theorem marksS_getD (k : Int) (n j : Nat) (h : j < n) : (marksS k n).getD j ByteArray.empty = markT (k.toNat + j) := by simp [marksS, List.getD, h]
theorem marksS_of (k : Int) (n : Nat) (ys : List ByteArray) (hl : ys.length = n) (h : ∀ j : Nat, j < n → ys.getD j ByteArray.empty = markT (k.toNat + j)) : ys = marksS k n := by
  refine List.ext_getElem (by rw [hl, marksS_length]) fun j h1 h2 => ?_
  have e1 := h j (by omega)
  have e2 := marksS_getD k n j (by omega)
  simp [List.getD, h1] at e1
  simp [List.getD, h2] at e2
  rw [e1, e2]
theorem grown_of_below {w w' : World} (h : Below w.heap.size w w') (row : Option Nat) : w.grownBy w' row := ⟨h.os, h.tape, h.output, h.size, fun q hq _ => h.block q hq⟩
theorem grown_trans {w a b : World} {row : Option Nat} (h : w.grownBy a row) (k : a.grownBy b row) : w.grownBy b row :=
  ⟨k.os.trans h.os, k.tape.trans h.tape, k.output.trans h.output, Nat.le_trans h.size k.size, fun i hi hne => (k.block i (Nat.lt_of_lt_of_le hi h.size) hne).trans (h.block i hi hne)⟩

end Go.Proofs.YtjpegbodhpnflaaDoor
