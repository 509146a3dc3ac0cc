/- Chapter 3: contracts of the helpers over lists of bools. -/
import Derived.Test.YtbjpkklonjlmiaaB3
namespace Go.Proofs.Ytbjpkklonjlmiaa
set_option linter.unusedVariables false
set_option maxRecDepth 1000000
set_option linter.unusedSimpArgs false
open Go.RowKit

theorem Try.infoBool : (Try.prog.info? 4).map (fun i => (i.zero, i.size, i.bytes)) = some (some (.bool false), 1, 1) := by kernel_rfl

/-- A list of ints as the cells of a row. -/
def cellsB (xs : List Bool) : List Value := xs.map Value.bool

/-- The slice at address ao of length xs.length reads as xs. -/
def RdB (w : World) (ao : Option Addr) (xs : List Bool) : Prop :=
  xs = [] ∨ ∃ b off, ao = some ⟨b, off, none⟩ ∧ ∀ j, j < xs.length → w.cell? ⟨b, off + j, none⟩ = some (.bool (xs.getD j false))


theorem getD_map_bool (xs : List Bool) (j : Nat) (h : j < xs.length) : (cellsB xs)[j]? = some (.bool (xs.getD j false)) := by
  unfold cellsB; simp [List.getD, h]

theorem take_eq_succB {xs ys : List Bool} {k : Nat} (hx : k < xs.length) (hy : k < ys.length) (h : xs.take k = ys.take k) (e : xs.getD k false = ys.getD k false) : xs.take (k + 1) = ys.take (k + 1) := by
  rw [List.take_succ_eq_append_getElem hx, List.take_succ_eq_append_getElem hy, h]
  simp [List.getD, hx, hy] at e
  rw [e]

/-- The slice value v is a row of the call's own (block from base on) that holds xs. -/
def OwnB (w : World) (base : Nat) (v : Value) (xs : List Bool) : Prop := w.ownsRow base 4 1 v xs.length (cellsB xs)

theorem cellsB_length (xs : List Bool) : (cellsB xs).length = xs.length := by simp [cellsB]
theorem cellsB_set (xs : List Bool) (k : Nat) (x : Bool) : (cellsB xs).set k (.bool x) = cellsB (xs.set k x) := by simp [cellsB, List.map_set]
theorem bools_oneCell (zs : List Bool) : ∀ u ∈ zs.map Value.bool, u.oneCell' = true := by
  intro u hu
  obtain ⟨x, _, rfl⟩ := List.mem_map.1 hu
  rfl
theorem cellsB_oneCell (xs : List Bool) : ∀ u ∈ cellsB xs, u.oneCell' = true := bools_oneCell _

theorem OwnB.form {w : World} {base : Nat} {v : Value} {xs : List Bool} (h : OwnB w base v xs) : (v = .slice none 0 0 ∧ xs = []) ∨ ∃ g cap, v = .slice (some ⟨g, 0, none⟩) xs.length cap ∧ base ≤ g ∧ g < w.heap.size ∧ xs.length ≤ cap ∧ cap ≤ maxLen := by
  rcases h.2 with ⟨h1, h2⟩ | ⟨g, cap, cur, hv, hb, hg, hc, hm, _⟩
  · exact Or.inl ⟨h1, List.length_eq_zero_iff.1 h2⟩
  · exact Or.inr ⟨g, cap, hv, hb, (Array.getElem?_eq_some_iff.1 hg).1, hc, hm⟩

theorem OwnB.cell {w : World} {base g cap : Nat} {xs : List Bool} (h : OwnB w base (.slice (some ⟨g, 0, none⟩) xs.length cap) xs) : ∀ j, j < xs.length → w.cell? ⟨g, j, none⟩ = some (.bool (xs.getD j false)) := fun j hj => by
  rw [World.ownsRow.cellAt h j (by omega)]
  exact getD_map_bool xs j hj

theorem OwnB.free {w : World} {base g cap : Nat} {xs : List Bool} (h : OwnB w base (.slice (some ⟨g, 0, none⟩) xs.length cap) xs) (j : Nat) : w.frozen? ⟨g, j, none⟩ = false := World.ownsRow.frozenAt h j

theorem OwnB.rd {w : World} {base : Nat} {v : Value} {xs : List Bool} (h : OwnB w base v xs) : ∃ ao cap, v = .slice ao xs.length cap ∧ RdB w ao xs := by
  rcases h.form with ⟨rfl, rfl⟩ | ⟨g, cap, rfl, _⟩
  · exact ⟨none, 0, rfl, Or.inl rfl⟩
  · exact ⟨_, _, rfl, Or.inr ⟨g, 0, rfl, fun j hj => by simpa using h.cell j hj⟩⟩

theorem OwnB.later {w w' : World} {base : Nat} {v : Value} {xs : List Bool} (h : OwnB w base v xs) (hb : Below w.heap.size w w') : OwnB w' base v xs := by
  refine ⟨h.1, ?_⟩
  rcases h.2 with h2 | ⟨g, cap, cur, hv, hg, hh, r⟩
  · exact Or.inl h2
  · exact Or.inr ⟨g, cap, cur, hv, hg, by rw [hb.block g (Array.getElem?_eq_some_iff.1 hh).1]; exact hh, r⟩

theorem OwnB.mono {w : World} {base base' : Nat} {v : Value} {xs : List Bool} (h : OwnB w base v xs) (hb : base' ≤ base) : OwnB w base' v xs := by
  refine ⟨h.1, ?_⟩
  rcases h.2 with h2 | ⟨g, cap, cur, hv, hg, r⟩
  · exact Or.inl h2
  · exact Or.inr ⟨g, cap, cur, hv, Nat.le_trans hb hg, r⟩

theorem OwnB.kept {w w' : World} {base : Nat} {v : Value} {xs : List Bool} {row : Option Nat} (h : OwnB w base v xs) (hg : w.grownBy w' row) (hne : v.ownBlock = none ∨ v.ownBlock ≠ row) : OwnB w' base v xs := World.ownsRow.kept h hg hne

theorem RdB.later {w w' : World} {ao : Option Addr} {xs : List Bool} (h : RdB w ao xs) (hb : Below w.heap.size w w') : RdB w' ao xs := by
  rcases h with h | ⟨b, off, he, hc⟩
  · exact Or.inl h
  · refine Or.inr ⟨b, off, he, fun j hj => ?_⟩
    rw [hb.cell (p := ⟨b, off + j, none⟩) (World.block_lt_of_cell? w _ (hc j hj))]
    exact hc j hj

theorem OwnB.shape {w : World} {base : Nat} {v : Value} {xs : List Bool} (h : OwnB w base v xs) : ∃ ao cap, v = .slice ao xs.length cap := by
  obtain ⟨ao, cap, h1, _⟩ := h.rd
  exact ⟨ao, cap, h1⟩

theorem OwnB.rd' {w : World} {base n cap : Nat} {ao : Option Addr} {xs : List Bool} (h : OwnB w base (.slice ao n cap) xs) : xs.length = n ∧ RdB w ao xs := by
  obtain ⟨ao', cap', h1, h2⟩ := h.rd
  simp only [Value.slice.injEq] at h1
  obtain ⟨rfl, h3, _⟩ := h1
  exact ⟨h3.symm, h2⟩

/-- The marksB k, k + 1, .. of a row of n. -/
def marksB (k : Int) (n : Nat) : List Bool := (List.range n).map (fun j : Nat => (k + (j : Int)) % 3 == 0)
theorem marksB_length (k : Int) (n : Nat) : (marksB k n).length = n := by simp [marksB]
theorem marksB_getD (k : Int) (n j : Nat) (h : j < n) : (marksB k n).getD j false = ((k + j) % 3 == 0) := by simp [marksB, List.getD, h]
theorem marksB_of (k : Int) (n : Nat) (ys : List Bool) (hl : ys.length = n) (h : ∀ j : Nat, j < n → ys.getD j false = ((k + j) % 3 == 0)) : ys = marksB k n := by
  refine List.ext_getElem (by rw [hl, marksB_length]) fun j h1 h2 => ?_
  have e1 := h j (by omega)
  have e2 := marksB_getD k n j (by omega)
  simp [List.getD, h1] at e1
  simp [List.getD, h2] at e2
  rw [e1, e2]


theorem own_pushB {w w1 : World} {base : Nat} {v v' : Value} {out : List Bool} {x : Bool} (h : w1.ownsRow base 4 1 v' (out.length + 1) (cellsB out ++ [.bool x])) : OwnB w1 base v' (out ++ [x]) := by
  unfold OwnB
  rw [show (out ++ [x]).length = out.length + 1 by simp]
  simpa [cellsB] using h
theorem own_block_geB {w : World} {base : Nat} {v : Value} {xs : List Bool} (h : OwnB w base v xs) : ∀ k, v.ownBlock = some k → base ≤ k := fun k hk => (World.ownsRow.lt h k hk).1

theorem RdB.at {w : World} {ao : Option Addr} {xs : List Bool} {n : Nat} (h : RdB w ao xs) (hx : xs.length = n) (hn : 0 < n) : ∃ b o, ao = some ⟨b, o, none⟩ ∧ ∀ j, j < n → w.cell? ⟨b, o + j, none⟩ = some (.bool (xs.getD j false)) := by
  rcases h with rfl | ⟨b, o, rfl, hc⟩
  · simp at hx; omega
  · exact ⟨b, o, rfl, by rw [← hx]; exact hc⟩

theorem Rd.at {w : World} {ao : Option Addr} {xs : List Int} {n : Nat} (h : Rd w ao xs) (hx : xs.length = n) (hn : 0 < n) : ∃ b o, ao = some ⟨b, o, none⟩ ∧ ∀ j, j < n → w.cell? ⟨b, o + j, none⟩ = some (.int .i64 (xs.getD j 0)) := by
  rcases h with rfl | ⟨b, o, rfl, hc⟩
  · simp at hx; omega
  · exact ⟨b, o, rfl, by rw [← hx]; exact hc⟩

end Go.Proofs.Ytbjpkklonjlmiaa
