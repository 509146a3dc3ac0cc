/- Lists of step: contracts of the helpers. -/
import Derived.Test.YtbjpkklonjlmiaaPU15
import Derived.Deep.RegionWith
import Derived.Deep.RegionHeld3
namespace Go.Proofs.Ytbjpkklonjlmiaa
set_option linter.unusedVariables false
set_option maxRecDepth 1000000
set_option linter.unusedSimpArgs false
open Go.RowKit

theorem Try.infostep : (Try.prog.info? 78).map (fun i => (i.zero, i.size, i.bytes)) = some (some (.agg #[.int .i64 0, .int .i64 0, .int .i64 0]), 3, 24) := by kernel_rfl

def cellsQ (l : List (Int × Int × Int)) : List Value := l.flatMap fun p => [.int .i64 p.1, .int .i64 p.2.1, .int .i64 p.2.2]
theorem cellsQ_cons (p : Int × Int × Int) (l : List (Int × Int × Int)) : cellsQ (p :: l) = .int .i64 p.1 :: .int .i64 p.2.1 :: .int .i64 p.2.2 :: cellsQ l := rfl
theorem cellsQ_length : ∀ l : List (Int × Int × Int), (cellsQ l).length = l.length * 3
  | [] => rfl
  | p :: l => by rw [cellsQ_cons]; simp only [List.length_cons]; rw [cellsQ_length l]; omega
theorem cellsQ_one (l : List (Int × Int × Int)) : ∀ u ∈ cellsQ l, u.oneCell' = true := by
  intro u hu
  obtain ⟨p, _, h⟩ := List.mem_flatMap.1 hu
  simp at h
  rcases h with rfl | rfl | rfl <;> rfl
theorem cellsQ_at : ∀ (l : List (Int × Int × Int)) (j : Nat), j < l.length → (cellsQ l)[j * 3]? = some (.int .i64 (l.getD j (0, 0, 0)).1) ∧ (cellsQ l)[j * 3 + 1]? = some (.int .i64 (l.getD j (0, 0, 0)).2.1) ∧ (cellsQ l)[j * 3 + 2]? = some (.int .i64 (l.getD j (0, 0, 0)).2.2)
  | [], j, h => by simp at h
  | p :: l, 0, _ => ⟨rfl, rfl, rfl⟩
  | p :: l, j + 1, h => by
    have ih := cellsQ_at l j (by simpa using h)
    rw [show (j + 1) * 3 = j * 3 + 1 + 1 + 1 by omega, cellsQ_cons]
    simpa using ih
theorem cellsQ_set : ∀ (l : List (Int × Int × Int)) (j : Nat) (x0 : Int) (x1 : Int) (x2 : Int), (((cellsQ l).set (j * 3) (.int .i64 x0)).set (j * 3 + 1) (.int .i64 x1)).set (j * 3 + 2) (.int .i64 x2) = cellsQ (l.set j (x0, x1, x2))
  | [], j, _, _, _ => rfl
  | p :: l, 0, _, _, _ => rfl
  | p :: l, j + 1, x0, x1, x2 => by
    have ih := cellsQ_set l j x0 x1 x2
    rw [show (j + 1) * 3 = j * 3 + 1 + 1 + 1 by omega, cellsQ_cons]
    simp only [List.set_cons_succ, cellsQ_cons]
    rw [ih]
theorem cellsQ_app (l m : List (Int × Int × Int)) : cellsQ (l ++ m) = cellsQ l ++ cellsQ m := by simp [cellsQ]

/-- The slice at address ao of length l.length reads as l. -/
def RdQ (w : World) (ao : Option Addr) (l : List (Int × Int × Int)) : Prop :=
  l = [] ∨ ∃ b off, ao = some ⟨b, off, none⟩ ∧ ∀ j, j < l.length → w.cell? ⟨b, off + j * 3, none⟩ = some (.int .i64 (l.getD j (0, 0, 0)).1) ∧ w.cell? ⟨b, off + j * 3 + 1, none⟩ = some (.int .i64 (l.getD j (0, 0, 0)).2.1) ∧ w.cell? ⟨b, off + j * 3 + 2, none⟩ = some (.int .i64 (l.getD j (0, 0, 0)).2.2)
/-- The slice value v is a row of the call's own that holds l. -/
def OwnQ (w : World) (base : Nat) (v : Value) (l : List (Int × Int × Int)) : Prop := w.ownsRow base 78 3 v l.length (cellsQ l)

theorem OwnQ.form {w : World} {base : Nat} {v : Value} {xs : List (Int × Int × Int)} (h : OwnQ w base v xs) : (v = .slice none 0 0 ∧ xs = []) ∨ ∃ g cap, v = .slice (some ⟨g, 0, none⟩) xs.length cap ∧ base ≤ g ∧ g < w.heap.size ∧ xs.length ≤ cap ∧ cap ≤ maxLen := by
  rcases h.2 with ⟨h1, h2⟩ | ⟨g, cap, cur, hv, hb, hg, hc, hm, _⟩
  · exact Or.inl ⟨h1, List.length_eq_zero_iff.1 h2⟩
  · exact Or.inr ⟨g, cap, hv, hb, (Array.getElem?_eq_some_iff.1 hg).1, hc, hm⟩
theorem OwnQ.cell {w : World} {base g cap : Nat} {xs : List (Int × Int × Int)} (h : OwnQ w base (.slice (some ⟨g, 0, none⟩) xs.length cap) xs) : ∀ j, j < xs.length → w.cell? ⟨g, j * 3, none⟩ = some (.int .i64 (xs.getD j (0, 0, 0)).1) ∧ w.cell? ⟨g, j * 3 + 1, none⟩ = some (.int .i64 (xs.getD j (0, 0, 0)).2.1) ∧ w.cell? ⟨g, j * 3 + 2, none⟩ = some (.int .i64 (xs.getD j (0, 0, 0)).2.2) := fun j hj => by
  rw [World.ownsRow.cellAt h (j * 3) (by omega), World.ownsRow.cellAt h (j * 3 + 1) (by omega), World.ownsRow.cellAt h (j * 3 + 2) (by omega)]
  exact cellsQ_at xs j hj
theorem OwnQ.rd {w : World} {base : Nat} {v : Value} {xs : List (Int × Int × Int)} (h : OwnQ w base v xs) : ∃ ao cap, v = .slice ao xs.length cap ∧ RdQ w ao xs := by
  rcases h.form with ⟨rfl, rfl⟩ | ⟨g, cap, rfl, _⟩
  · exact ⟨none, 0, rfl, Or.inl rfl⟩
  · exact ⟨_, _, rfl, Or.inr ⟨g, 0, rfl, fun j hj => by simpa using h.cell j hj⟩⟩
theorem OwnQ.later {w w' : World} {base : Nat} {v : Value} {xs : List (Int × Int × Int)} (h : OwnQ w base v xs) (hb : Below w.heap.size w w') : OwnQ w' base v xs := by
  refine ⟨h.1, ?_⟩
  rcases h.2 with h2 | ⟨g, cap, cur, hv, hg, hh, r⟩
  · exact Or.inl h2
  · exact Or.inr ⟨g, cap, cur, hv, hg, by rw [hb.block g (Array.getElem?_eq_some_iff.1 hh).1]; exact hh, r⟩
theorem OwnQ.mono {w : World} {base base' : Nat} {v : Value} {xs : List (Int × Int × Int)} (h : OwnQ w base v xs) (hb : base' ≤ base) : OwnQ w base' v xs := by
  refine ⟨h.1, ?_⟩
  rcases h.2 with h2 | ⟨g, cap, cur, hv, hg, r⟩
  · exact Or.inl h2
  · exact Or.inr ⟨g, cap, cur, hv, Nat.le_trans hb hg, r⟩
theorem OwnQ.kept {w w' : World} {base : Nat} {v : Value} {xs : List (Int × Int × Int)} {row : Option Nat} (h : OwnQ w base v xs) (hg : w.grownBy w' row) (hne : v.ownBlock = none ∨ v.ownBlock ≠ row) : OwnQ w' base v xs := World.ownsRow.kept h hg hne
theorem RdQ.later {w w' : World} {ao : Option Addr} {xs : List (Int × Int × Int)} (h : RdQ w ao xs) (hb : Below w.heap.size w w') : RdQ w' ao xs := by
  rcases h with h | ⟨b, off, he, hc⟩
  · exact Or.inl h
  · refine Or.inr ⟨b, off, he, fun j hj => ?_⟩
    have h1 := World.block_lt_of_cell? w _ (hc j hj).1
    rw [hb.cell (p := ⟨b, off + j * 3, none⟩) h1, hb.cell (p := ⟨b, off + j * 3 + 1, none⟩) h1, hb.cell (p := ⟨b, off + j * 3 + 2, none⟩) h1]
    exact hc j hj
theorem RdQ.get {w : World} {ao : Option Addr} {xs : List (Int × Int × Int)} (h : RdQ w ao xs) {k : Nat} (hk : k < xs.length) : ∃ b off, ao = some ⟨b, off, none⟩ ∧ w.cell? ⟨b, off + k * 3, none⟩ = some (.int .i64 (xs.getD k (0, 0, 0)).1) ∧ w.cell? ⟨b, off + k * 3 + 1, none⟩ = some (.int .i64 (xs.getD k (0, 0, 0)).2.1) ∧ w.cell? ⟨b, off + k * 3 + 2, none⟩ = some (.int .i64 (xs.getD k (0, 0, 0)).2.2) := by
  rcases h with rfl | ⟨b, o, rfl, hc⟩
  · simp at hk
  · exact ⟨b, o, rfl, hc k hk⟩
theorem OwnQ.shape {w : World} {base : Nat} {v : Value} {xs : List (Int × Int × Int)} (h : OwnQ w base v xs) : ∃ ao cap, v = .slice ao xs.length cap := by
  obtain ⟨ao, cap, h1, _⟩ := h.rd
  exact ⟨ao, cap, h1⟩
theorem OwnQ.rd' {w : World} {base n cap : Nat} {ao : Option Addr} {xs : List (Int × Int × Int)} (h : OwnQ w base (.slice ao n cap) xs) : xs.length = n ∧ RdQ w ao xs := by
  obtain ⟨ao', cap', h1, h2⟩ := h.rd
  simp only [Value.slice.injEq] at h1
  obtain ⟨rfl, h3, _⟩ := h1
  exact ⟨h3.symm, h2⟩
theorem take_eq_succQ {xs ys : List (Int × Int × Int)} {k : Nat} (hx : k < xs.length) (hy : k < ys.length) (h : xs.take k = ys.take k) (e : xs.getD k (0, 0, 0) = ys.getD k (0, 0, 0)) : xs.take (k + 1) = ys.take (k + 1) := by
  rw [List.take_succ_eq_append_getElem hx, List.take_succ_eq_append_getElem hy, h]
  simp [List.getD, hx, hy] at e
  rw [e]
theorem own_pushQ {w1 : World} {base : Nat} {v' : Value} {out : List (Int × Int × Int)} {x0 : Int} {x1 : Int} {x2 : Int} (h : w1.ownsRow base 78 3 v' (out.length + 1) (cellsQ out ++ [.int .i64 x0, .int .i64 x1, .int .i64 x2])) : OwnQ w1 base v' (out ++ [(x0, x1, x2)]) := by
  unfold OwnQ
  rw [show (out ++ [(x0, x1, x2)]).length = out.length + 1 by simp, cellsQ_app]
  exact h
theorem own_block_geQ {w : World} {base : Nat} {v : Value} {xs : List (Int × Int × Int)} (h : OwnQ w base v xs) : ∀ k, v.ownBlock = some k → base ≤ k := fun k hk => (World.ownsRow.lt h k hk).1
theorem OwnQ.raw {w : World} {base : Nat} {v : Value} {xs : List (Int × Int × Int)} {n : Nat} (h : OwnQ w base v xs) (hn : xs.length = n) : w.ownsRow base 78 3 v n (cellsQ xs) := by rw [← hn]; exact h
theorem OwnQ.of {w : World} {base : Nat} {v : Value} {xs : List (Int × Int × Int)} {n : Nat} (h : w.ownsRow base 78 3 v n (cellsQ xs)) (hn : xs.length = n) : OwnQ w base v xs := by unfold OwnQ; rw [hn]; exact h

end Go.Proofs.Ytbjpkklonjlmiaa
