/- Chapter 6: contracts of the helpers over lists of sealed numbers (pairs of ints; as BP). -/
import Derived.Test.YtobomcmjilcnaaaDoorB6
import Derived.Deep.RegionWith
import Derived.Deep.RegionHeld3
namespace Go.Proofs.YtobomcmjilcnaaaDoor
set_option linter.unusedVariables false
set_option maxRecDepth 1000000
set_option linter.unusedSimpArgs false
open Go.RowKit

theorem Tryd.infoSealed : (Tryd.prog.info? 31).map (fun i => (i.zero, i.size, i.bytes)) = some (some (.agg #[.int .i64 0, .int .i64 0]), 2, 16) := by kernel_rfl

/-- Parts as the cells of a row. -/
def cellsP (l : List (Int × Int)) : List Value := l.flatMap fun p => [.int .i64 p.1, .int .i64 p.2]
theorem cellsP_cons (p : Int × Int) (l : List (Int × Int)) : cellsP (p :: l) = .int .i64 p.1 :: .int .i64 p.2 :: cellsP l := rfl
theorem cellsP_length : ∀ l : List (Int × Int), (cellsP l).length = l.length * 2
  | [] => rfl
  | p :: l => by rw [cellsP_cons, List.length_cons, List.length_cons, cellsP_length l, List.length_cons]; omega
theorem cellsP_one (l : List (Int × Int)) : ∀ u ∈ cellsP l, u.oneCell' = true := by
  intro u hu
  obtain ⟨p, _, h⟩ := List.mem_flatMap.1 hu
  simp at h
  rcases h with rfl | rfl <;> rfl
theorem cellsP_at : ∀ (l : List (Int × Int)) (j : Nat), j < l.length → (cellsP l)[j * 2]? = some (.int .i64 (l.getD j (0, 0)).1) ∧ (cellsP l)[j * 2 + 1]? = some (.int .i64 (l.getD j (0, 0)).2)
  | [], j, h => by simp at h
  | p :: l, 0, _ => ⟨rfl, rfl⟩
  | p :: l, j + 1, h => by
    have ih := cellsP_at l j (by simpa using h)
    rw [show (j + 1) * 2 = j * 2 + 1 + 1 by omega, cellsP_cons]
    simpa using ih
theorem cellsP_set : ∀ (l : List (Int × Int)) (j : Nat) (x y : Int), ((cellsP l).set (j * 2) (.int .i64 x)).set (j * 2 + 1) (.int .i64 y) = cellsP (l.set j (x, y))
  | [], j, _, _ => rfl
  | p :: l, 0, _, _ => rfl
  | p :: l, j + 1, x, y => by
    have ih := cellsP_set l j x y
    rw [show (j + 1) * 2 = j * 2 + 1 + 1 by omega, cellsP_cons]
    simp only [List.set_cons_succ, cellsP_cons]
    rw [ih]
theorem cellsP_app (l m : List (Int × Int)) : cellsP (l ++ m) = cellsP l ++ cellsP m := by simp [cellsP]

/-- The slice at address ao of length l.length reads as l. -/
def RdP (w : World) (ao : Option Addr) (l : List (Int × Int)) : Prop :=
  l = [] ∨ ∃ b off, ao = some ⟨b, off, none⟩ ∧ ∀ j, j < l.length → w.cell? ⟨b, off + j * 2, none⟩ = some (.int .i64 (l.getD j (0, 0)).1) ∧ w.cell? ⟨b, off + j * 2 + 1, none⟩ = some (.int .i64 (l.getD j (0, 0)).2)
/-- The slice value v is a row of the call's own that holds l. -/
def OwnP (w : World) (base : Nat) (v : Value) (l : List (Int × Int)) : Prop := w.ownsRow base 31 2 v l.length (cellsP l)

theorem OwnP.form {w : World} {base : Nat} {v : Value} {xs : List (Int × Int)} (h : OwnP w base v xs) : (v = .slice none 0 0 ∧ xs = []) ∨ ∃ g cap, v = .slice (some ⟨g, 0, none⟩) xs.length cap ∧ base ≤ g ∧ g < w.heap.size ∧ xs.length ≤ cap ∧ cap ≤ maxLen := by
  rcases h.2 with ⟨h1, h2⟩ | ⟨g, cap, cur, hv, hb, hg, hc, hm, _⟩
  · exact Or.inl ⟨h1, List.length_eq_zero_iff.1 h2⟩
  · exact Or.inr ⟨g, cap, hv, hb, (Array.getElem?_eq_some_iff.1 hg).1, hc, hm⟩
theorem OwnP.cell {w : World} {base g cap : Nat} {xs : List (Int × Int)} (h : OwnP w base (.slice (some ⟨g, 0, none⟩) xs.length cap) xs) : ∀ j, j < xs.length → w.cell? ⟨g, j * 2, none⟩ = some (.int .i64 (xs.getD j (0, 0)).1) ∧ w.cell? ⟨g, j * 2 + 1, none⟩ = some (.int .i64 (xs.getD j (0, 0)).2) := fun j hj => by
  rw [World.ownsRow.cellAt h (j * 2) (by omega), World.ownsRow.cellAt h (j * 2 + 1) (by omega)]
  exact cellsP_at xs j hj
theorem OwnP.rd {w : World} {base : Nat} {v : Value} {xs : List (Int × Int)} (h : OwnP w base v xs) : ∃ ao cap, v = .slice ao xs.length cap ∧ RdP w ao xs := by
  rcases h.form with ⟨rfl, rfl⟩ | ⟨g, cap, rfl, _⟩
  · exact ⟨none, 0, rfl, Or.inl rfl⟩
  · exact ⟨_, _, rfl, Or.inr ⟨g, 0, rfl, fun j hj => by simpa using h.cell j hj⟩⟩
theorem OwnP.later {w w' : World} {base : Nat} {v : Value} {xs : List (Int × Int)} (h : OwnP w base v xs) (hb : Below w.heap.size w w') : OwnP w' base v xs := by
  refine ⟨h.1, ?_⟩
  rcases h.2 with h2 | ⟨g, cap, cur, hv, hg, hh, r⟩
  · exact Or.inl h2
  · exact Or.inr ⟨g, cap, cur, hv, hg, by rw [hb.block g (Array.getElem?_eq_some_iff.1 hh).1]; exact hh, r⟩
theorem OwnP.mono {w : World} {base base' : Nat} {v : Value} {xs : List (Int × Int)} (h : OwnP w base v xs) (hb : base' ≤ base) : OwnP w base' v xs := by
  refine ⟨h.1, ?_⟩
  rcases h.2 with h2 | ⟨g, cap, cur, hv, hg, r⟩
  · exact Or.inl h2
  · exact Or.inr ⟨g, cap, cur, hv, Nat.le_trans hb hg, r⟩
theorem OwnP.kept {w w' : World} {base : Nat} {v : Value} {xs : List (Int × Int)} {row : Option Nat} (h : OwnP w base v xs) (hg : w.grownBy w' row) (hne : v.ownBlock = none ∨ v.ownBlock ≠ row) : OwnP w' base v xs := World.ownsRow.kept h hg hne
theorem RdP.later {w w' : World} {ao : Option Addr} {xs : List (Int × Int)} (h : RdP w ao xs) (hb : Below w.heap.size w w') : RdP w' ao xs := by
  rcases h with h | ⟨b, off, he, hc⟩
  · exact Or.inl h
  · refine Or.inr ⟨b, off, he, fun j hj => ?_⟩
    have h1 := World.block_lt_of_cell? w _ (hc j hj).1
    rw [hb.cell (p := ⟨b, off + j * 2, none⟩) h1, hb.cell (p := ⟨b, off + j * 2 + 1, none⟩) h1]
    exact hc j hj
theorem RdP.at {w : World} {ao : Option Addr} {xs : List (Int × Int)} {n : Nat} (h : RdP w ao xs) (hx : xs.length = n) (hn : n ≠ 0) : ∃ b off, ao = some ⟨b, off, none⟩ ∧ ∀ j, j < n → w.cell? ⟨b, off + j * 2, none⟩ = some (.int .i64 (xs.getD j (0, 0)).1) ∧ w.cell? ⟨b, off + j * 2 + 1, none⟩ = some (.int .i64 (xs.getD j (0, 0)).2) := by
  rcases h with rfl | ⟨b, o, rfl, hc⟩
  · simp at hx; omega
  · exact ⟨b, o, rfl, by rw [← hx]; exact hc⟩
theorem Rd.at {w : World} {ao : Option Addr} {xs : List Int} {n : Nat} (h : Rd w ao xs) (hx : xs.length = n) (hn : n ≠ 0) : ∃ b off, ao = some ⟨b, off, none⟩ ∧ ∀ j, j < n → w.cell? ⟨b, off + j, none⟩ = some (.int .i64 (xs.getD j 0)) := by
  rcases h with rfl | ⟨b, o, rfl, hc⟩
  · simp at hx; omega
  · exact ⟨b, o, rfl, by rw [← hx]; exact hc⟩
theorem OwnP.shape {w : World} {base : Nat} {v : Value} {xs : List (Int × Int)} (h : OwnP w base v xs) : ∃ ao cap, v = .slice ao xs.length cap := by
  obtain ⟨ao, cap, h1, _⟩ := h.rd
  exact ⟨ao, cap, h1⟩
theorem OwnP.rd' {w : World} {base n cap : Nat} {ao : Option Addr} {xs : List (Int × Int)} (h : OwnP w base (.slice ao n cap) xs) : xs.length = n ∧ RdP w ao xs := by
  obtain ⟨ao', cap', h1, h2⟩ := h.rd
  simp only [Value.slice.injEq] at h1
  obtain ⟨rfl, h3, _⟩ := h1
  exact ⟨h3.symm, h2⟩
theorem take_eq_succP {xs ys : List (Int × Int)} {k : Nat} (hx : k < xs.length) (hy : k < ys.length) (h : xs.take k = ys.take k) (e : xs.getD k (0, 0) = ys.getD k (0, 0)) : xs.take (k + 1) = ys.take (k + 1) := by
  rw [List.take_succ_eq_append_getElem hx, List.take_succ_eq_append_getElem hy, h]
  simp [List.getD, hx, hy] at e
  rw [e]
theorem own_pushP {w1 : World} {base : Nat} {v' : Value} {out : List (Int × Int)} {x y : Int} (h : w1.ownsRow base 31 2 v' (out.length + 1) (cellsP out ++ [.int .i64 x, .int .i64 y])) : OwnP w1 base v' (out ++ [(x, y)]) := by
  unfold OwnP
  rw [show (out ++ [(x, y)]).length = out.length + 1 by simp, cellsP_app]
  exact h
theorem own_block_geP {w : World} {base : Nat} {v : Value} {xs : List (Int × Int)} (h : OwnP w base v xs) : ∀ k, v.ownBlock = some k → base ≤ k := fun k hk => (World.ownsRow.lt h k hk).1

theorem eqSealed2_c (x y p q : Int) (w : World) : Calls Tryd.prog 21 #[.agg #[.int .i64 x, .int .i64 y], .agg #[.int .i64 p, .int .i64 q]] w fun e w' => e = .returned (.bool (decide ((x, y) = (p, q)))) ∧ Below w.heap.size w w' := by
  by_cases h1 : x = p
  · subst h1
    have hxx : (x != x) = false := by simp
    by_cases h2 : y = q
    · subst h2
      have hyy : (y != y) = false := by simp
      go_enter Tryd.func21, Tryd.ntmps21
      go_wp2
      go_ret
      exact ⟨by simp, ((Below.refl _ w).alloc (Nat.le_refl _) _).alloc (by simp) _⟩
    · have hyy : (y != q) = true := by simpa using h2
      go_enter Tryd.func21, Tryd.ntmps21
      go_wp2
      go_ret
      exact ⟨by simp [h2], ((Below.refl _ w).alloc (Nat.le_refl _) _).alloc (by simp) _⟩
  · have hxx : (x != p) = true := by simpa using h1
    go_enter Tryd.func21, Tryd.ntmps21
    go_wp2
    go_ret
    exact ⟨by simp [h1], ((Below.refl _ w).alloc (Nat.le_refl _) _).alloc (by simp) _⟩

end Go.Proofs.YtobomcmjilcnaaaDoor
