/- Lists of BoardStep: contracts of the helpers. -/
import Derived.Test.YtaokmjbhgkfnfaaM13s
import Derived.Deep.RegionWith
import Derived.Deep.RegionHeld3
namespace Go.Proofs.Ytaokmjbhgkfnfaa
set_option linter.unusedVariables false
set_option maxRecDepth 1000000
set_option linter.unusedSimpArgs false
open Go.RowKit

def cellsT (l : List (Int × Int × Int)) : List Value := l.flatMap fun p => [.int .i64 p.1, .int .i64 p.2.1, .int .i64 p.2.2]
theorem cellsT_cons (p : Int × Int × Int) (l : List (Int × Int × Int)) : cellsT (p :: l) = .int .i64 p.1 :: .int .i64 p.2.1 :: .int .i64 p.2.2 :: cellsT l := rfl
theorem cellsT_at : ∀ (l : List (Int × Int × Int)) (j : Nat), j < l.length → (cellsT l)[j * 3]? = some (.int .i64 (l.getD j (0, 0, 0)).1) ∧ (cellsT l)[j * 3 + 1]? = some (.int .i64 (l.getD j (0, 0, 0)).2.1) ∧ (cellsT l)[j * 3 + 2]? = some (.int .i64 (l.getD j (0, 0, 0)).2.2)
  | [], j, h => by simp at h
  | p :: l, 0, _ => ⟨rfl, rfl, rfl⟩
  | p :: l, j + 1, h => by
    have ih := cellsT_at l j (by simpa using h)
    rw [show (j + 1) * 3 = j * 3 + 1 + 1 + 1 by omega, cellsT_cons]
    simpa using ih
/-- The slice at address ao of length l.length reads as l. -/
def RdT (w : World) (ao : Option Addr) (l : List (Int × Int × Int)) : Prop :=
  l = [] ∨ ∃ b off, ao = some ⟨b, off, none⟩ ∧ ∀ j, j < l.length → w.cell? ⟨b, off + j * 3, none⟩ = some (.int .i64 (l.getD j (0, 0, 0)).1) ∧ w.cell? ⟨b, off + j * 3 + 1, none⟩ = some (.int .i64 (l.getD j (0, 0, 0)).2.1) ∧ w.cell? ⟨b, off + j * 3 + 2, none⟩ = some (.int .i64 (l.getD j (0, 0, 0)).2.2)
/-- The slice value v is a row of the call's own that holds l. -/
def OwnT (w : World) (base : Nat) (v : Value) (l : List (Int × Int × Int)) : Prop := w.ownsRow base 40 3 v l.length (cellsT l)

theorem OwnT.form {w : World} {base : Nat} {v : Value} {xs : List (Int × Int × Int)} (h : OwnT w base v xs) : (v = .slice none 0 0 ∧ xs = []) ∨ ∃ g cap, v = .slice (some ⟨g, 0, none⟩) xs.length cap ∧ base ≤ g ∧ g < w.heap.size ∧ xs.length ≤ cap ∧ cap ≤ maxLen := by
  rcases h.2 with ⟨h1, h2⟩ | ⟨g, cap, cur, hv, hb, hg, hc, hm, _⟩
  · exact Or.inl ⟨h1, List.length_eq_zero_iff.1 h2⟩
  · exact Or.inr ⟨g, cap, hv, hb, (Array.getElem?_eq_some_iff.1 hg).1, hc, hm⟩
theorem OwnT.cell {w : World} {base g cap : Nat} {xs : List (Int × Int × Int)} (h : OwnT w base (.slice (some ⟨g, 0, none⟩) xs.length cap) xs) : ∀ j, j < xs.length → w.cell? ⟨g, j * 3, none⟩ = some (.int .i64 (xs.getD j (0, 0, 0)).1) ∧ w.cell? ⟨g, j * 3 + 1, none⟩ = some (.int .i64 (xs.getD j (0, 0, 0)).2.1) ∧ w.cell? ⟨g, j * 3 + 2, none⟩ = some (.int .i64 (xs.getD j (0, 0, 0)).2.2) := fun j hj => by
  rw [World.ownsRow.cellAt h (j * 3) (by omega), World.ownsRow.cellAt h (j * 3 + 1) (by omega), World.ownsRow.cellAt h (j * 3 + 2) (by omega)]
  exact cellsT_at xs j hj
theorem OwnT.rd {w : World} {base : Nat} {v : Value} {xs : List (Int × Int × Int)} (h : OwnT w base v xs) : ∃ ao cap, v = .slice ao xs.length cap ∧ RdT w ao xs := by
  rcases h.form with ⟨rfl, rfl⟩ | ⟨g, cap, rfl, _⟩
  · exact ⟨none, 0, rfl, Or.inl rfl⟩
  · exact ⟨_, _, rfl, Or.inr ⟨g, 0, rfl, fun j hj => by simpa using h.cell j hj⟩⟩
theorem OwnT.later {w w' : World} {base : Nat} {v : Value} {xs : List (Int × Int × Int)} (h : OwnT w base v xs) (hb : Below w.heap.size w w') : OwnT w' base v xs := by
  refine ⟨h.1, ?_⟩
  rcases h.2 with h2 | ⟨g, cap, cur, hv, hg, hh, r⟩
  · exact Or.inl h2
  · exact Or.inr ⟨g, cap, cur, hv, hg, by rw [hb.block g (Array.getElem?_eq_some_iff.1 hh).1]; exact hh, r⟩
theorem OwnT.mono {w : World} {base base' : Nat} {v : Value} {xs : List (Int × Int × Int)} (h : OwnT w base v xs) (hb : base' ≤ base) : OwnT w base' v xs := by
  refine ⟨h.1, ?_⟩
  rcases h.2 with h2 | ⟨g, cap, cur, hv, hg, r⟩
  · exact Or.inl h2
  · exact Or.inr ⟨g, cap, cur, hv, Nat.le_trans hb hg, r⟩
theorem OwnT.kept {w w' : World} {base : Nat} {v : Value} {xs : List (Int × Int × Int)} {row : Option Nat} (h : OwnT w base v xs) (hg : w.grownBy w' row) (hne : v.ownBlock = none ∨ v.ownBlock ≠ row) : OwnT w' base v xs := World.ownsRow.kept h hg hne
theorem RdT.later {w w' : World} {ao : Option Addr} {xs : List (Int × Int × Int)} (h : RdT w ao xs) (hb : Below w.heap.size w w') : RdT w' ao xs := by
  rcases h with h | ⟨b, off, he, hc⟩
  · exact Or.inl h
  · refine Or.inr ⟨b, off, he, fun j hj => ?_⟩
    have h1 := World.block_lt_of_cell? w _ (hc j hj).1
    rw [hb.cell (p := ⟨b, off + j * 3, none⟩) h1, hb.cell (p := ⟨b, off + j * 3 + 1, none⟩) h1, hb.cell (p := ⟨b, off + j * 3 + 2, none⟩) h1]
    exact hc j hj
theorem RdT.get {w : World} {ao : Option Addr} {xs : List (Int × Int × Int)} (h : RdT w ao xs) {k : Nat} (hk : k < xs.length) : ∃ b off, ao = some ⟨b, off, none⟩ ∧ w.cell? ⟨b, off + k * 3, none⟩ = some (.int .i64 (xs.getD k (0, 0, 0)).1) ∧ w.cell? ⟨b, off + k * 3 + 1, none⟩ = some (.int .i64 (xs.getD k (0, 0, 0)).2.1) ∧ w.cell? ⟨b, off + k * 3 + 2, none⟩ = some (.int .i64 (xs.getD k (0, 0, 0)).2.2) := by
  rcases h with rfl | ⟨b, o, rfl, hc⟩
  · simp at hk
  · exact ⟨b, o, rfl, hc k hk⟩
theorem OwnT.shape {w : World} {base : Nat} {v : Value} {xs : List (Int × Int × Int)} (h : OwnT w base v xs) : ∃ ao cap, v = .slice ao xs.length cap := by
  obtain ⟨ao, cap, h1, _⟩ := h.rd
  exact ⟨ao, cap, h1⟩
theorem OwnT.rd' {w : World} {base n cap : Nat} {ao : Option Addr} {xs : List (Int × Int × Int)} (h : OwnT w base (.slice ao n cap) xs) : xs.length = n ∧ RdT w ao xs := by
  obtain ⟨ao', cap', h1, h2⟩ := h.rd
  simp only [Value.slice.injEq] at h1
  obtain ⟨rfl, h3, _⟩ := h1
  exact ⟨h3.symm, h2⟩
set_option maxHeartbeats 1000000 in
theorem toBoardStep_c (x0 : Int) (x1 : Int) (x2 : Int) (w : World) : Calls Try.prog 43 #[.agg #[.int .i64 x0, .int .i64 x1, .int .i64 x2]] w fun e w' => e = .returned (.agg #[.int .i64 x0, .int .i64 x1, .int .i64 x2]) ∧ Below w.heap.size w w' := by
  go_enter Try.func43, Try.ntmps43
  go_wp2
  refine bodyPost_ret (v := .agg #[.int .i64 x0, .int .i64 x1, .int .i64 x2]) (by simp [results, Try.results43, go_sem, ]; try rfl) rfl ?_
  exact ⟨rfl, (((Below.refl _ w).alloc (Nat.le_refl _) _).alloc (by simp) _).alloc (by simp; omega) _⟩

end Go.Proofs.Ytaokmjbhgkfnfaa
