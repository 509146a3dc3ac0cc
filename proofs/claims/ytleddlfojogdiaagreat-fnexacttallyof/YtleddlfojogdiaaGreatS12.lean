/- Lists of Statement: contracts of the helpers. -/
import Derived.Test.YtleddlfojogdiaaGreatE12
import Derived.Deep.RegionWith
import Derived.Deep.RegionHeld3
namespace Go.Proofs.YtleddlfojogdiaaGreat
set_option linter.unusedVariables false
set_option maxRecDepth 1000000
set_option linter.unusedSimpArgs false
open Go.RowKit

theorem Tryz.infoStatement : (Tryz.prog.info? 34).map (fun i => (i.zero, i.size, i.bytes)) = some (some (.agg #[.int .i64 0, .int .i64 0, .int .i64 0, .int .i64 0, .bool false]), 5, 40) := by kernel_rfl

def cellsS (l : List (Int × Int × Int × Int × Bool)) : List Value := l.flatMap fun p => [.int .i64 p.1, .int .i64 p.2.1, .int .i64 p.2.2.1, .int .i64 p.2.2.2.1, .bool p.2.2.2.2]
theorem cellsS_cons (p : Int × Int × Int × Int × Bool) (l : List (Int × Int × Int × Int × Bool)) : cellsS (p :: l) = .int .i64 p.1 :: .int .i64 p.2.1 :: .int .i64 p.2.2.1 :: .int .i64 p.2.2.2.1 :: .bool p.2.2.2.2 :: cellsS l := rfl
theorem cellsS_length : ∀ l : List (Int × Int × Int × Int × Bool), (cellsS l).length = l.length * 5
  | [] => rfl
  | p :: l => by rw [cellsS_cons]; simp only [List.length_cons]; rw [cellsS_length l]; omega
theorem cellsS_one (l : List (Int × Int × Int × Int × Bool)) : ∀ u ∈ cellsS l, u.oneCell' = true := by
  intro u hu
  obtain ⟨p, _, h⟩ := List.mem_flatMap.1 hu
  simp at h
  rcases h with rfl | rfl | rfl | rfl | rfl <;> rfl
theorem cellsS_at : ∀ (l : List (Int × Int × Int × Int × Bool)) (j : Nat), j < l.length → (cellsS l)[j * 5]? = some (.int .i64 (l.getD j (0, 0, 0, 0, false)).1) ∧ (cellsS l)[j * 5 + 1]? = some (.int .i64 (l.getD j (0, 0, 0, 0, false)).2.1) ∧ (cellsS l)[j * 5 + 2]? = some (.int .i64 (l.getD j (0, 0, 0, 0, false)).2.2.1) ∧ (cellsS l)[j * 5 + 3]? = some (.int .i64 (l.getD j (0, 0, 0, 0, false)).2.2.2.1) ∧ (cellsS l)[j * 5 + 4]? = some (.bool (l.getD j (0, 0, 0, 0, false)).2.2.2.2)
  | [], j, h => by simp at h
  | p :: l, 0, _ => ⟨rfl, rfl, rfl, rfl, rfl⟩
  | p :: l, j + 1, h => by
    have ih := cellsS_at l j (by simpa using h)
    rw [show (j + 1) * 5 = j * 5 + 1 + 1 + 1 + 1 + 1 by omega, cellsS_cons]
    simpa using ih
theorem cellsS_set : ∀ (l : List (Int × Int × Int × Int × Bool)) (j : Nat) (x0 : Int) (x1 : Int) (x2 : Int) (x3 : Int) (x4 : Bool), (((((cellsS l).set (j * 5) (.int .i64 x0)).set (j * 5 + 1) (.int .i64 x1)).set (j * 5 + 2) (.int .i64 x2)).set (j * 5 + 3) (.int .i64 x3)).set (j * 5 + 4) (.bool x4) = cellsS (l.set j (x0, x1, x2, x3, x4))
  | [], j, _, _, _, _, _ => rfl
  | p :: l, 0, _, _, _, _, _ => rfl
  | p :: l, j + 1, x0, x1, x2, x3, x4 => by
    have ih := cellsS_set l j x0 x1 x2 x3 x4
    rw [show (j + 1) * 5 = j * 5 + 1 + 1 + 1 + 1 + 1 by omega, cellsS_cons]
    simp only [List.set_cons_succ, cellsS_cons]
    rw [ih]
theorem cellsS_app (l m : List (Int × Int × Int × Int × Bool)) : cellsS (l ++ m) = cellsS l ++ cellsS m := by simp [cellsS]

/-- The slice at address ao of length l.length reads as l. -/
def RdS (w : World) (ao : Option Addr) (l : List (Int × Int × Int × Int × Bool)) : Prop :=
  l = [] ∨ ∃ b off, ao = some ⟨b, off, none⟩ ∧ ∀ j, j < l.length → w.cell? ⟨b, off + j * 5, none⟩ = some (.int .i64 (l.getD j (0, 0, 0, 0, false)).1) ∧ w.cell? ⟨b, off + j * 5 + 1, none⟩ = some (.int .i64 (l.getD j (0, 0, 0, 0, false)).2.1) ∧ w.cell? ⟨b, off + j * 5 + 2, none⟩ = some (.int .i64 (l.getD j (0, 0, 0, 0, false)).2.2.1) ∧ w.cell? ⟨b, off + j * 5 + 3, none⟩ = some (.int .i64 (l.getD j (0, 0, 0, 0, false)).2.2.2.1) ∧ w.cell? ⟨b, off + j * 5 + 4, none⟩ = some (.bool (l.getD j (0, 0, 0, 0, false)).2.2.2.2)
/-- The slice value v is a row of the call's own that holds l. -/
def OwnS (w : World) (base : Nat) (v : Value) (l : List (Int × Int × Int × Int × Bool)) : Prop := w.ownsRow base 34 5 v l.length (cellsS l)

theorem OwnS.form {w : World} {base : Nat} {v : Value} {xs : List (Int × Int × Int × Int × Bool)} (h : OwnS w base v xs) : (v = .slice none 0 0 ∧ xs = []) ∨ ∃ g cap, v = .slice (some ⟨g, 0, none⟩) xs.length cap ∧ base ≤ g ∧ g < w.heap.size ∧ xs.length ≤ cap ∧ cap ≤ maxLen := by
  rcases h.2 with ⟨h1, h2⟩ | ⟨g, cap, cur, hv, hb, hg, hc, hm, _⟩
  · exact Or.inl ⟨h1, List.length_eq_zero_iff.1 h2⟩
  · exact Or.inr ⟨g, cap, hv, hb, (Array.getElem?_eq_some_iff.1 hg).1, hc, hm⟩
theorem OwnS.cell {w : World} {base g cap : Nat} {xs : List (Int × Int × Int × Int × Bool)} (h : OwnS w base (.slice (some ⟨g, 0, none⟩) xs.length cap) xs) : ∀ j, j < xs.length → w.cell? ⟨g, j * 5, none⟩ = some (.int .i64 (xs.getD j (0, 0, 0, 0, false)).1) ∧ w.cell? ⟨g, j * 5 + 1, none⟩ = some (.int .i64 (xs.getD j (0, 0, 0, 0, false)).2.1) ∧ w.cell? ⟨g, j * 5 + 2, none⟩ = some (.int .i64 (xs.getD j (0, 0, 0, 0, false)).2.2.1) ∧ w.cell? ⟨g, j * 5 + 3, none⟩ = some (.int .i64 (xs.getD j (0, 0, 0, 0, false)).2.2.2.1) ∧ w.cell? ⟨g, j * 5 + 4, none⟩ = some (.bool (xs.getD j (0, 0, 0, 0, false)).2.2.2.2) := fun j hj => by
  rw [World.ownsRow.cellAt h (j * 5) (by omega), World.ownsRow.cellAt h (j * 5 + 1) (by omega), World.ownsRow.cellAt h (j * 5 + 2) (by omega), World.ownsRow.cellAt h (j * 5 + 3) (by omega), World.ownsRow.cellAt h (j * 5 + 4) (by omega)]
  exact cellsS_at xs j hj
theorem OwnS.rd {w : World} {base : Nat} {v : Value} {xs : List (Int × Int × Int × Int × Bool)} (h : OwnS w base v xs) : ∃ ao cap, v = .slice ao xs.length cap ∧ RdS w ao xs := by
  rcases h.form with ⟨rfl, rfl⟩ | ⟨g, cap, rfl, _⟩
  · exact ⟨none, 0, rfl, Or.inl rfl⟩
  · exact ⟨_, _, rfl, Or.inr ⟨g, 0, rfl, fun j hj => by simpa using h.cell j hj⟩⟩
theorem OwnS.later {w w' : World} {base : Nat} {v : Value} {xs : List (Int × Int × Int × Int × Bool)} (h : OwnS w base v xs) (hb : Below w.heap.size w w') : OwnS w' base v xs := by
  refine ⟨h.1, ?_⟩
  rcases h.2 with h2 | ⟨g, cap, cur, hv, hg, hh, r⟩
  · exact Or.inl h2
  · exact Or.inr ⟨g, cap, cur, hv, hg, by rw [hb.block g (Array.getElem?_eq_some_iff.1 hh).1]; exact hh, r⟩
theorem OwnS.mono {w : World} {base base' : Nat} {v : Value} {xs : List (Int × Int × Int × Int × Bool)} (h : OwnS w base v xs) (hb : base' ≤ base) : OwnS w base' v xs := by
  refine ⟨h.1, ?_⟩
  rcases h.2 with h2 | ⟨g, cap, cur, hv, hg, r⟩
  · exact Or.inl h2
  · exact Or.inr ⟨g, cap, cur, hv, Nat.le_trans hb hg, r⟩
theorem OwnS.kept {w w' : World} {base : Nat} {v : Value} {xs : List (Int × Int × Int × Int × Bool)} {row : Option Nat} (h : OwnS w base v xs) (hg : w.grownBy w' row) (hne : v.ownBlock = none ∨ v.ownBlock ≠ row) : OwnS w' base v xs := World.ownsRow.kept h hg hne
theorem RdS.later {w w' : World} {ao : Option Addr} {xs : List (Int × Int × Int × Int × Bool)} (h : RdS w ao xs) (hb : Below w.heap.size w w') : RdS w' ao xs := by
  rcases h with h | ⟨b, off, he, hc⟩
  · exact Or.inl h
  · refine Or.inr ⟨b, off, he, fun j hj => ?_⟩
    have h1 := World.block_lt_of_cell? w _ (hc j hj).1
    rw [hb.cell (p := ⟨b, off + j * 5, none⟩) h1, hb.cell (p := ⟨b, off + j * 5 + 1, none⟩) h1, hb.cell (p := ⟨b, off + j * 5 + 2, none⟩) h1, hb.cell (p := ⟨b, off + j * 5 + 3, none⟩) h1, hb.cell (p := ⟨b, off + j * 5 + 4, none⟩) h1]
    exact hc j hj
theorem RdS.get {w : World} {ao : Option Addr} {xs : List (Int × Int × Int × Int × Bool)} (h : RdS w ao xs) {k : Nat} (hk : k < xs.length) : ∃ b off, ao = some ⟨b, off, none⟩ ∧ w.cell? ⟨b, off + k * 5, none⟩ = some (.int .i64 (xs.getD k (0, 0, 0, 0, false)).1) ∧ w.cell? ⟨b, off + k * 5 + 1, none⟩ = some (.int .i64 (xs.getD k (0, 0, 0, 0, false)).2.1) ∧ w.cell? ⟨b, off + k * 5 + 2, none⟩ = some (.int .i64 (xs.getD k (0, 0, 0, 0, false)).2.2.1) ∧ w.cell? ⟨b, off + k * 5 + 3, none⟩ = some (.int .i64 (xs.getD k (0, 0, 0, 0, false)).2.2.2.1) ∧ w.cell? ⟨b, off + k * 5 + 4, none⟩ = some (.bool (xs.getD k (0, 0, 0, 0, false)).2.2.2.2) := by
  rcases h with rfl | ⟨b, o, rfl, hc⟩
  · simp at hk
  · exact ⟨b, o, rfl, hc k hk⟩
theorem OwnS.shape {w : World} {base : Nat} {v : Value} {xs : List (Int × Int × Int × Int × Bool)} (h : OwnS w base v xs) : ∃ ao cap, v = .slice ao xs.length cap := by
  obtain ⟨ao, cap, h1, _⟩ := h.rd
  exact ⟨ao, cap, h1⟩
theorem OwnS.rd' {w : World} {base n cap : Nat} {ao : Option Addr} {xs : List (Int × Int × Int × Int × Bool)} (h : OwnS w base (.slice ao n cap) xs) : xs.length = n ∧ RdS w ao xs := by
  obtain ⟨ao', cap', h1, h2⟩ := h.rd
  simp only [Value.slice.injEq] at h1
  obtain ⟨rfl, h3, _⟩ := h1
  exact ⟨h3.symm, h2⟩
theorem take_eq_succS {xs ys : List (Int × Int × Int × Int × Bool)} {k : Nat} (hx : k < xs.length) (hy : k < ys.length) (h : xs.take k = ys.take k) (e : xs.getD k (0, 0, 0, 0, false) = ys.getD k (0, 0, 0, 0, false)) : xs.take (k + 1) = ys.take (k + 1) := by
  rw [List.take_succ_eq_append_getElem hx, List.take_succ_eq_append_getElem hy, h]
  simp [List.getD, hx, hy] at e
  rw [e]
theorem own_pushS {w1 : World} {base : Nat} {v' : Value} {out : List (Int × Int × Int × Int × Bool)} {x0 : Int} {x1 : Int} {x2 : Int} {x3 : Int} {x4 : Bool} (h : w1.ownsRow base 34 5 v' (out.length + 1) (cellsS out ++ [.int .i64 x0, .int .i64 x1, .int .i64 x2, .int .i64 x3, .bool x4])) : OwnS w1 base v' (out ++ [(x0, x1, x2, x3, x4)]) := by
  unfold OwnS
  rw [show (out ++ [(x0, x1, x2, x3, x4)]).length = out.length + 1 by simp, cellsS_app]
  exact h
theorem own_block_geS {w : World} {base : Nat} {v : Value} {xs : List (Int × Int × Int × Int × Bool)} (h : OwnS w base v xs) : ∀ k, v.ownBlock = some k → base ≤ k := fun k hk => (World.ownsRow.lt h k hk).1
theorem OwnS.raw {w : World} {base : Nat} {v : Value} {xs : List (Int × Int × Int × Int × Bool)} {n : Nat} (h : OwnS w base v xs) (hn : xs.length = n) : w.ownsRow base 34 5 v n (cellsS xs) := by rw [← hn]; exact h
theorem OwnS.of {w : World} {base : Nat} {v : Value} {xs : List (Int × Int × Int × Int × Bool)} {n : Nat} (h : w.ownsRow base 34 5 v n (cellsS xs)) (hn : xs.length = n) : OwnS w base v xs := by unfold OwnS; rw [hn]; exact h

theorem eqStatementS_ne (ao bo : Option Addr) (n m c d : Nat) (w : World) (hnm : n ≠ m) (hn : n ≤ 140737488355328) (hm : m ≤ 140737488355328) :
    Calls Tryz.prog 23 #[.slice ao n c, .slice bo m d] w fun e w' => e = .returned (.bool false) ∧ w' = w := by
  have hx : ((n : Int) != (m : Int)) = true := by rw [bne_iff_ne]; omega
  go_enter Tryz.func23, Tryz.ntmps23
  go_wp2
  go_ret
  exact ⟨rfl, rfl⟩

theorem eqStatementS_nil (ao bo : Option Addr) (c d : Nat) (w : World) :
    Calls Tryz.prog 23 #[.slice ao 0 c, .slice bo 0 d] w fun e w' => e = .returned (.bool true) ∧ w' = w := by
  go_enter Tryz.func23, Tryz.ntmps23
  go_wp2
  refine wp_loop_rounds 1 ?_
  rw [rounds_succ]
  go_wp2
  go_ret
  exact ⟨rfl, rfl⟩

set_option maxHeartbeats 1000000 in
theorem eqStatementS_at (b o n c b' o' d : Nat) (xs ys : List (Int × Int × Int × Int × Bool)) (w : World) (hx : xs.length = n) (hy : ys.length = n) (hn : n ≤ 140737488355328) (hrx : RdS w (some ⟨b, o, none⟩) xs) (hry : RdS w (some ⟨b', o', none⟩) ys) :
    Calls Tryz.prog 23 #[.slice (some ⟨b, o, none⟩) n c, .slice (some ⟨b', o', none⟩) n d] w fun e w' => e = .returned (.bool (decide (xs = ys))) ∧ Below w.heap.size w w' := by
  have HX : Hid (xs.length = n) := hx
  have HY : Hid (ys.length = n) := hy
  have HRX : Hid (RdS w (some ⟨b, o, none⟩) xs) := hrx
  have HRY : Hid (RdS w (some ⟨b', o', none⟩) ys) := hry
  clear hx hy hrx hry
  go_enter Tryz.func23, Tryz.ntmps23
  go_wp2
  go_loopw [5] (fun i wr => ∃ k : Nat, k ≤ n ∧ i = .int .i64 k ∧ Hid (xs.take k = ys.take k) ∧ Hid (Below w.heap.size w wr)) (fun i _ => n - (intOf i).toNat)
  case atStart => exact ⟨0, Nat.zero_le _, rfl, rfl, Below.refl _ _⟩
  case round =>
    obtain ⟨k, hk, rfl, HT, HB⟩ := hrel
    by_cases hlt : k < n
    · have h0 : (0 : Int) ≤ (k : Int) := by omega
      have hl : (k : Int) < (n : Int) := by omega
      obtain ⟨b1, o1, hb1, g0, g1, g2, g3, g4⟩ := (HRX.out.later HB.out).get (k := k) (by rw [HX.out]; exact hlt)
      simp only [Option.some.injEq, Addr.mk.injEq] at hb1
      obtain ⟨rfl, rfl, _⟩ := hb1
      obtain ⟨b2, o2, hb2, g5, g6, g7, g8, g9⟩ := (HRY.out.later HB.out).get (k := k) (by rw [HY.out]; exact hlt)
      simp only [Option.some.injEq, Addr.mk.injEq] at hb2
      obtain ⟨rfl, rfl, _⟩ := hb2
      have H1 : Hid (xs.getD k (0, 0, 0, 0, false) = ((xs.getD k (0, 0, 0, 0, false)).1, (xs.getD k (0, 0, 0, 0, false)).2.1, (xs.getD k (0, 0, 0, 0, false)).2.2.1, (xs.getD k (0, 0, 0, 0, false)).2.2.2.1, (xs.getD k (0, 0, 0, 0, false)).2.2.2.2)) := rfl
      have H2 : Hid (ys.getD k (0, 0, 0, 0, false) = ((ys.getD k (0, 0, 0, 0, false)).1, (ys.getD k (0, 0, 0, 0, false)).2.1, (ys.getD k (0, 0, 0, 0, false)).2.2.1, (ys.getD k (0, 0, 0, 0, false)).2.2.2.1, (ys.getD k (0, 0, 0, 0, false)).2.2.2.2)) := rfl
      have hq := eqStatement_c (xs.getD k (0, 0, 0, 0, false)).1 (ys.getD k (0, 0, 0, 0, false)).1 (xs.getD k (0, 0, 0, 0, false)).2.1 (ys.getD k (0, 0, 0, 0, false)).2.1 (xs.getD k (0, 0, 0, 0, false)).2.2.1 (ys.getD k (0, 0, 0, 0, false)).2.2.1 (xs.getD k (0, 0, 0, 0, false)).2.2.2.1 (ys.getD k (0, 0, 0, 0, false)).2.2.2.1 (xs.getD k (0, 0, 0, 0, false)).2.2.2.2 (ys.getD k (0, 0, 0, 0, false)).2.2.2.2
      generalize (xs.getD k (0, 0, 0, 0, false)).1 = x0 at *
      generalize (ys.getD k (0, 0, 0, 0, false)).1 = y0 at *
      generalize (xs.getD k (0, 0, 0, 0, false)).2.1 = x1 at *
      generalize (ys.getD k (0, 0, 0, 0, false)).2.1 = y1 at *
      generalize (xs.getD k (0, 0, 0, 0, false)).2.2.1 = x2 at *
      generalize (ys.getD k (0, 0, 0, 0, false)).2.2.1 = y2 at *
      generalize (xs.getD k (0, 0, 0, 0, false)).2.2.2.1 = x3 at *
      generalize (ys.getD k (0, 0, 0, 0, false)).2.2.2.1 = y3 at *
      generalize (xs.getD k (0, 0, 0, 0, false)).2.2.2.2 = x4 at *
      generalize (ys.getD k (0, 0, 0, 0, false)).2.2.2.2 = y4 at *
      by_cases hxy : (x0, x1, x2, x3, x4) = (y0, y1, y2, y3, y4)
      · have HXY : Hid ((x0, x1, x2, x3, x4) = (y0, y1, y2, y3, y4)) := hxy
        rw [decide_eq_true hxy] at hq
        have HQ : Hid (∀ w, Calls Tryz.prog 56 #[.agg #[.int .i64 x0, .int .i64 x1, .int .i64 x2, .int .i64 x3, .bool x4], .agg #[.int .i64 y0, .int .i64 y1, .int .i64 y2, .int .i64 y3, .bool y4]] w fun e w' => e = .returned (.bool true) ∧ Below w.heap.size w w') := hq
        clear hxy hq
        go_wp2_with fail
        have HBd : Hid (Below w.heap.size w wr.drew) := HB.out.drew
        go_region_held3 (fun w' => w'.cell? ⟨b, o + k * 5, none⟩ = some (.int .i64 x0) ∧ w'.cell? ⟨b, o + k * 5 + 1, none⟩ = some (.int .i64 x1) ∧ w'.cell? ⟨b, o + k * 5 + 2, none⟩ = some (.int .i64 x2) ∧ w'.cell? ⟨b, o + k * 5 + 3, none⟩ = some (.int .i64 x3) ∧ w'.cell? ⟨b, o + k * 5 + 4, none⟩ = some (.bool x4) ∧ w'.cell? ⟨b', o' + k * 5, none⟩ = some (.int .i64 y0) ∧ w'.cell? ⟨b', o' + k * 5 + 1, none⟩ = some (.int .i64 y1) ∧ w'.cell? ⟨b', o' + k * 5 + 2, none⟩ = some (.int .i64 y2) ∧ w'.cell? ⟨b', o' + k * 5 + 3, none⟩ = some (.int .i64 y3) ∧ w'.cell? ⟨b', o' + k * 5 + 4, none⟩ = some (.bool y4)) (first | go_keep) (first
          | (go_at_call 56; refine (HQ.out _).mono ?_; rintro e w1 ⟨rfl, hb1⟩; have k0 := cell_keep (S := 0) (w1 := wr.drew) hb1 g0; have k1 := cell_keep (S := 0) (w1 := wr.drew) hb1 g1; have k2 := cell_keep (S := 0) (w1 := wr.drew) hb1 g2; have k3 := cell_keep (S := 0) (w1 := wr.drew) hb1 g3; have k4 := cell_keep (S := 0) (w1 := wr.drew) hb1 g4; have k5 := cell_keep (S := 0) (w1 := wr.drew) hb1 g5; have k6 := cell_keep (S := 0) (w1 := wr.drew) hb1 g6; have k7 := cell_keep (S := 0) (w1 := wr.drew) hb1 g7; have k8 := cell_keep (S := 0) (w1 := wr.drew) hb1 g8; have k9 := cell_keep (S := 0) (w1 := wr.drew) hb1 g9; have HB1 : Hid (Below w.heap.size w w1) := HBd.out.trans (hb1.mono HBd.out.size); clear hb1))
        all_goals go_wp2
        all_goals go_roundw
        case rel => exact ⟨k + 1, by omega, by go_num, take_eq_succS (by rw [HX.out]; omega) (by rw [HY.out]; omega) HT.out (by rw [H1.out, H2.out]; exact HXY.out), HB1⟩
        case measure => simp [intOf]; omega
      · have HXY : Hid ((x0, x1, x2, x3, x4) ≠ (y0, y1, y2, y3, y4)) := hxy
        rw [decide_eq_false hxy] at hq
        have HQ : Hid (∀ w, Calls Tryz.prog 56 #[.agg #[.int .i64 x0, .int .i64 x1, .int .i64 x2, .int .i64 x3, .bool x4], .agg #[.int .i64 y0, .int .i64 y1, .int .i64 y2, .int .i64 y3, .bool y4]] w fun e w' => e = .returned (.bool false) ∧ Below w.heap.size w w') := hq
        clear hxy hq
        go_wp2_with fail
        have HBd : Hid (Below w.heap.size w wr.drew) := HB.out.drew
        go_region_held3 (fun w' => w'.cell? ⟨b, o + k * 5, none⟩ = some (.int .i64 x0) ∧ w'.cell? ⟨b, o + k * 5 + 1, none⟩ = some (.int .i64 x1) ∧ w'.cell? ⟨b, o + k * 5 + 2, none⟩ = some (.int .i64 x2) ∧ w'.cell? ⟨b, o + k * 5 + 3, none⟩ = some (.int .i64 x3) ∧ w'.cell? ⟨b, o + k * 5 + 4, none⟩ = some (.bool x4) ∧ w'.cell? ⟨b', o' + k * 5, none⟩ = some (.int .i64 y0) ∧ w'.cell? ⟨b', o' + k * 5 + 1, none⟩ = some (.int .i64 y1) ∧ w'.cell? ⟨b', o' + k * 5 + 2, none⟩ = some (.int .i64 y2) ∧ w'.cell? ⟨b', o' + k * 5 + 3, none⟩ = some (.int .i64 y3) ∧ w'.cell? ⟨b', o' + k * 5 + 4, none⟩ = some (.bool y4)) (first | go_keep) (first
          | (go_at_call 56; refine (HQ.out _).mono ?_; rintro e w1 ⟨rfl, hb1⟩; have k0 := cell_keep (S := 0) (w1 := wr.drew) hb1 g0; have k1 := cell_keep (S := 0) (w1 := wr.drew) hb1 g1; have k2 := cell_keep (S := 0) (w1 := wr.drew) hb1 g2; have k3 := cell_keep (S := 0) (w1 := wr.drew) hb1 g3; have k4 := cell_keep (S := 0) (w1 := wr.drew) hb1 g4; have k5 := cell_keep (S := 0) (w1 := wr.drew) hb1 g5; have k6 := cell_keep (S := 0) (w1 := wr.drew) hb1 g6; have k7 := cell_keep (S := 0) (w1 := wr.drew) hb1 g7; have k8 := cell_keep (S := 0) (w1 := wr.drew) hb1 g8; have k9 := cell_keep (S := 0) (w1 := wr.drew) hb1 g9; have HB1 : Hid (Below w.heap.size w w1) := HBd.out.trans (hb1.mono HBd.out.size); clear hb1))
        all_goals go_wp2
        all_goals go_ret
        all_goals refine ⟨?_, HB1.out⟩
        all_goals have : xs ≠ ys := fun e => HXY.out (by rw [← H1.out, ← H2.out, e])
        all_goals simp [this]
    · go_wp2
      go_ret
      refine ⟨?_, HB.out⟩
      have e : xs = ys := by
        have := HT.out
        rwa [List.take_of_length_le (by rw [HX.out]; omega), List.take_of_length_le (by rw [HY.out]; omega)] at this
      simp [e]

theorem eqStatementS_c (ao bo : Option Addr) (n m c d : Nat) (xs ys : List (Int × Int × Int × Int × Bool)) (w : World) (hx : xs.length = n) (hy : ys.length = m) (hn : n ≤ 17592186044416) (hm : m ≤ 17592186044416) (hr : RdS w ao xs) (hs : RdS w bo ys) :
    Calls Tryz.prog 23 #[.slice ao n c, .slice bo m d] w fun e w' => e = .returned (.bool (decide (xs = ys))) ∧ Below w.heap.size w w' := by
  by_cases hnm : n = m
  · subst hnm
    by_cases h0 : n = 0
    · subst h0
      have e1 : xs = [] := List.length_eq_zero_iff.1 hx
      have e2 : ys = [] := List.length_eq_zero_iff.1 hy
      subst e1 e2
      refine (eqStatementS_nil ao bo c d w).mono ?_
      rintro e w' ⟨rfl, rfl⟩
      exact ⟨by simp, Below.refl _ _⟩
    · obtain ⟨b, o, rfl, _⟩ := hr.get (k := 0) (by omega)
      obtain ⟨b', o', rfl, _⟩ := hs.get (k := 0) (by omega)
      exact eqStatementS_at b o n c b' o' d xs ys w hx hy (by omega) hr hs
  · refine (eqStatementS_ne ao bo n m c d w hnm (by omega) (by omega)).mono ?_
    rintro e w' ⟨rfl, rfl⟩
    refine ⟨?_, Below.refl _ _⟩
    have : xs ≠ ys := fun e => hnm (by rw [← hx, ← hy, e])
    simp [this]

theorem madeS : ∀ n : Nat, (madeCells (Value.agg #[.int .i64 0, .int .i64 0, .int .i64 0, .int .i64 0, .bool false]).cells (n * 5)).toList = cellsS (List.replicate n (0, 0, 0, 0, false)) := by
  intro n
  have hl : (cellsS (List.replicate n (0, 0, 0, 0, false))).length = n * 5 := by rw [cellsS_length, List.length_replicate]
  refine List.ext_getElem? fun j => ?_
  by_cases hjn : j < n * 5
  · have hj : j / 5 < n := by omega
    have hc := cellsS_at (List.replicate n (0, 0, 0, 0, false)) (j / 5) (by simpa using hj)
    have e0 : (List.replicate n ((0 : Int), (0 : Int), (0 : Int), (0 : Int), (false : Bool))).getD (j / 5) (0, 0, 0, 0, false) = (0, 0, 0, 0, false) := by simp [List.getD, hj]
    rw [e0] at hc
    have hm : (madeCells (Value.agg #[.int .i64 0, .int .i64 0, .int .i64 0, .int .i64 0, .bool false]).cells (n * 5)).toList[j]? = some (#[.int .i64 0, .int .i64 0, .int .i64 0, .int .i64 0, .bool false][j % 5]!) := by
      rw [Array.getElem?_toList]
      simp only [madeCells, Array.getElem?_map]
      rw [Array.getElem?_range]
      rw [if_pos hjn]
      rfl
    rw [hm]
    rcases (by omega : j % 5 = 0 ∨ j % 5 = 1 ∨ j % 5 = 2 ∨ j % 5 = 3 ∨ j % 5 = 4) with h | h | h | h | h
    · have h2 := hc.1
      rw [show j / 5 * 5 = j by omega] at h2
      rw [h2, h]; rfl
    · have h2 := hc.2.1
      rw [show j / 5 * 5 + 1 = j by omega] at h2
      rw [h2, h]; rfl
    · have h2 := hc.2.2.1
      rw [show j / 5 * 5 + 2 = j by omega] at h2
      rw [h2, h]; rfl
    · have h2 := hc.2.2.2.1
      rw [show j / 5 * 5 + 3 = j by omega] at h2
      rw [h2, h]; rfl
    · have h2 := hc.2.2.2.2
      rw [show j / 5 * 5 + 4 = j by omega] at h2
      rw [h2, h]; rfl
  · rw [List.getElem?_eq_none (by rw [Array.length_toList, size_madeCells]; omega), List.getElem?_eq_none (by omega)]

set_option maxHeartbeats 1000000 in
theorem toStatementS_at (b o n c : Nat) (xs : List (Int × Int × Int × Int × Bool)) (w : World) (hx : xs.length = n) (hn : n ≤ 1048576) (hrx : RdS w (some ⟨b, o, none⟩) xs) :
    Calls Tryz.prog 20 #[.slice (some ⟨b, o, none⟩) n c] w fun e w' => ∃ v, e = .returned v ∧ OwnS w' w.heap.size v xs ∧ Below w.heap.size w w' := by
  obtain ⟨i0, hi, hz0, hz1, hz2⟩ := info_parts Tryz.infoStatement
  have HX : Hid (xs.length = n) := hx
  have HRX : Hid (RdS w (some ⟨b, o, none⟩) xs) := hrx
  clear hx hrx
  go_enter Tryz.func20, Tryz.ntmps20
  go_wp2_with (at_make; refine wpList_make_full _ rfl _ _ 24 rfl w.heap.size 34 i0 (.agg #[.int .i64 0, .int .i64 0, .int .i64 0, .int .i64 0, .bool false]) 5 Tryz.underlying24 hi hz0 hz1 _ _ _ _ n rfl rfl rfl rfl (by rw [hz2]; omega) (by unfold maxLen; omega) (Nat.le_refl _) ?_; intro w0 hown0 hgrow0)
  have hb0 : Below w.heap.size w w0 := (Below.refl _ _).grown hgrow0 (Nat.le_refl _) (fun k h => by cases h)
  have HO : Hid (∃ ys : List (Int × Int × Int × Int × Bool), ys.length = n ∧ ys.take 0 = xs.take 0 ∧ w0.ownsRow w.heap.size 34 5 (.slice (some ⟨w.heap.size, 0, none⟩) n n) n (cellsS ys)) := ⟨List.replicate n (0, 0, 0, 0, false), by simp, by simp, by
    rw [← madeS]; exact hown0⟩
  clear hown0 hgrow0
  go_wp2
  go_loopw [4] (fun i wr => ∃ k : Nat, k ≤ n ∧ i = .int .i64 k ∧ Hid (∃ ys : List (Int × Int × Int × Int × Bool), ys.length = n ∧ ys.take k = xs.take k ∧ wr.ownsRow w.heap.size 34 5 (.slice (some ⟨w.heap.size, 0, none⟩) n n) n (cellsS ys)) ∧ Hid (Below w.heap.size w wr)) (fun i _ => n - (intOf i).toNat)
  case atStart => exact ⟨0, Nat.zero_le _, rfl, HO, hb0⟩
  case round =>
    clear HO hb0
    obtain ⟨k, hk, rfl, hO, hbel⟩ := hrel
    by_cases hlt : k < n
    · obtain ⟨ys, hyl, hyt, hyo⟩ := hO.out
      clear hO
      obtain ⟨b1, o1, hb1, g0, g1, g2, g3, g4⟩ := (HRX.out.later hbel.out).get (k := k) (by rw [HX.out]; exact hlt)
      simp only [Option.some.injEq, Addr.mk.injEq] at hb1
      obtain ⟨rfl, rfl, _⟩ := hb1
      have HE : Hid (xs.getD k (0, 0, 0, 0, false) = ((xs.getD k (0, 0, 0, 0, false)).1, (xs.getD k (0, 0, 0, 0, false)).2.1, (xs.getD k (0, 0, 0, 0, false)).2.2.1, (xs.getD k (0, 0, 0, 0, false)).2.2.2.1, (xs.getD k (0, 0, 0, 0, false)).2.2.2.2)) := rfl
      generalize (xs.getD k (0, 0, 0, 0, false)).1 = x0 at *
      generalize (xs.getD k (0, 0, 0, 0, false)).2.1 = x1 at *
      generalize (xs.getD k (0, 0, 0, 0, false)).2.2.1 = x2 at *
      generalize (xs.getD k (0, 0, 0, 0, false)).2.2.2.1 = x3 at *
      generalize (xs.getD k (0, 0, 0, 0, false)).2.2.2.2 = x4 at *
      have HY : Hid (ys.length = n ∧ ys.take k = xs.take k ∧ wr.ownsRow w.heap.size 34 5 (.slice (some ⟨w.heap.size, 0, none⟩) n n) n (cellsS ys)) := ⟨hyl, hyt, hyo⟩
      clear hyl hyt hyo
      go_wp2_with fail
      refine (toStatement_c x0 x1 x2 x3 x4 _).mono ?_
      rintro e w1 ⟨rfl, hb1⟩
      have hO1 : w1.ownsRow w.heap.size 34 5 (.slice (some ⟨w.heap.size, 0, none⟩) n n) n (cellsS ys) := ((OwnS.of HY.out.2.2 HY.out.1).later hb1).raw HY.out.1
      have c1 := cellsS_at ys k (by rw [HY.out.1]; exact hlt)
      have d0 : w1.cell? ⟨w.heap.size, k * 5, none⟩ = some (.int .i64 (ys.getD k (0, 0, 0, 0, false)).1) := by rw [World.ownsRow.cellAt hO1 (k * 5) (by omega)]; exact c1.1
      have f0 : w1.frozen? ⟨w.heap.size, k * 5, none⟩ = false := World.ownsRow.frozenAt hO1 _
      have d1 : w1.cell? ⟨w.heap.size, k * 5 + 1, none⟩ = some (.int .i64 (ys.getD k (0, 0, 0, 0, false)).2.1) := by rw [World.ownsRow.cellAt hO1 (k * 5 + 1) (by omega)]; exact c1.2.1
      have f1 : w1.frozen? ⟨w.heap.size, k * 5 + 1, none⟩ = false := World.ownsRow.frozenAt hO1 _
      have d2 : w1.cell? ⟨w.heap.size, k * 5 + 2, none⟩ = some (.int .i64 (ys.getD k (0, 0, 0, 0, false)).2.2.1) := by rw [World.ownsRow.cellAt hO1 (k * 5 + 2) (by omega)]; exact c1.2.2.1
      have f2 : w1.frozen? ⟨w.heap.size, k * 5 + 2, none⟩ = false := World.ownsRow.frozenAt hO1 _
      have d3 : w1.cell? ⟨w.heap.size, k * 5 + 3, none⟩ = some (.int .i64 (ys.getD k (0, 0, 0, 0, false)).2.2.2.1) := by rw [World.ownsRow.cellAt hO1 (k * 5 + 3) (by omega)]; exact c1.2.2.2.1
      have f3 : w1.frozen? ⟨w.heap.size, k * 5 + 3, none⟩ = false := World.ownsRow.frozenAt hO1 _
      have d4 : w1.cell? ⟨w.heap.size, k * 5 + 4, none⟩ = some (.bool (ys.getD k (0, 0, 0, 0, false)).2.2.2.2) := by rw [World.ownsRow.cellAt hO1 (k * 5 + 4) (by omega)]; exact c1.2.2.2.2
      have f4 : w1.frozen? ⟨w.heap.size, k * 5 + 4, none⟩ = false := World.ownsRow.frozenAt hO1 _
      have HB1 : Hid (Below w.heap.size w w1) := hbel.out.trans (hb1.mono hbel.out.size)
      have HO1 : Hid (w1.ownsRow w.heap.size 34 5 (.slice (some ⟨w.heap.size, 0, none⟩) n n) n (cellsS ys)) := hO1
      generalize (ys.getD k (0, 0, 0, 0, false)).1 = z0 at d0
      generalize (ys.getD k (0, 0, 0, 0, false)).2.1 = z1 at d1
      generalize (ys.getD k (0, 0, 0, 0, false)).2.2.1 = z2 at d2
      generalize (ys.getD k (0, 0, 0, 0, false)).2.2.2.1 = z3 at d3
      generalize (ys.getD k (0, 0, 0, 0, false)).2.2.2.2 = z4 at d4
      clear hO1 c1 hb1 g0 g1 g2 g3 g4
      go_wp2
      go_roundw
      case rel =>
        have hst := (World.ownsRow.stored (World.ownsRow.stored (World.ownsRow.stored (World.ownsRow.stored (World.ownsRow.stored HO1.out (k * 5) (.int .i64 x0)).1 (k * 5 + 1) (.int .i64 x1)).1 (k * 5 + 2) (.int .i64 x2)).1 (k * 5 + 3) (.int .i64 x3)).1 (k * 5 + 4) (.bool x4)).1
        rw [cellsS_set] at hst
        refine ⟨k + 1, by omega, by go_num, ⟨ys.set k (x0, x1, x2, x3, x4), by simpa using HY.out.1, ?_, hst⟩, (((((HB1.out.setCell (Nat.le_refl _) _).setCell (Nat.le_refl _) _).setCell (Nat.le_refl _) _).setCell (Nat.le_refl _) _).setCell (Nat.le_refl _) _)⟩
        refine take_eq_succS (by simp; rw [HY.out.1]; omega) (by rw [HX.out]; omega) ?_ ?_
        · rw [List.take_set_of_le (Nat.le_refl _)]; exact HY.out.2.1
        · rw [HE.out]; simp [List.getD, show k < ys.length by rw [HY.out.1]; omega]
      case measure => simp [intOf]; omega
    · go_wp2
      go_ret
      obtain ⟨ys, hyl, hyt, hyo⟩ := hO.out
      have e : ys = xs := by
        rwa [List.take_of_length_le (by omega), List.take_of_length_le (by rw [HX.out]; omega)] at hyt
      subst e
      exact ⟨_, rfl, OwnS.of hyo hyl, hbel.out⟩

theorem toStatementS_nil (ao : Option Addr) (c : Nat) (w : World) :
    Calls Tryz.prog 20 #[.slice ao 0 c] w fun e w' => ∃ v, e = .returned v ∧ OwnS w' w.heap.size v [] ∧ Below w.heap.size w w' := by
  obtain ⟨i0, hi, hz0, hz1, hz2⟩ := info_parts Tryz.infoStatement
  go_enter Tryz.func20, Tryz.ntmps20
  go_wp2_with (at_make; refine wpList_make_full _ rfl _ _ 24 rfl w.heap.size 34 i0 (.agg #[.int .i64 0, .int .i64 0, .int .i64 0, .int .i64 0, .bool false]) 5 Tryz.underlying24 hi hz0 hz1 _ _ _ _ 0 rfl rfl rfl rfl (by rw [hz2]; omega) (by unfold maxLen; omega) (Nat.le_refl _) ?_; intro w0 hown0 hgrow0)
  have hb0 : Below w.heap.size w w0 := (Below.refl _ _).grown hgrow0 (Nat.le_refl _) (fun k h => by cases h)
  refine wp_loop_rounds 1 ?_
  rw [rounds_succ]
  go_wp2
  go_ret
  exact ⟨_, rfl, by simpa [OwnS, cellsS, madeCells] using hown0, hb0⟩

theorem toStatementS_c (ao : Option Addr) (n c : Nat) (xs : List (Int × Int × Int × Int × Bool)) (w : World) (hx : xs.length = n) (hn : n ≤ 1048576) (hr : RdS w ao xs) :
    Calls Tryz.prog 20 #[.slice ao n c] w fun e w' => ∃ a' c', e = .returned (.slice a' n c') ∧ OwnS w' w.heap.size (.slice a' n c') xs ∧ Below w.heap.size w w' := by
  have h : Calls Tryz.prog 20 #[.slice ao n c] w fun e w' => ∃ v, e = .returned v ∧ OwnS w' w.heap.size v xs ∧ Below w.heap.size w w' := by
    by_cases h0 : n = 0
    · subst h0
      have e1 : xs = [] := List.length_eq_zero_iff.1 hx
      subst e1
      exact toStatementS_nil _ _ _
    · obtain ⟨b, o, rfl, _⟩ := hr.get (k := 0) (by omega)
      exact toStatementS_at b o n c xs w hx hn hr
  refine h.mono ?_
  rintro e w' ⟨v, rfl, ho, hb⟩
  obtain ⟨a', c', hv⟩ := ho.shape
  rw [hx] at hv
  subst hv
  exact ⟨a', c', rfl, ho, hb⟩

/-- The marks of a row of n. -/
def marksS (k n : Nat) : List (Int × Int × Int × Int × Bool) := (List.range n).map (fun j : Nat => (((k + 5 * j : Nat) : Int), ((k + 5 * j + 1 : Nat) : Int), ((k + 5 * j + 2 : Nat) : Int), ((k + 5 * j + 3 : Nat) : Int), (((k + 5 * j + 4 : Nat) : Int) % 3 == 0)))
theorem marksS_length (k n : Nat) : (marksS k n).length = n := by simp [marksS]
theorem marksS_getD (k n j : Nat) (h : j < n) : (marksS k n).getD j (0, 0, 0, 0, false) = (((k + 5 * j : Nat) : Int), ((k + 5 * j + 1 : Nat) : Int), ((k + 5 * j + 2 : Nat) : Int), ((k + 5 * j + 3 : Nat) : Int), (((k + 5 * j + 4 : Nat) : Int) % 3 == 0)) := by simp [marksS, List.getD, h]
theorem marksS_of (k n : Nat) (ys : List (Int × Int × Int × Int × Bool)) (hl : ys.length = n) (h : ∀ j : Nat, j < n → ys.getD j (0, 0, 0, 0, false) = (((k + 5 * j : Nat) : Int), ((k + 5 * j + 1 : Nat) : Int), ((k + 5 * j + 2 : Nat) : Int), ((k + 5 * j + 3 : Nat) : Int), (((k + 5 * j + 4 : Nat) : Int) % 3 == 0))) : ys = marksS k n := by
  refine List.ext_getElem (by rw [hl, marksS_length]) fun j h1 h2 => ?_
  have e1 := h j (by omega)
  have e2 := marksS_getD k n j (by omega)
  rw [List.getD, List.getElem?_eq_getElem h1, Option.getD_some] at e1
  rw [List.getD, List.getElem?_eq_getElem h2, Option.getD_some] at e2
  rw [e1, e2]

set_option maxHeartbeats 2000000 in
theorem markStatementS_at (g n c k : Nat) (base : Nat) (xs : List (Int × Int × Int × Int × Bool)) (w : World) (hn : n ≤ 1048576) (hx : xs.length = n) (h1 : k ≤ 17592186044416) (ho : OwnS w base (.slice (some ⟨g, 0, none⟩) n c) xs) :
    Calls Tryz.prog 25 #[.slice (some ⟨g, 0, none⟩) n c, .int .i64 k] w fun e w' => e = .returned (.int .i64 ((k + 5 * n : Nat) : Int)) ∧ OwnS w' base (.slice (some ⟨g, 0, none⟩) n c) (marksS k n) ∧ w.grownBy w' (some g) := by
  have HO : Hid (∃ ys : List (Int × Int × Int × Int × Bool), ys.length = n ∧ (∀ j : Nat, j < 0 → ys.getD j (0, 0, 0, 0, false) = (((k + 5 * j : Nat) : Int), ((k + 5 * j + 1 : Nat) : Int), ((k + 5 * j + 2 : Nat) : Int), ((k + 5 * j + 3 : Nat) : Int), (((k + 5 * j + 4 : Nat) : Int) % 3 == 0))) ∧ w.ownsRow base 34 5 (.slice (some ⟨g, 0, none⟩) n c) n (cellsS ys)) := ⟨xs, hx, fun j h => absurd h (by omega), ho.raw hx⟩
  clear ho hx
  go_enter Tryz.func25, Tryz.ntmps25
  go_wp2
  go_loopw [1, 5] (fun q i wr => ∃ p : Nat, p ≤ n ∧ i = .int .i64 p ∧ q = .int .i64 ((k + 5 * p : Nat) : Int) ∧ Hid (∃ ys : List (Int × Int × Int × Int × Bool), ys.length = n ∧ (∀ j : Nat, j < p → ys.getD j (0, 0, 0, 0, false) = (((k + 5 * j : Nat) : Int), ((k + 5 * j + 1 : Nat) : Int), ((k + 5 * j + 2 : Nat) : Int), ((k + 5 * j + 3 : Nat) : Int), (((k + 5 * j + 4 : Nat) : Int) % 3 == 0))) ∧ wr.ownsRow base 34 5 (.slice (some ⟨g, 0, none⟩) n c) n (cellsS ys)) ∧ Hid (w.grownBy wr (some g))) (fun _ i _ => n - (intOf i).toNat)
  case atStart => exact ⟨0, Nat.zero_le _, rfl, by go_num, HO, World.grownBy.refl _ _⟩
  case round =>
    clear HO
    obtain ⟨p, hp, rfl, rfl, hO, hgr⟩ := hrel
    by_cases hlt : p < n
    · obtain ⟨ys, hyl, hyt, hyo⟩ := hO.out
      clear hO
      have HYL : Hid (ys.length = n) := hyl
      have HYT : Hid (∀ j : Nat, j < p → ys.getD j (0, 0, 0, 0, false) = (((k + 5 * j : Nat) : Int), ((k + 5 * j + 1 : Nat) : Int), ((k + 5 * j + 2 : Nat) : Int), ((k + 5 * j + 3 : Nat) : Int), (((k + 5 * j + 4 : Nat) : Int) % 3 == 0))) := hyt
      obtain ⟨z, hz⟩ : ∃ z : Nat, z = k + 5 * p := ⟨_, rfl⟩
      rw [← hz]
      have HZ : Hid (z = k + 5 * p) := hz
      have hz1 : z ≤ 35184372088832 := by omega
      have c1 := cellsS_at ys p (by omega)
      have HO_0 : Hid (wr.ownsRow base 34 5 (.slice (some ⟨g, 0, none⟩) n c) n (cellsS ys)) := hyo
      have HG_0 : Hid (w.grownBy wr (some g)) := hgr.out
      clear hyl hyt hgr hz hyo
      have d0 : wr.cell? ⟨g, p * 5, none⟩ = some (.int .i64 (ys.getD p (0, 0, 0, 0, false)).1) := by rw [World.ownsRow.cellAt HO_0.out (p * 5) (by omega)]; exact c1.1
      have f0 : wr.frozen? ⟨g, p * 5, none⟩ = false := World.ownsRow.frozenAt HO_0.out _
      generalize (ys.getD p (0, 0, 0, 0, false)).1 = u0 at d0
      have st0 := World.ownsRow.stored HO_0.out (p * 5) (.int .i64 ((z : Int)))
      obtain ⟨V0, hV0⟩ : ∃ V, wr.setCell ⟨g, p * 5, none⟩ (.int .i64 ((z : Int))) = V := ⟨_, rfl⟩
      rw [hV0] at st0
      have HO_1 : Hid (V0.ownsRow base 34 5 (.slice (some ⟨g, 0, none⟩) n c) n ((cellsS ys).set (p * 5) (.int .i64 ((z : Int))))) := st0.1
      have HG_1 : Hid (w.grownBy V0 (some g)) := grown_trans HG_0.out st0.2
      clear st0
      have d1 : V0.cell? ⟨g, p * 5 + 1, none⟩ = some (.int .i64 (ys.getD p (0, 0, 0, 0, false)).2.1) := by rw [World.ownsRow.cellAt HO_1.out (p * 5 + 1) (by omega)]; rw [List.getElem?_set_ne (by omega)]; exact c1.2.1
      have f1 : V0.frozen? ⟨g, p * 5 + 1, none⟩ = false := World.ownsRow.frozenAt HO_1.out _
      generalize (ys.getD p (0, 0, 0, 0, false)).2.1 = u1 at d1
      have st1 := World.ownsRow.stored HO_1.out (p * 5 + 1) (.int .i64 ((z : Int) + 1))
      obtain ⟨V1, hV1⟩ : ∃ V, V0.setCell ⟨g, p * 5 + 1, none⟩ (.int .i64 ((z : Int) + 1)) = V := ⟨_, rfl⟩
      rw [hV1] at st1
      have HO_2 : Hid (V1.ownsRow base 34 5 (.slice (some ⟨g, 0, none⟩) n c) n (((cellsS ys).set (p * 5) (.int .i64 ((z : Int)))).set (p * 5 + 1) (.int .i64 ((z : Int) + 1)))) := st1.1
      have HG_2 : Hid (w.grownBy V1 (some g)) := grown_trans HG_1.out st1.2
      clear st1
      have d2 : V1.cell? ⟨g, p * 5 + 2, none⟩ = some (.int .i64 (ys.getD p (0, 0, 0, 0, false)).2.2.1) := by rw [World.ownsRow.cellAt HO_2.out (p * 5 + 2) (by omega)]; rw [List.getElem?_set_ne (by omega)]; rw [List.getElem?_set_ne (by omega)]; exact c1.2.2.1
      have f2 : V1.frozen? ⟨g, p * 5 + 2, none⟩ = false := World.ownsRow.frozenAt HO_2.out _
      generalize (ys.getD p (0, 0, 0, 0, false)).2.2.1 = u2 at d2
      have st2 := World.ownsRow.stored HO_2.out (p * 5 + 2) (.int .i64 ((z : Int) + 1 + 1))
      obtain ⟨V2, hV2⟩ : ∃ V, V1.setCell ⟨g, p * 5 + 2, none⟩ (.int .i64 ((z : Int) + 1 + 1)) = V := ⟨_, rfl⟩
      rw [hV2] at st2
      have HO_3 : Hid (V2.ownsRow base 34 5 (.slice (some ⟨g, 0, none⟩) n c) n ((((cellsS ys).set (p * 5) (.int .i64 ((z : Int)))).set (p * 5 + 1) (.int .i64 ((z : Int) + 1))).set (p * 5 + 2) (.int .i64 ((z : Int) + 1 + 1)))) := st2.1
      have HG_3 : Hid (w.grownBy V2 (some g)) := grown_trans HG_2.out st2.2
      clear st2
      have d3 : V2.cell? ⟨g, p * 5 + 3, none⟩ = some (.int .i64 (ys.getD p (0, 0, 0, 0, false)).2.2.2.1) := by rw [World.ownsRow.cellAt HO_3.out (p * 5 + 3) (by omega)]; rw [List.getElem?_set_ne (by omega)]; rw [List.getElem?_set_ne (by omega)]; rw [List.getElem?_set_ne (by omega)]; exact c1.2.2.2.1
      have f3 : V2.frozen? ⟨g, p * 5 + 3, none⟩ = false := World.ownsRow.frozenAt HO_3.out _
      generalize (ys.getD p (0, 0, 0, 0, false)).2.2.2.1 = u3 at d3
      have st3 := World.ownsRow.stored HO_3.out (p * 5 + 3) (.int .i64 ((z : Int) + 1 + 1 + 1))
      obtain ⟨V3, hV3⟩ : ∃ V, V2.setCell ⟨g, p * 5 + 3, none⟩ (.int .i64 ((z : Int) + 1 + 1 + 1)) = V := ⟨_, rfl⟩
      rw [hV3] at st3
      have HO_4 : Hid (V3.ownsRow base 34 5 (.slice (some ⟨g, 0, none⟩) n c) n (((((cellsS ys).set (p * 5) (.int .i64 ((z : Int)))).set (p * 5 + 1) (.int .i64 ((z : Int) + 1))).set (p * 5 + 2) (.int .i64 ((z : Int) + 1 + 1))).set (p * 5 + 3) (.int .i64 ((z : Int) + 1 + 1 + 1)))) := st3.1
      have HG_4 : Hid (w.grownBy V3 (some g)) := grown_trans HG_3.out st3.2
      clear st3
      have d4 : V3.cell? ⟨g, p * 5 + 4, none⟩ = some (.bool (ys.getD p (0, 0, 0, 0, false)).2.2.2.2) := by rw [World.ownsRow.cellAt HO_4.out (p * 5 + 4) (by omega)]; rw [List.getElem?_set_ne (by omega)]; rw [List.getElem?_set_ne (by omega)]; rw [List.getElem?_set_ne (by omega)]; rw [List.getElem?_set_ne (by omega)]; exact c1.2.2.2.2
      have f4 : V3.frozen? ⟨g, p * 5 + 4, none⟩ = false := World.ownsRow.frozenAt HO_4.out _
      generalize (ys.getD p (0, 0, 0, 0, false)).2.2.2.2 = u4 at d4
      have st4 := World.ownsRow.stored HO_4.out (p * 5 + 4) (.bool (((z : Int) + 1 + 1 + 1 + 1) % 3 == 0))
      obtain ⟨V4, hV4⟩ : ∃ V, V3.setCell ⟨g, p * 5 + 4, none⟩ (.bool (((z : Int) + 1 + 1 + 1 + 1) % 3 == 0)) = V := ⟨_, rfl⟩
      rw [hV4] at st4
      have HO_5 : Hid (V4.ownsRow base 34 5 (.slice (some ⟨g, 0, none⟩) n c) n ((((((cellsS ys).set (p * 5) (.int .i64 ((z : Int)))).set (p * 5 + 1) (.int .i64 ((z : Int) + 1))).set (p * 5 + 2) (.int .i64 ((z : Int) + 1 + 1))).set (p * 5 + 3) (.int .i64 ((z : Int) + 1 + 1 + 1))).set (p * 5 + 4) (.bool (((z : Int) + 1 + 1 + 1 + 1) % 3 == 0)))) := st4.1
      have HG_5 : Hid (w.grownBy V4 (some g)) := grown_trans HG_4.out st4.2
      clear st4
      go_wp2
      go_roundw
      case rel =>
        refine ⟨p + 1, by omega, by go_num, by have := HZ.out; go_num, ⟨ys.set p ((z : Int), (z : Int) + 1, (z : Int) + 1 + 1, (z : Int) + 1 + 1 + 1, (((z : Int) + 1 + 1 + 1 + 1) % 3 == 0)), by simpa using HYL.out, fun j hj => ?_, by have h := HO_5.out; rw [cellsS_set] at h; exact h⟩, HG_5⟩
        by_cases e : j = p
        · subst e
          rw [List.getD, List.getElem?_set_self (by rw [HYL.out]; omega), Option.getD_some, ← HZ.out]
          try simp
          try omega
          try (rw [show (z : Int) + 1 + 1 = (z : Int) + 2 by omega, show (z : Int) + 2 + 1 = (z : Int) + 3 by omega, show (z : Int) + 3 + 1 = (z : Int) + 4 by omega]; exact ⟨rfl, rfl, rfl⟩)
        · rw [← HYT.out j (by omega)]; simp [List.getD, List.getElem?_set, show p ≠ j by omega]
      case measure => simp [intOf]; omega
    · go_wp2
      go_ret
      obtain ⟨ys, hyl, hyt, hyo⟩ := hO.out
      obtain rfl : p = n := by omega
      have e := marksS_of k p ys hyl hyt
      subst e
      exact ⟨rfl, OwnS.of hyo (marksS_length _ _), hgr.out⟩

theorem markStatementS_nil (ao : Option Addr) (c : Nat) (k : Int) (w : World) :
    Calls Tryz.prog 25 #[.slice ao 0 c, .int .i64 k] w fun e w' => e = .returned (.int .i64 k) ∧ w' = w := by
  go_enter Tryz.func25, Tryz.ntmps25
  go_wp2
  refine wp_loop_rounds 1 ?_
  rw [rounds_succ]
  go_wp2
  go_ret
  exact ⟨rfl, rfl⟩

/-- A mark over a row of the call's own: the row holds the marks, nothing else has turned. -/
theorem markStatementS_c (ao : Option Addr) (n c k : Nat) (base : Nat) (xs : List (Int × Int × Int × Int × Bool)) (w : World) (hn : n ≤ 1048576) (h1 : k ≤ 17592186044416) (ho : OwnS w base (.slice ao n c) xs) :
    Calls Tryz.prog 25 #[.slice ao n c, .int .i64 k] w fun e w' => e = .returned (.int .i64 ((k + 5 * n : Nat) : Int)) ∧ OwnS w' base (.slice ao n c) (marksS k n) ∧ w.grownBy w' (Value.slice ao n c).ownBlock := by
  have hx := ho.rd'.1
  rcases ho.form with ⟨h, rfl⟩ | ⟨g, cap, h, hb, hg, hc⟩
  · simp only [Value.slice.injEq] at h
    obtain ⟨rfl, rfl, rfl⟩ := h
    refine (markStatementS_nil none 0 k w).mono ?_
    rintro e w' ⟨rfl, rfl⟩
    exact ⟨by simp, ho, World.grownBy.refl _ _⟩
  · simp only [Value.slice.injEq] at h
    obtain ⟨rfl, _, _⟩ := h
    exact markStatementS_at g n c k base xs w hn hx h1 ho

end Go.Proofs.YtleddlfojogdiaaGreat
