/- Lists of Tally: contracts of the helpers. -/
import Derived.Test.YtleddlfojogdiaaGreatP14
import Derived.Deep.RegionWith
import Derived.Deep.RegionHeld3
namespace Go.Proofs.YtleddlfojogdiaaGreat
set_option linter.unusedVariables false
set_option maxRecDepth 1000000
set_option linter.unusedSimpArgs false
open Go.RowKit

theorem Tryz.infoTally : (Tryz.prog.info? 37).map (fun i => (i.zero, i.size, i.bytes)) = some (some (.agg #[.int .i64 0, .int .i64 0, .int .i64 0]), 3, 24) := by kernel_rfl

def cellsU (l : List (Int × Int × Int)) : List Value := l.flatMap fun p => [.int .i64 p.1, .int .i64 p.2.1, .int .i64 p.2.2]
theorem cellsU_cons (p : Int × Int × Int) (l : List (Int × Int × Int)) : cellsU (p :: l) = .int .i64 p.1 :: .int .i64 p.2.1 :: .int .i64 p.2.2 :: cellsU l := rfl
theorem cellsU_length : ∀ l : List (Int × Int × Int), (cellsU l).length = l.length * 3
  | [] => rfl
  | p :: l => by rw [cellsU_cons]; simp only [List.length_cons]; rw [cellsU_length l]; omega
theorem cellsU_one (l : List (Int × Int × Int)) : ∀ u ∈ cellsU l, u.oneCell' = true := by
  intro u hu
  obtain ⟨p, _, h⟩ := List.mem_flatMap.1 hu
  simp at h
  rcases h with rfl | rfl | rfl <;> rfl
theorem cellsU_at : ∀ (l : List (Int × Int × Int)) (j : Nat), j < l.length → (cellsU l)[j * 3]? = some (.int .i64 (l.getD j (0, 0, 0)).1) ∧ (cellsU l)[j * 3 + 1]? = some (.int .i64 (l.getD j (0, 0, 0)).2.1) ∧ (cellsU l)[j * 3 + 2]? = some (.int .i64 (l.getD j (0, 0, 0)).2.2)
  | [], j, h => by simp at h
  | p :: l, 0, _ => ⟨rfl, rfl, rfl⟩
  | p :: l, j + 1, h => by
    have ih := cellsU_at l j (by simpa using h)
    rw [show (j + 1) * 3 = j * 3 + 1 + 1 + 1 by omega, cellsU_cons]
    simpa using ih
theorem cellsU_set : ∀ (l : List (Int × Int × Int)) (j : Nat) (x0 : Int) (x1 : Int) (x2 : Int), (((cellsU l).set (j * 3) (.int .i64 x0)).set (j * 3 + 1) (.int .i64 x1)).set (j * 3 + 2) (.int .i64 x2) = cellsU (l.set j (x0, x1, x2))
  | [], j, _, _, _ => rfl
  | p :: l, 0, _, _, _ => rfl
  | p :: l, j + 1, x0, x1, x2 => by
    have ih := cellsU_set l j x0 x1 x2
    rw [show (j + 1) * 3 = j * 3 + 1 + 1 + 1 by omega, cellsU_cons]
    simp only [List.set_cons_succ, cellsU_cons]
    rw [ih]
theorem cellsU_app (l m : List (Int × Int × Int)) : cellsU (l ++ m) = cellsU l ++ cellsU m := by simp [cellsU]

/-- The slice at address ao of length l.length reads as l. -/
def RdU (w : World) (ao : Option Addr) (l : List (Int × Int × Int)) : Prop :=
  l = [] ∨ ∃ b off, ao = some ⟨b, off, none⟩ ∧ ∀ j, j < l.length → w.cell? ⟨b, off + j * 3, none⟩ = some (.int .i64 (l.getD j (0, 0, 0)).1) ∧ w.cell? ⟨b, off + j * 3 + 1, none⟩ = some (.int .i64 (l.getD j (0, 0, 0)).2.1) ∧ w.cell? ⟨b, off + j * 3 + 2, none⟩ = some (.int .i64 (l.getD j (0, 0, 0)).2.2)
/-- The slice value v is a row of the call's own that holds l. -/
def OwnU (w : World) (base : Nat) (v : Value) (l : List (Int × Int × Int)) : Prop := w.ownsRow base 37 3 v l.length (cellsU l)

theorem OwnU.form {w : World} {base : Nat} {v : Value} {xs : List (Int × Int × Int)} (h : OwnU w base v xs) : (v = .slice none 0 0 ∧ xs = []) ∨ ∃ g cap, v = .slice (some ⟨g, 0, none⟩) xs.length cap ∧ base ≤ g ∧ g < w.heap.size ∧ xs.length ≤ cap ∧ cap ≤ maxLen := by
  rcases h.2 with ⟨h1, h2⟩ | ⟨g, cap, cur, hv, hb, hg, hc, hm, _⟩
  · exact Or.inl ⟨h1, List.length_eq_zero_iff.1 h2⟩
  · exact Or.inr ⟨g, cap, hv, hb, (Array.getElem?_eq_some_iff.1 hg).1, hc, hm⟩
theorem OwnU.cell {w : World} {base g cap : Nat} {xs : List (Int × Int × Int)} (h : OwnU w base (.slice (some ⟨g, 0, none⟩) xs.length cap) xs) : ∀ j, j < xs.length → w.cell? ⟨g, j * 3, none⟩ = some (.int .i64 (xs.getD j (0, 0, 0)).1) ∧ w.cell? ⟨g, j * 3 + 1, none⟩ = some (.int .i64 (xs.getD j (0, 0, 0)).2.1) ∧ w.cell? ⟨g, j * 3 + 2, none⟩ = some (.int .i64 (xs.getD j (0, 0, 0)).2.2) := fun j hj => by
  rw [World.ownsRow.cellAt h (j * 3) (by omega), World.ownsRow.cellAt h (j * 3 + 1) (by omega), World.ownsRow.cellAt h (j * 3 + 2) (by omega)]
  exact cellsU_at xs j hj
theorem OwnU.rd {w : World} {base : Nat} {v : Value} {xs : List (Int × Int × Int)} (h : OwnU w base v xs) : ∃ ao cap, v = .slice ao xs.length cap ∧ RdU w ao xs := by
  rcases h.form with ⟨rfl, rfl⟩ | ⟨g, cap, rfl, _⟩
  · exact ⟨none, 0, rfl, Or.inl rfl⟩
  · exact ⟨_, _, rfl, Or.inr ⟨g, 0, rfl, fun j hj => by simpa using h.cell j hj⟩⟩
theorem OwnU.later {w w' : World} {base : Nat} {v : Value} {xs : List (Int × Int × Int)} (h : OwnU w base v xs) (hb : Below w.heap.size w w') : OwnU w' base v xs := by
  refine ⟨h.1, ?_⟩
  rcases h.2 with h2 | ⟨g, cap, cur, hv, hg, hh, r⟩
  · exact Or.inl h2
  · exact Or.inr ⟨g, cap, cur, hv, hg, by rw [hb.block g (Array.getElem?_eq_some_iff.1 hh).1]; exact hh, r⟩
theorem OwnU.mono {w : World} {base base' : Nat} {v : Value} {xs : List (Int × Int × Int)} (h : OwnU w base v xs) (hb : base' ≤ base) : OwnU w base' v xs := by
  refine ⟨h.1, ?_⟩
  rcases h.2 with h2 | ⟨g, cap, cur, hv, hg, r⟩
  · exact Or.inl h2
  · exact Or.inr ⟨g, cap, cur, hv, Nat.le_trans hb hg, r⟩
theorem OwnU.kept {w w' : World} {base : Nat} {v : Value} {xs : List (Int × Int × Int)} {row : Option Nat} (h : OwnU w base v xs) (hg : w.grownBy w' row) (hne : v.ownBlock = none ∨ v.ownBlock ≠ row) : OwnU w' base v xs := World.ownsRow.kept h hg hne
theorem RdU.later {w w' : World} {ao : Option Addr} {xs : List (Int × Int × Int)} (h : RdU w ao xs) (hb : Below w.heap.size w w') : RdU w' ao xs := by
  rcases h with h | ⟨b, off, he, hc⟩
  · exact Or.inl h
  · refine Or.inr ⟨b, off, he, fun j hj => ?_⟩
    have h1 := World.block_lt_of_cell? w _ (hc j hj).1
    rw [hb.cell (p := ⟨b, off + j * 3, none⟩) h1, hb.cell (p := ⟨b, off + j * 3 + 1, none⟩) h1, hb.cell (p := ⟨b, off + j * 3 + 2, none⟩) h1]
    exact hc j hj
theorem RdU.get {w : World} {ao : Option Addr} {xs : List (Int × Int × Int)} (h : RdU w ao xs) {k : Nat} (hk : k < xs.length) : ∃ b off, ao = some ⟨b, off, none⟩ ∧ w.cell? ⟨b, off + k * 3, none⟩ = some (.int .i64 (xs.getD k (0, 0, 0)).1) ∧ w.cell? ⟨b, off + k * 3 + 1, none⟩ = some (.int .i64 (xs.getD k (0, 0, 0)).2.1) ∧ w.cell? ⟨b, off + k * 3 + 2, none⟩ = some (.int .i64 (xs.getD k (0, 0, 0)).2.2) := by
  rcases h with rfl | ⟨b, o, rfl, hc⟩
  · simp at hk
  · exact ⟨b, o, rfl, hc k hk⟩
theorem OwnU.shape {w : World} {base : Nat} {v : Value} {xs : List (Int × Int × Int)} (h : OwnU w base v xs) : ∃ ao cap, v = .slice ao xs.length cap := by
  obtain ⟨ao, cap, h1, _⟩ := h.rd
  exact ⟨ao, cap, h1⟩
theorem OwnU.rd' {w : World} {base n cap : Nat} {ao : Option Addr} {xs : List (Int × Int × Int)} (h : OwnU w base (.slice ao n cap) xs) : xs.length = n ∧ RdU w ao xs := by
  obtain ⟨ao', cap', h1, h2⟩ := h.rd
  simp only [Value.slice.injEq] at h1
  obtain ⟨rfl, h3, _⟩ := h1
  exact ⟨h3.symm, h2⟩
theorem take_eq_succU {xs ys : List (Int × Int × Int)} {k : Nat} (hx : k < xs.length) (hy : k < ys.length) (h : xs.take k = ys.take k) (e : xs.getD k (0, 0, 0) = ys.getD k (0, 0, 0)) : xs.take (k + 1) = ys.take (k + 1) := by
  rw [List.take_succ_eq_append_getElem hx, List.take_succ_eq_append_getElem hy, h]
  simp [List.getD, hx, hy] at e
  rw [e]
theorem own_pushU {w1 : World} {base : Nat} {v' : Value} {out : List (Int × Int × Int)} {x0 : Int} {x1 : Int} {x2 : Int} (h : w1.ownsRow base 37 3 v' (out.length + 1) (cellsU out ++ [.int .i64 x0, .int .i64 x1, .int .i64 x2])) : OwnU w1 base v' (out ++ [(x0, x1, x2)]) := by
  unfold OwnU
  rw [show (out ++ [(x0, x1, x2)]).length = out.length + 1 by simp, cellsU_app]
  exact h
theorem own_block_geU {w : World} {base : Nat} {v : Value} {xs : List (Int × Int × Int)} (h : OwnU w base v xs) : ∀ k, v.ownBlock = some k → base ≤ k := fun k hk => (World.ownsRow.lt h k hk).1
theorem OwnU.raw {w : World} {base : Nat} {v : Value} {xs : List (Int × Int × Int)} {n : Nat} (h : OwnU w base v xs) (hn : xs.length = n) : w.ownsRow base 37 3 v n (cellsU xs) := by rw [← hn]; exact h
theorem OwnU.of {w : World} {base : Nat} {v : Value} {xs : List (Int × Int × Int)} {n : Nat} (h : w.ownsRow base 37 3 v n (cellsU xs)) (hn : xs.length = n) : OwnU w base v xs := by unfold OwnU; rw [hn]; exact h

set_option maxHeartbeats 1000000 in
theorem eqTally_c (x0 y0 : Int) (x1 y1 : Int) (x2 y2 : Int) (w : World) : Calls Tryz.prog 54 #[.agg #[.int .i64 x0, .int .i64 x1, .int .i64 x2], .agg #[.int .i64 y0, .int .i64 y1, .int .i64 y2]] w fun e w' => e = .returned (.bool (decide ((x0, x1, x2) = (y0, y1, y2)))) ∧ Below w.heap.size w w' := by
  by_cases h0 : x0 = y0
  case neg =>
    have e0 : (x0 != y0) = true := by simpa using h0
    go_enter Tryz.func54, Tryz.ntmps54
    go_wp2
    go_ret
    exact ⟨by simp [h0], ((Below.refl _ w).alloc (Nat.le_refl _) _).alloc (by simp) _⟩
  subst h0
  have e0 : (x0 != x0) = false := by simp
  by_cases h1 : x1 = y1
  case neg =>
    have e1 : (x1 != y1) = true := by simpa using h1
    go_enter Tryz.func54, Tryz.ntmps54
    go_wp2
    go_ret
    exact ⟨by simp [h1], ((Below.refl _ w).alloc (Nat.le_refl _) _).alloc (by simp) _⟩
  subst h1
  have e1 : (x1 != x1) = false := by simp
  by_cases h2 : x2 = y2
  case neg =>
    have e2 : (x2 != y2) = true := by simpa using h2
    go_enter Tryz.func54, Tryz.ntmps54
    go_wp2
    go_ret
    exact ⟨by simp [h2], ((Below.refl _ w).alloc (Nat.le_refl _) _).alloc (by simp) _⟩
  subst h2
  have e2 : (x2 != x2) = false := by simp
  go_enter Tryz.func54, Tryz.ntmps54
  go_wp2
  go_ret
  exact ⟨by simp, ((Below.refl _ w).alloc (Nat.le_refl _) _).alloc (by simp) _⟩

theorem eqTallyS_ne (ao bo : Option Addr) (n m c d : Nat) (w : World) (hnm : n ≠ m) (hn : n ≤ 140737488355328) (hm : m ≤ 140737488355328) :
    Calls Tryz.prog 21 #[.slice ao n c, .slice bo m d] w fun e w' => e = .returned (.bool false) ∧ w' = w := by
  have hx : ((n : Int) != (m : Int)) = true := by rw [bne_iff_ne]; omega
  go_enter Tryz.func21, Tryz.ntmps21
  go_wp2
  go_ret
  exact ⟨rfl, rfl⟩

theorem eqTallyS_nil (ao bo : Option Addr) (c d : Nat) (w : World) :
    Calls Tryz.prog 21 #[.slice ao 0 c, .slice bo 0 d] w fun e w' => e = .returned (.bool true) ∧ w' = w := by
  go_enter Tryz.func21, Tryz.ntmps21
  go_wp2
  refine wp_loop_rounds 1 ?_
  rw [rounds_succ]
  go_wp2
  go_ret
  exact ⟨rfl, rfl⟩

set_option maxHeartbeats 1000000 in
theorem eqTallyS_at (b o n c b' o' d : Nat) (xs ys : List (Int × Int × Int)) (w : World) (hx : xs.length = n) (hy : ys.length = n) (hn : n ≤ 140737488355328) (hrx : RdU w (some ⟨b, o, none⟩) xs) (hry : RdU w (some ⟨b', o', none⟩) ys) :
    Calls Tryz.prog 21 #[.slice (some ⟨b, o, none⟩) n c, .slice (some ⟨b', o', none⟩) n d] w fun e w' => e = .returned (.bool (decide (xs = ys))) ∧ Below w.heap.size w w' := by
  have HX : Hid (xs.length = n) := hx
  have HY : Hid (ys.length = n) := hy
  have HRX : Hid (RdU w (some ⟨b, o, none⟩) xs) := hrx
  have HRY : Hid (RdU w (some ⟨b', o', none⟩) ys) := hry
  clear hx hy hrx hry
  go_enter Tryz.func21, Tryz.ntmps21
  go_wp2
  go_loopw [5] (fun i wr => ∃ k : Nat, k ≤ n ∧ i = .int .i64 k ∧ Hid (xs.take k = ys.take k) ∧ Hid (Below w.heap.size w wr)) (fun i _ => n - (intOf i).toNat)
  case atStart => exact ⟨0, Nat.zero_le _, rfl, rfl, Below.refl _ _⟩
  case round =>
    obtain ⟨k, hk, rfl, HT, HB⟩ := hrel
    by_cases hlt : k < n
    · have h0 : (0 : Int) ≤ (k : Int) := by omega
      have hl : (k : Int) < (n : Int) := by omega
      obtain ⟨b1, o1, hb1, g0, g1, g2⟩ := (HRX.out.later HB.out).get (k := k) (by rw [HX.out]; exact hlt)
      simp only [Option.some.injEq, Addr.mk.injEq] at hb1
      obtain ⟨rfl, rfl, _⟩ := hb1
      obtain ⟨b2, o2, hb2, g3, g4, g5⟩ := (HRY.out.later HB.out).get (k := k) (by rw [HY.out]; exact hlt)
      simp only [Option.some.injEq, Addr.mk.injEq] at hb2
      obtain ⟨rfl, rfl, _⟩ := hb2
      have H1 : Hid (xs.getD k (0, 0, 0) = ((xs.getD k (0, 0, 0)).1, (xs.getD k (0, 0, 0)).2.1, (xs.getD k (0, 0, 0)).2.2)) := rfl
      have H2 : Hid (ys.getD k (0, 0, 0) = ((ys.getD k (0, 0, 0)).1, (ys.getD k (0, 0, 0)).2.1, (ys.getD k (0, 0, 0)).2.2)) := rfl
      have hq := eqTally_c (xs.getD k (0, 0, 0)).1 (ys.getD k (0, 0, 0)).1 (xs.getD k (0, 0, 0)).2.1 (ys.getD k (0, 0, 0)).2.1 (xs.getD k (0, 0, 0)).2.2 (ys.getD k (0, 0, 0)).2.2
      generalize (xs.getD k (0, 0, 0)).1 = x0 at *
      generalize (ys.getD k (0, 0, 0)).1 = y0 at *
      generalize (xs.getD k (0, 0, 0)).2.1 = x1 at *
      generalize (ys.getD k (0, 0, 0)).2.1 = y1 at *
      generalize (xs.getD k (0, 0, 0)).2.2 = x2 at *
      generalize (ys.getD k (0, 0, 0)).2.2 = y2 at *
      by_cases hxy : (x0, x1, x2) = (y0, y1, y2)
      · have HXY : Hid ((x0, x1, x2) = (y0, y1, y2)) := hxy
        rw [decide_eq_true hxy] at hq
        have HQ : Hid (∀ w, Calls Tryz.prog 54 #[.agg #[.int .i64 x0, .int .i64 x1, .int .i64 x2], .agg #[.int .i64 y0, .int .i64 y1, .int .i64 y2]] w fun e w' => e = .returned (.bool true) ∧ Below w.heap.size w w') := hq
        clear hxy hq
        go_wp2_with fail
        have HBd : Hid (Below w.heap.size w wr.drew) := HB.out.drew
        go_region_held3 (fun w' => w'.cell? ⟨b, o + k * 3, none⟩ = some (.int .i64 x0) ∧ w'.cell? ⟨b, o + k * 3 + 1, none⟩ = some (.int .i64 x1) ∧ w'.cell? ⟨b, o + k * 3 + 2, none⟩ = some (.int .i64 x2) ∧ w'.cell? ⟨b', o' + k * 3, none⟩ = some (.int .i64 y0) ∧ w'.cell? ⟨b', o' + k * 3 + 1, none⟩ = some (.int .i64 y1) ∧ w'.cell? ⟨b', o' + k * 3 + 2, none⟩ = some (.int .i64 y2)) (first | go_keep) (first
          | (go_at_call 54; refine (HQ.out _).mono ?_; rintro e w1 ⟨rfl, hb1⟩; have k0 := cell_keep (S := 0) (w1 := wr.drew) hb1 g0; have k1 := cell_keep (S := 0) (w1 := wr.drew) hb1 g1; have k2 := cell_keep (S := 0) (w1 := wr.drew) hb1 g2; have k3 := cell_keep (S := 0) (w1 := wr.drew) hb1 g3; have k4 := cell_keep (S := 0) (w1 := wr.drew) hb1 g4; have k5 := cell_keep (S := 0) (w1 := wr.drew) hb1 g5; have HB1 : Hid (Below w.heap.size w w1) := HBd.out.trans (hb1.mono HBd.out.size); clear hb1))
        all_goals go_wp2
        all_goals go_roundw
        case rel => exact ⟨k + 1, by omega, by go_num, take_eq_succU (by rw [HX.out]; omega) (by rw [HY.out]; omega) HT.out (by rw [H1.out, H2.out]; exact HXY.out), HB1⟩
        case measure => simp [intOf]; omega
      · have HXY : Hid ((x0, x1, x2) ≠ (y0, y1, y2)) := hxy
        rw [decide_eq_false hxy] at hq
        have HQ : Hid (∀ w, Calls Tryz.prog 54 #[.agg #[.int .i64 x0, .int .i64 x1, .int .i64 x2], .agg #[.int .i64 y0, .int .i64 y1, .int .i64 y2]] w fun e w' => e = .returned (.bool false) ∧ Below w.heap.size w w') := hq
        clear hxy hq
        go_wp2_with fail
        have HBd : Hid (Below w.heap.size w wr.drew) := HB.out.drew
        go_region_held3 (fun w' => w'.cell? ⟨b, o + k * 3, none⟩ = some (.int .i64 x0) ∧ w'.cell? ⟨b, o + k * 3 + 1, none⟩ = some (.int .i64 x1) ∧ w'.cell? ⟨b, o + k * 3 + 2, none⟩ = some (.int .i64 x2) ∧ w'.cell? ⟨b', o' + k * 3, none⟩ = some (.int .i64 y0) ∧ w'.cell? ⟨b', o' + k * 3 + 1, none⟩ = some (.int .i64 y1) ∧ w'.cell? ⟨b', o' + k * 3 + 2, none⟩ = some (.int .i64 y2)) (first | go_keep) (first
          | (go_at_call 54; refine (HQ.out _).mono ?_; rintro e w1 ⟨rfl, hb1⟩; have k0 := cell_keep (S := 0) (w1 := wr.drew) hb1 g0; have k1 := cell_keep (S := 0) (w1 := wr.drew) hb1 g1; have k2 := cell_keep (S := 0) (w1 := wr.drew) hb1 g2; have k3 := cell_keep (S := 0) (w1 := wr.drew) hb1 g3; have k4 := cell_keep (S := 0) (w1 := wr.drew) hb1 g4; have k5 := cell_keep (S := 0) (w1 := wr.drew) hb1 g5; have HB1 : Hid (Below w.heap.size w w1) := HBd.out.trans (hb1.mono HBd.out.size); clear hb1))
        all_goals go_wp2
        all_goals go_ret
        all_goals refine ⟨?_, HB1.out⟩
        all_goals have : xs ≠ ys := fun e => HXY.out (by rw [← H1.out, ← H2.out, e])
        all_goals simp [this]
    · go_wp2
      go_ret
      refine ⟨?_, HB.out⟩
      have e : xs = ys := by
        have := HT.out
        rwa [List.take_of_length_le (by rw [HX.out]; omega), List.take_of_length_le (by rw [HY.out]; omega)] at this
      simp [e]

theorem eqTallyS_c (ao bo : Option Addr) (n m c d : Nat) (xs ys : List (Int × Int × Int)) (w : World) (hx : xs.length = n) (hy : ys.length = m) (hn : n ≤ 17592186044416) (hm : m ≤ 17592186044416) (hr : RdU w ao xs) (hs : RdU w bo ys) :
    Calls Tryz.prog 21 #[.slice ao n c, .slice bo m d] w fun e w' => e = .returned (.bool (decide (xs = ys))) ∧ Below w.heap.size w w' := by
  by_cases hnm : n = m
  · subst hnm
    by_cases h0 : n = 0
    · subst h0
      have e1 : xs = [] := List.length_eq_zero_iff.1 hx
      have e2 : ys = [] := List.length_eq_zero_iff.1 hy
      subst e1 e2
      refine (eqTallyS_nil ao bo c d w).mono ?_
      rintro e w' ⟨rfl, rfl⟩
      exact ⟨by simp, Below.refl _ _⟩
    · obtain ⟨b, o, rfl, _⟩ := hr.get (k := 0) (by omega)
      obtain ⟨b', o', rfl, _⟩ := hs.get (k := 0) (by omega)
      exact eqTallyS_at b o n c b' o' d xs ys w hx hy (by omega) hr hs
  · refine (eqTallyS_ne ao bo n m c d w hnm (by omega) (by omega)).mono ?_
    rintro e w' ⟨rfl, rfl⟩
    refine ⟨?_, Below.refl _ _⟩
    have : xs ≠ ys := fun e => hnm (by rw [← hx, ← hy, e])
    simp [this]

theorem madeU : ∀ n : Nat, (madeCells (Value.agg #[.int .i64 0, .int .i64 0, .int .i64 0]).cells (n * 3)).toList = cellsU (List.replicate n (0, 0, 0)) := by
  intro n
  have hl : (cellsU (List.replicate n (0, 0, 0))).length = n * 3 := by rw [cellsU_length, List.length_replicate]
  refine List.ext_getElem? fun j => ?_
  by_cases hjn : j < n * 3
  · have hj : j / 3 < n := by omega
    have hc := cellsU_at (List.replicate n (0, 0, 0)) (j / 3) (by simpa using hj)
    have e0 : (List.replicate n ((0 : Int), (0 : Int), (0 : Int))).getD (j / 3) (0, 0, 0) = (0, 0, 0) := by simp [List.getD, hj]
    rw [e0] at hc
    have hm : (madeCells (Value.agg #[.int .i64 0, .int .i64 0, .int .i64 0]).cells (n * 3)).toList[j]? = some (#[.int .i64 0, .int .i64 0, .int .i64 0][j % 3]!) := by
      rw [Array.getElem?_toList]
      simp only [madeCells, Array.getElem?_map]
      rw [Array.getElem?_range]
      rw [if_pos hjn]
      rfl
    rw [hm]
    rcases (by omega : j % 3 = 0 ∨ j % 3 = 1 ∨ j % 3 = 2) with h | h | h
    · have h2 := hc.1
      rw [show j / 3 * 3 = j by omega] at h2
      rw [h2, h]; rfl
    · have h2 := hc.2.1
      rw [show j / 3 * 3 + 1 = j by omega] at h2
      rw [h2, h]; rfl
    · have h2 := hc.2.2
      rw [show j / 3 * 3 + 2 = j by omega] at h2
      rw [h2, h]; rfl
  · rw [List.getElem?_eq_none (by rw [Array.length_toList, size_madeCells]; omega), List.getElem?_eq_none (by omega)]

/-- The marks of a row of n. -/
def marksU (k n : Nat) : List (Int × Int × Int) := (List.range n).map (fun j : Nat => (((k + 3 * j : Nat) : Int), ((k + 3 * j + 1 : Nat) : Int), ((k + 3 * j + 2 : Nat) : Int)))
theorem marksU_length (k n : Nat) : (marksU k n).length = n := by simp [marksU]
theorem marksU_getD (k n j : Nat) (h : j < n) : (marksU k n).getD j (0, 0, 0) = (((k + 3 * j : Nat) : Int), ((k + 3 * j + 1 : Nat) : Int), ((k + 3 * j + 2 : Nat) : Int)) := by simp [marksU, List.getD, h]
theorem marksU_of (k n : Nat) (ys : List (Int × Int × Int)) (hl : ys.length = n) (h : ∀ j : Nat, j < n → ys.getD j (0, 0, 0) = (((k + 3 * j : Nat) : Int), ((k + 3 * j + 1 : Nat) : Int), ((k + 3 * j + 2 : Nat) : Int))) : ys = marksU k n := by
  refine List.ext_getElem (by rw [hl, marksU_length]) fun j h1 h2 => ?_
  have e1 := h j (by omega)
  have e2 := marksU_getD k n j (by omega)
  rw [List.getD, List.getElem?_eq_getElem h1, Option.getD_some] at e1
  rw [List.getD, List.getElem?_eq_getElem h2, Option.getD_some] at e2
  rw [e1, e2]

set_option maxHeartbeats 2000000 in
theorem markTallyS_at (g n c k : Nat) (base : Nat) (xs : List (Int × Int × Int)) (w : World) (hn : n ≤ 1048576) (hx : xs.length = n) (h1 : k ≤ 17592186044416) (ho : OwnU w base (.slice (some ⟨g, 0, none⟩) n c) xs) :
    Calls Tryz.prog 26 #[.slice (some ⟨g, 0, none⟩) n c, .int .i64 k] w fun e w' => e = .returned (.int .i64 ((k + 3 * n : Nat) : Int)) ∧ OwnU w' base (.slice (some ⟨g, 0, none⟩) n c) (marksU k n) ∧ w.grownBy w' (some g) := by
  have HO : Hid (∃ ys : List (Int × Int × Int), ys.length = n ∧ (∀ j : Nat, j < 0 → ys.getD j (0, 0, 0) = (((k + 3 * j : Nat) : Int), ((k + 3 * j + 1 : Nat) : Int), ((k + 3 * j + 2 : Nat) : Int))) ∧ w.ownsRow base 37 3 (.slice (some ⟨g, 0, none⟩) n c) n (cellsU ys)) := ⟨xs, hx, fun j h => absurd h (by omega), ho.raw hx⟩
  clear ho hx
  go_enter Tryz.func26, Tryz.ntmps26
  go_wp2
  go_loopw [1, 5] (fun q i wr => ∃ p : Nat, p ≤ n ∧ i = .int .i64 p ∧ q = .int .i64 ((k + 3 * p : Nat) : Int) ∧ Hid (∃ ys : List (Int × Int × Int), ys.length = n ∧ (∀ j : Nat, j < p → ys.getD j (0, 0, 0) = (((k + 3 * j : Nat) : Int), ((k + 3 * j + 1 : Nat) : Int), ((k + 3 * j + 2 : Nat) : Int))) ∧ wr.ownsRow base 37 3 (.slice (some ⟨g, 0, none⟩) n c) n (cellsU ys)) ∧ Hid (w.grownBy wr (some g))) (fun _ i _ => n - (intOf i).toNat)
  case atStart => exact ⟨0, Nat.zero_le _, rfl, by go_num, HO, World.grownBy.refl _ _⟩
  case round =>
    clear HO
    obtain ⟨p, hp, rfl, rfl, hO, hgr⟩ := hrel
    by_cases hlt : p < n
    · obtain ⟨ys, hyl, hyt, hyo⟩ := hO.out
      clear hO
      have HYL : Hid (ys.length = n) := hyl
      have HYT : Hid (∀ j : Nat, j < p → ys.getD j (0, 0, 0) = (((k + 3 * j : Nat) : Int), ((k + 3 * j + 1 : Nat) : Int), ((k + 3 * j + 2 : Nat) : Int))) := hyt
      obtain ⟨z, hz⟩ : ∃ z : Nat, z = k + 3 * p := ⟨_, rfl⟩
      rw [← hz]
      have HZ : Hid (z = k + 3 * p) := hz
      have hz1 : z ≤ 35184372088832 := by omega
      have c1 := cellsU_at ys p (by omega)
      have HO_0 : Hid (wr.ownsRow base 37 3 (.slice (some ⟨g, 0, none⟩) n c) n (cellsU ys)) := hyo
      have HG_0 : Hid (w.grownBy wr (some g)) := hgr.out
      clear hyl hyt hgr hz hyo
      have d0 : wr.cell? ⟨g, p * 3, none⟩ = some (.int .i64 (ys.getD p (0, 0, 0)).1) := by rw [World.ownsRow.cellAt HO_0.out (p * 3) (by omega)]; exact c1.1
      have f0 : wr.frozen? ⟨g, p * 3, none⟩ = false := World.ownsRow.frozenAt HO_0.out _
      generalize (ys.getD p (0, 0, 0)).1 = u0 at d0
      have st0 := World.ownsRow.stored HO_0.out (p * 3) (.int .i64 ((z : Int)))
      obtain ⟨V0, hV0⟩ : ∃ V, wr.setCell ⟨g, p * 3, none⟩ (.int .i64 ((z : Int))) = V := ⟨_, rfl⟩
      rw [hV0] at st0
      have HO_1 : Hid (V0.ownsRow base 37 3 (.slice (some ⟨g, 0, none⟩) n c) n ((cellsU ys).set (p * 3) (.int .i64 ((z : Int))))) := st0.1
      have HG_1 : Hid (w.grownBy V0 (some g)) := grown_trans HG_0.out st0.2
      clear st0
      have d1 : V0.cell? ⟨g, p * 3 + 1, none⟩ = some (.int .i64 (ys.getD p (0, 0, 0)).2.1) := by rw [World.ownsRow.cellAt HO_1.out (p * 3 + 1) (by omega)]; rw [List.getElem?_set_ne (by omega)]; exact c1.2.1
      have f1 : V0.frozen? ⟨g, p * 3 + 1, none⟩ = false := World.ownsRow.frozenAt HO_1.out _
      generalize (ys.getD p (0, 0, 0)).2.1 = u1 at d1
      have st1 := World.ownsRow.stored HO_1.out (p * 3 + 1) (.int .i64 ((z : Int) + 1))
      obtain ⟨V1, hV1⟩ : ∃ V, V0.setCell ⟨g, p * 3 + 1, none⟩ (.int .i64 ((z : Int) + 1)) = V := ⟨_, rfl⟩
      rw [hV1] at st1
      have HO_2 : Hid (V1.ownsRow base 37 3 (.slice (some ⟨g, 0, none⟩) n c) n (((cellsU ys).set (p * 3) (.int .i64 ((z : Int)))).set (p * 3 + 1) (.int .i64 ((z : Int) + 1)))) := st1.1
      have HG_2 : Hid (w.grownBy V1 (some g)) := grown_trans HG_1.out st1.2
      clear st1
      have d2 : V1.cell? ⟨g, p * 3 + 2, none⟩ = some (.int .i64 (ys.getD p (0, 0, 0)).2.2) := by rw [World.ownsRow.cellAt HO_2.out (p * 3 + 2) (by omega)]; rw [List.getElem?_set_ne (by omega)]; rw [List.getElem?_set_ne (by omega)]; exact c1.2.2
      have f2 : V1.frozen? ⟨g, p * 3 + 2, none⟩ = false := World.ownsRow.frozenAt HO_2.out _
      generalize (ys.getD p (0, 0, 0)).2.2 = u2 at d2
      have st2 := World.ownsRow.stored HO_2.out (p * 3 + 2) (.int .i64 ((z : Int) + 1 + 1))
      obtain ⟨V2, hV2⟩ : ∃ V, V1.setCell ⟨g, p * 3 + 2, none⟩ (.int .i64 ((z : Int) + 1 + 1)) = V := ⟨_, rfl⟩
      rw [hV2] at st2
      have HO_3 : Hid (V2.ownsRow base 37 3 (.slice (some ⟨g, 0, none⟩) n c) n ((((cellsU ys).set (p * 3) (.int .i64 ((z : Int)))).set (p * 3 + 1) (.int .i64 ((z : Int) + 1))).set (p * 3 + 2) (.int .i64 ((z : Int) + 1 + 1)))) := st2.1
      have HG_3 : Hid (w.grownBy V2 (some g)) := grown_trans HG_2.out st2.2
      clear st2
      go_wp2
      go_roundw
      case rel =>
        refine ⟨p + 1, by omega, by go_num, by have := HZ.out; go_num, ⟨ys.set p ((z : Int), (z : Int) + 1, (z : Int) + 1 + 1), by simpa using HYL.out, fun j hj => ?_, by have h := HO_3.out; rw [cellsU_set] at h; exact h⟩, HG_3⟩
        by_cases e : j = p
        · subst e
          rw [List.getD, List.getElem?_set_self (by rw [HYL.out]; omega), Option.getD_some, ← HZ.out]
          try simp
          try omega
        · rw [← HYT.out j (by omega)]; simp [List.getD, List.getElem?_set, show p ≠ j by omega]
      case measure => simp [intOf]; omega
    · go_wp2
      go_ret
      obtain ⟨ys, hyl, hyt, hyo⟩ := hO.out
      obtain rfl : p = n := by omega
      have e := marksU_of k p ys hyl hyt
      subst e
      exact ⟨rfl, OwnU.of hyo (marksU_length _ _), hgr.out⟩

theorem markTallyS_nil (ao : Option Addr) (c : Nat) (k : Int) (w : World) :
    Calls Tryz.prog 26 #[.slice ao 0 c, .int .i64 k] w fun e w' => e = .returned (.int .i64 k) ∧ w' = w := by
  go_enter Tryz.func26, Tryz.ntmps26
  go_wp2
  refine wp_loop_rounds 1 ?_
  rw [rounds_succ]
  go_wp2
  go_ret
  exact ⟨rfl, rfl⟩

/-- A mark over a row of the call's own: the row holds the marks, nothing else has turned. -/
theorem markTallyS_c (ao : Option Addr) (n c k : Nat) (base : Nat) (xs : List (Int × Int × Int)) (w : World) (hn : n ≤ 1048576) (h1 : k ≤ 17592186044416) (ho : OwnU w base (.slice ao n c) xs) :
    Calls Tryz.prog 26 #[.slice ao n c, .int .i64 k] w fun e w' => e = .returned (.int .i64 ((k + 3 * n : Nat) : Int)) ∧ OwnU w' base (.slice ao n c) (marksU k n) ∧ w.grownBy w' (Value.slice ao n c).ownBlock := by
  have hx := ho.rd'.1
  rcases ho.form with ⟨h, rfl⟩ | ⟨g, cap, h, hb, hg, hc⟩
  · simp only [Value.slice.injEq] at h
    obtain ⟨rfl, rfl, rfl⟩ := h
    refine (markTallyS_nil none 0 k w).mono ?_
    rintro e w' ⟨rfl, rfl⟩
    exact ⟨by simp, ho, World.grownBy.refl _ _⟩
  · simp only [Value.slice.injEq] at h
    obtain ⟨rfl, _, _⟩ := h
    exact markTallyS_at g n c k base xs w hn hx h1 ho

set_option maxHeartbeats 2000000 in
theorem heldTallyS_at (g n c k : Nat) (w : World) (hn : n ≤ 1048576) (h1 : k ≤ 17592186044416) (hc : ∀ j, j < n → w.cell? ⟨g, j * 3, none⟩ = some (.int .i64 (((k + 3 * j : Nat) : Int))) ∧ w.cell? ⟨g, j * 3 + 1, none⟩ = some (.int .i64 (((k + 3 * j + 1 : Nat) : Int))) ∧ w.cell? ⟨g, j * 3 + 2, none⟩ = some (.int .i64 (((k + 3 * j + 2 : Nat) : Int)))) :
    Calls Tryz.prog 27 #[.slice (some ⟨g, 0, none⟩) n c, .int .i64 k] w fun e w' => e = .returned (.int .i64 ((k + 3 * n : Nat) : Int)) ∧ Below w.heap.size w w' := by
  have HC : Hid (∀ j, j < n → w.cell? ⟨g, j * 3, none⟩ = some (.int .i64 (((k + 3 * j : Nat) : Int))) ∧ w.cell? ⟨g, j * 3 + 1, none⟩ = some (.int .i64 (((k + 3 * j + 1 : Nat) : Int))) ∧ w.cell? ⟨g, j * 3 + 2, none⟩ = some (.int .i64 (((k + 3 * j + 2 : Nat) : Int)))) := hc
  clear hc
  go_enter Tryz.func27, Tryz.ntmps27
  go_wp2
  go_loopw [1, 5] (fun q i wr => ∃ p : Nat, p ≤ n ∧ i = .int .i64 p ∧ q = .int .i64 ((k + 3 * p : Nat) : Int) ∧ Hid (Below w.heap.size w wr)) (fun _ i _ => n - (intOf i).toNat)
  case atStart => exact ⟨0, Nat.zero_le _, rfl, by go_num, Below.refl _ _⟩
  case round =>
    obtain ⟨p, hp, rfl, rfl, hB⟩ := hrel
    by_cases hlt : p < n
    · have hcp := HC.out p hlt
      have hbx := World.block_lt_of_cell? w _ hcp.1
      obtain ⟨q0, q1, q2⟩ := hcp
      obtain ⟨z, hz⟩ : ∃ z : Nat, z = k + 3 * p := ⟨_, rfl⟩
      rw [← hz] at q0 q1 q2 ⊢
      have HZ : Hid (z = k + 3 * p) := hz
      have hz1 : z ≤ 35184372088832 := by omega
      have h0 : (0 : Int) ≤ (p : Int) := by omega
      have hl : (p : Int) < (n : Int) := by omega
      have g0 : wr.cell? ⟨g, p * 3, none⟩ = some (.int .i64 ((z : Int))) := by rw [hB.out.cell (p := ⟨g, p * 3, none⟩) hbx]; exact q0
      have e0 : ((z : Int) != (z : Int)) = false := by simp
      have g1 : wr.cell? ⟨g, p * 3 + 1, none⟩ = some (.int .i64 ((z : Int) + 1)) := by rw [hB.out.cell (p := ⟨g, p * 3 + 1, none⟩) hbx]; exact q1
      have e1 : ((z : Int) + 1 != (z : Int) + 1) = false := by simp
      have g2 : wr.cell? ⟨g, p * 3 + 2, none⟩ = some (.int .i64 ((z : Int) + 2)) := by rw [hB.out.cell (p := ⟨g, p * 3 + 2, none⟩) hbx]; exact q2
      have e2 : ((z : Int) + 2 != (z : Int) + 2) = false := by simp
      clear q0 q1 q2 hbx hz
      go_wp2
      go_roundw
      case rel => exact ⟨p + 1, by omega, by go_num, by have := HZ.out; go_num, hB⟩
      case measure => simp [intOf]; omega
    · go_wp2
      go_ret
      obtain rfl : p = n := by omega
      exact ⟨rfl, hB.out⟩

theorem heldTallyS_nil (ao : Option Addr) (c : Nat) (k : Int) (w : World) :
    Calls Tryz.prog 27 #[.slice ao 0 c, .int .i64 k] w fun e w' => e = .returned (.int .i64 k) ∧ w' = w := by
  go_enter Tryz.func27, Tryz.ntmps27
  go_wp2
  refine wp_loop_rounds 1 ?_
  rw [rounds_succ]
  go_wp2
  go_ret
  exact ⟨rfl, rfl⟩

theorem heldTallyS_c (ao : Option Addr) (n c k : Nat) (base : Nat) (w : World) (hn : n ≤ 1048576) (h1 : k ≤ 17592186044416) (ho : OwnU w base (.slice ao n c) (marksU k n)) :
    Calls Tryz.prog 27 #[.slice ao n c, .int .i64 k] w fun e w' => e = .returned (.int .i64 ((k + 3 * n : Nat) : Int)) ∧ Below w.heap.size w w' := by
  rcases ho.form with ⟨h, h2⟩ | ⟨g, cap, h, hb, hg, hc⟩
  · simp only [Value.slice.injEq] at h
    obtain ⟨rfl, rfl, rfl⟩ := h
    refine (heldTallyS_nil none 0 k w).mono ?_
    rintro e w' ⟨rfl, hw⟩
    subst w'
    exact ⟨by simp, Below.refl _ _⟩
  · simp only [Value.slice.injEq] at h
    obtain ⟨rfl, _, _⟩ := h
    refine heldTallyS_at g n c k w hn h1 fun j hj => ?_
    have e : (marksU k n).length = n := marksU_length k n
    have := OwnU.cell (g := g) (cap := c) (xs := marksU k n) (by rw [e]; exact ho) j (by omega)
    rw [marksU_getD k n j hj] at this
    exact this

end Go.Proofs.YtleddlfojogdiaaGreat
