/- Lists of Receipt: contracts of the helpers. -/
import Derived.Test.YtdhnolafkgkliaaDoorX11
import Derived.Deep.RegionWith
import Derived.Deep.RegionHeld3
namespace Go.Proofs.YtdhnolafkgkliaaDoor
set_option linter.unusedVariables false
set_option maxRecDepth 1000000
set_option linter.unusedSimpArgs false
open Go.RowKit

theorem Tryd.infoReceipt : (Tryd.prog.info? 43).map (fun i => (i.zero, i.size, i.bytes)) = some (some (.agg #[.int .i64 0, .int .i64 0, .int .i64 0, .int .i64 0]), 4, 32) := by kernel_rfl

def cellsR (l : List (Int × Int × Int × Int)) : List Value := l.flatMap fun p => [.int .i64 p.1, .int .i64 p.2.1, .int .i64 p.2.2.1, .int .i64 p.2.2.2]
theorem cellsR_cons (p : Int × Int × Int × Int) (l : List (Int × Int × Int × Int)) : cellsR (p :: l) = .int .i64 p.1 :: .int .i64 p.2.1 :: .int .i64 p.2.2.1 :: .int .i64 p.2.2.2 :: cellsR l := rfl
theorem cellsR_length : ∀ l : List (Int × Int × Int × Int), (cellsR l).length = l.length * 4
  | [] => rfl
  | p :: l => by rw [cellsR_cons]; simp only [List.length_cons]; rw [cellsR_length l]; omega
theorem cellsR_one (l : List (Int × Int × Int × Int)) : ∀ u ∈ cellsR l, u.oneCell' = true := by
  intro u hu
  obtain ⟨p, _, h⟩ := List.mem_flatMap.1 hu
  simp at h
  rcases h with rfl | rfl | rfl | rfl <;> rfl
theorem cellsR_at : ∀ (l : List (Int × Int × Int × Int)) (j : Nat), j < l.length → (cellsR l)[j * 4]? = some (.int .i64 (l.getD j (0, 0, 0, 0)).1) ∧ (cellsR l)[j * 4 + 1]? = some (.int .i64 (l.getD j (0, 0, 0, 0)).2.1) ∧ (cellsR l)[j * 4 + 2]? = some (.int .i64 (l.getD j (0, 0, 0, 0)).2.2.1) ∧ (cellsR l)[j * 4 + 3]? = some (.int .i64 (l.getD j (0, 0, 0, 0)).2.2.2)
  | [], j, h => by simp at h
  | p :: l, 0, _ => ⟨rfl, rfl, rfl, rfl⟩
  | p :: l, j + 1, h => by
    have ih := cellsR_at l j (by simpa using h)
    rw [show (j + 1) * 4 = j * 4 + 1 + 1 + 1 + 1 by omega, cellsR_cons]
    simpa using ih
theorem cellsR_set : ∀ (l : List (Int × Int × Int × Int)) (j : Nat) (x0 : Int) (x1 : Int) (x2 : Int) (x3 : Int), ((((cellsR l).set (j * 4) (.int .i64 x0)).set (j * 4 + 1) (.int .i64 x1)).set (j * 4 + 2) (.int .i64 x2)).set (j * 4 + 3) (.int .i64 x3) = cellsR (l.set j (x0, x1, x2, x3))
  | [], j, _, _, _, _ => rfl
  | p :: l, 0, _, _, _, _ => rfl
  | p :: l, j + 1, x0, x1, x2, x3 => by
    have ih := cellsR_set l j x0 x1 x2 x3
    rw [show (j + 1) * 4 = j * 4 + 1 + 1 + 1 + 1 by omega, cellsR_cons]
    simp only [List.set_cons_succ, cellsR_cons]
    rw [ih]
theorem cellsR_app (l m : List (Int × Int × Int × Int)) : cellsR (l ++ m) = cellsR l ++ cellsR m := by simp [cellsR]

/-- The slice at address ao of length l.length reads as l. -/
def RdR (w : World) (ao : Option Addr) (l : List (Int × Int × Int × Int)) : Prop :=
  l = [] ∨ ∃ b off, ao = some ⟨b, off, none⟩ ∧ ∀ j, j < l.length → w.cell? ⟨b, off + j * 4, none⟩ = some (.int .i64 (l.getD j (0, 0, 0, 0)).1) ∧ w.cell? ⟨b, off + j * 4 + 1, none⟩ = some (.int .i64 (l.getD j (0, 0, 0, 0)).2.1) ∧ w.cell? ⟨b, off + j * 4 + 2, none⟩ = some (.int .i64 (l.getD j (0, 0, 0, 0)).2.2.1) ∧ w.cell? ⟨b, off + j * 4 + 3, none⟩ = some (.int .i64 (l.getD j (0, 0, 0, 0)).2.2.2)
/-- The slice value v is a row of the call's own that holds l. -/
def OwnR (w : World) (base : Nat) (v : Value) (l : List (Int × Int × Int × Int)) : Prop := w.ownsRow base 43 4 v l.length (cellsR l)

theorem OwnR.form {w : World} {base : Nat} {v : Value} {xs : List (Int × Int × Int × Int)} (h : OwnR w base v xs) : (v = .slice none 0 0 ∧ xs = []) ∨ ∃ g cap, v = .slice (some ⟨g, 0, none⟩) xs.length cap ∧ base ≤ g ∧ g < w.heap.size ∧ xs.length ≤ cap ∧ cap ≤ maxLen := by
  rcases h.2 with ⟨h1, h2⟩ | ⟨g, cap, cur, hv, hb, hg, hc, hm, _⟩
  · exact Or.inl ⟨h1, List.length_eq_zero_iff.1 h2⟩
  · exact Or.inr ⟨g, cap, hv, hb, (Array.getElem?_eq_some_iff.1 hg).1, hc, hm⟩
theorem OwnR.cell {w : World} {base g cap : Nat} {xs : List (Int × Int × Int × Int)} (h : OwnR w base (.slice (some ⟨g, 0, none⟩) xs.length cap) xs) : ∀ j, j < xs.length → w.cell? ⟨g, j * 4, none⟩ = some (.int .i64 (xs.getD j (0, 0, 0, 0)).1) ∧ w.cell? ⟨g, j * 4 + 1, none⟩ = some (.int .i64 (xs.getD j (0, 0, 0, 0)).2.1) ∧ w.cell? ⟨g, j * 4 + 2, none⟩ = some (.int .i64 (xs.getD j (0, 0, 0, 0)).2.2.1) ∧ w.cell? ⟨g, j * 4 + 3, none⟩ = some (.int .i64 (xs.getD j (0, 0, 0, 0)).2.2.2) := fun j hj => by
  rw [World.ownsRow.cellAt h (j * 4) (by omega), World.ownsRow.cellAt h (j * 4 + 1) (by omega), World.ownsRow.cellAt h (j * 4 + 2) (by omega), World.ownsRow.cellAt h (j * 4 + 3) (by omega)]
  exact cellsR_at xs j hj
theorem OwnR.rd {w : World} {base : Nat} {v : Value} {xs : List (Int × Int × Int × Int)} (h : OwnR w base v xs) : ∃ ao cap, v = .slice ao xs.length cap ∧ RdR w ao xs := by
  rcases h.form with ⟨rfl, rfl⟩ | ⟨g, cap, rfl, _⟩
  · exact ⟨none, 0, rfl, Or.inl rfl⟩
  · exact ⟨_, _, rfl, Or.inr ⟨g, 0, rfl, fun j hj => by simpa using h.cell j hj⟩⟩
theorem OwnR.later {w w' : World} {base : Nat} {v : Value} {xs : List (Int × Int × Int × Int)} (h : OwnR w base v xs) (hb : Below w.heap.size w w') : OwnR w' base v xs := by
  refine ⟨h.1, ?_⟩
  rcases h.2 with h2 | ⟨g, cap, cur, hv, hg, hh, r⟩
  · exact Or.inl h2
  · exact Or.inr ⟨g, cap, cur, hv, hg, by rw [hb.block g (Array.getElem?_eq_some_iff.1 hh).1]; exact hh, r⟩
theorem OwnR.mono {w : World} {base base' : Nat} {v : Value} {xs : List (Int × Int × Int × Int)} (h : OwnR w base v xs) (hb : base' ≤ base) : OwnR w base' v xs := by
  refine ⟨h.1, ?_⟩
  rcases h.2 with h2 | ⟨g, cap, cur, hv, hg, r⟩
  · exact Or.inl h2
  · exact Or.inr ⟨g, cap, cur, hv, Nat.le_trans hb hg, r⟩
theorem OwnR.kept {w w' : World} {base : Nat} {v : Value} {xs : List (Int × Int × Int × Int)} {row : Option Nat} (h : OwnR w base v xs) (hg : w.grownBy w' row) (hne : v.ownBlock = none ∨ v.ownBlock ≠ row) : OwnR w' base v xs := World.ownsRow.kept h hg hne
theorem RdR.later {w w' : World} {ao : Option Addr} {xs : List (Int × Int × Int × Int)} (h : RdR w ao xs) (hb : Below w.heap.size w w') : RdR w' ao xs := by
  rcases h with h | ⟨b, off, he, hc⟩
  · exact Or.inl h
  · refine Or.inr ⟨b, off, he, fun j hj => ?_⟩
    have h1 := World.block_lt_of_cell? w _ (hc j hj).1
    rw [hb.cell (p := ⟨b, off + j * 4, none⟩) h1, hb.cell (p := ⟨b, off + j * 4 + 1, none⟩) h1, hb.cell (p := ⟨b, off + j * 4 + 2, none⟩) h1, hb.cell (p := ⟨b, off + j * 4 + 3, none⟩) h1]
    exact hc j hj
theorem RdR.get {w : World} {ao : Option Addr} {xs : List (Int × Int × Int × Int)} (h : RdR w ao xs) {k : Nat} (hk : k < xs.length) : ∃ b off, ao = some ⟨b, off, none⟩ ∧ w.cell? ⟨b, off + k * 4, none⟩ = some (.int .i64 (xs.getD k (0, 0, 0, 0)).1) ∧ w.cell? ⟨b, off + k * 4 + 1, none⟩ = some (.int .i64 (xs.getD k (0, 0, 0, 0)).2.1) ∧ w.cell? ⟨b, off + k * 4 + 2, none⟩ = some (.int .i64 (xs.getD k (0, 0, 0, 0)).2.2.1) ∧ w.cell? ⟨b, off + k * 4 + 3, none⟩ = some (.int .i64 (xs.getD k (0, 0, 0, 0)).2.2.2) := by
  rcases h with rfl | ⟨b, o, rfl, hc⟩
  · simp at hk
  · exact ⟨b, o, rfl, hc k hk⟩
theorem OwnR.shape {w : World} {base : Nat} {v : Value} {xs : List (Int × Int × Int × Int)} (h : OwnR w base v xs) : ∃ ao cap, v = .slice ao xs.length cap := by
  obtain ⟨ao, cap, h1, _⟩ := h.rd
  exact ⟨ao, cap, h1⟩
theorem OwnR.rd' {w : World} {base n cap : Nat} {ao : Option Addr} {xs : List (Int × Int × Int × Int)} (h : OwnR w base (.slice ao n cap) xs) : xs.length = n ∧ RdR w ao xs := by
  obtain ⟨ao', cap', h1, h2⟩ := h.rd
  simp only [Value.slice.injEq] at h1
  obtain ⟨rfl, h3, _⟩ := h1
  exact ⟨h3.symm, h2⟩
theorem take_eq_succR {xs ys : List (Int × Int × Int × Int)} {k : Nat} (hx : k < xs.length) (hy : k < ys.length) (h : xs.take k = ys.take k) (e : xs.getD k (0, 0, 0, 0) = ys.getD k (0, 0, 0, 0)) : xs.take (k + 1) = ys.take (k + 1) := by
  rw [List.take_succ_eq_append_getElem hx, List.take_succ_eq_append_getElem hy, h]
  simp [List.getD, hx, hy] at e
  rw [e]
theorem own_pushR {w1 : World} {base : Nat} {v' : Value} {out : List (Int × Int × Int × Int)} {x0 : Int} {x1 : Int} {x2 : Int} {x3 : Int} (h : w1.ownsRow base 43 4 v' (out.length + 1) (cellsR out ++ [.int .i64 x0, .int .i64 x1, .int .i64 x2, .int .i64 x3])) : OwnR w1 base v' (out ++ [(x0, x1, x2, x3)]) := by
  unfold OwnR
  rw [show (out ++ [(x0, x1, x2, x3)]).length = out.length + 1 by simp, cellsR_app]
  exact h
theorem own_block_geR {w : World} {base : Nat} {v : Value} {xs : List (Int × Int × Int × Int)} (h : OwnR w base v xs) : ∀ k, v.ownBlock = some k → base ≤ k := fun k hk => (World.ownsRow.lt h k hk).1
theorem OwnR.raw {w : World} {base : Nat} {v : Value} {xs : List (Int × Int × Int × Int)} {n : Nat} (h : OwnR w base v xs) (hn : xs.length = n) : w.ownsRow base 43 4 v n (cellsR xs) := by rw [← hn]; exact h
theorem OwnR.of {w : World} {base : Nat} {v : Value} {xs : List (Int × Int × Int × Int)} {n : Nat} (h : w.ownsRow base 43 4 v n (cellsR xs)) (hn : xs.length = n) : OwnR w base v xs := by unfold OwnR; rw [hn]; exact h

set_option maxHeartbeats 1000000 in
theorem eqReceipt_c (x0 y0 : Int) (x1 y1 : Int) (x2 y2 : Int) (x3 y3 : Int) (w : World) : Calls Tryd.prog 73 #[.agg #[.int .i64 x0, .int .i64 x1, .int .i64 x2, .int .i64 x3], .agg #[.int .i64 y0, .int .i64 y1, .int .i64 y2, .int .i64 y3]] w fun e w' => e = .returned (.bool (decide ((x0, x1, x2, x3) = (y0, y1, y2, y3)))) ∧ Below w.heap.size w w' := by
  by_cases h0 : x0 = y0
  case neg =>
    have e0 : (x0 != y0) = true := by simpa using h0
    go_enter Tryd.func73, Tryd.ntmps73
    go_wp2
    go_ret
    exact ⟨by simp [h0], ((Below.refl _ w).alloc (Nat.le_refl _) _).alloc (by simp) _⟩
  subst h0
  have e0 : (x0 != x0) = false := by simp
  by_cases h1 : x1 = y1
  case neg =>
    have e1 : (x1 != y1) = true := by simpa using h1
    go_enter Tryd.func73, Tryd.ntmps73
    go_wp2
    go_ret
    exact ⟨by simp [h1], ((Below.refl _ w).alloc (Nat.le_refl _) _).alloc (by simp) _⟩
  subst h1
  have e1 : (x1 != x1) = false := by simp
  by_cases h2 : x2 = y2
  case neg =>
    have e2 : (x2 != y2) = true := by simpa using h2
    go_enter Tryd.func73, Tryd.ntmps73
    go_wp2
    go_ret
    exact ⟨by simp [h2], ((Below.refl _ w).alloc (Nat.le_refl _) _).alloc (by simp) _⟩
  subst h2
  have e2 : (x2 != x2) = false := by simp
  by_cases h3 : x3 = y3
  case neg =>
    have e3 : (x3 != y3) = true := by simpa using h3
    go_enter Tryd.func73, Tryd.ntmps73
    go_wp2
    go_ret
    exact ⟨by simp [h3], ((Below.refl _ w).alloc (Nat.le_refl _) _).alloc (by simp) _⟩
  subst h3
  have e3 : (x3 != x3) = false := by simp
  go_enter Tryd.func73, Tryd.ntmps73
  go_wp2
  go_ret
  exact ⟨by simp, ((Below.refl _ w).alloc (Nat.le_refl _) _).alloc (by simp) _⟩

theorem eqReceiptS_ne (ao bo : Option Addr) (n m c d : Nat) (w : World) (hnm : n ≠ m) (hn : n ≤ 140737488355328) (hm : m ≤ 140737488355328) :
    Calls Tryd.prog 37 #[.slice ao n c, .slice bo m d] w fun e w' => e = .returned (.bool false) ∧ w' = w := by
  have hx : ((n : Int) != (m : Int)) = true := by rw [bne_iff_ne]; omega
  go_enter Tryd.func37, Tryd.ntmps37
  go_wp2
  go_ret
  exact ⟨rfl, rfl⟩

theorem eqReceiptS_nil (ao bo : Option Addr) (c d : Nat) (w : World) :
    Calls Tryd.prog 37 #[.slice ao 0 c, .slice bo 0 d] w fun e w' => e = .returned (.bool true) ∧ w' = w := by
  go_enter Tryd.func37, Tryd.ntmps37
  go_wp2
  refine wp_loop_rounds 1 ?_
  rw [rounds_succ]
  go_wp2
  go_ret
  exact ⟨rfl, rfl⟩

set_option maxHeartbeats 1000000 in
theorem eqReceiptS_at (b o n c b' o' d : Nat) (xs ys : List (Int × Int × Int × Int)) (w : World) (hx : xs.length = n) (hy : ys.length = n) (hn : n ≤ 140737488355328) (hrx : RdR w (some ⟨b, o, none⟩) xs) (hry : RdR w (some ⟨b', o', none⟩) ys) :
    Calls Tryd.prog 37 #[.slice (some ⟨b, o, none⟩) n c, .slice (some ⟨b', o', none⟩) n d] w fun e w' => e = .returned (.bool (decide (xs = ys))) ∧ Below w.heap.size w w' := by
  have HX : Hid (xs.length = n) := hx
  have HY : Hid (ys.length = n) := hy
  have HRX : Hid (RdR w (some ⟨b, o, none⟩) xs) := hrx
  have HRY : Hid (RdR w (some ⟨b', o', none⟩) ys) := hry
  clear hx hy hrx hry
  go_enter Tryd.func37, Tryd.ntmps37
  go_wp2
  go_loopw [5] (fun i wr => ∃ k : Nat, k ≤ n ∧ i = .int .i64 k ∧ Hid (xs.take k = ys.take k) ∧ Hid (Below w.heap.size w wr)) (fun i _ => n - (intOf i).toNat)
  case atStart => exact ⟨0, Nat.zero_le _, rfl, rfl, Below.refl _ _⟩
  case round =>
    obtain ⟨k, hk, rfl, HT, HB⟩ := hrel
    by_cases hlt : k < n
    · have h0 : (0 : Int) ≤ (k : Int) := by omega
      have hl : (k : Int) < (n : Int) := by omega
      obtain ⟨b1, o1, hb1, g0, g1, g2, g3⟩ := (HRX.out.later HB.out).get (k := k) (by rw [HX.out]; exact hlt)
      simp only [Option.some.injEq, Addr.mk.injEq] at hb1
      obtain ⟨rfl, rfl, _⟩ := hb1
      obtain ⟨b2, o2, hb2, g4, g5, g6, g7⟩ := (HRY.out.later HB.out).get (k := k) (by rw [HY.out]; exact hlt)
      simp only [Option.some.injEq, Addr.mk.injEq] at hb2
      obtain ⟨rfl, rfl, _⟩ := hb2
      have H1 : Hid (xs.getD k (0, 0, 0, 0) = ((xs.getD k (0, 0, 0, 0)).1, (xs.getD k (0, 0, 0, 0)).2.1, (xs.getD k (0, 0, 0, 0)).2.2.1, (xs.getD k (0, 0, 0, 0)).2.2.2)) := rfl
      have H2 : Hid (ys.getD k (0, 0, 0, 0) = ((ys.getD k (0, 0, 0, 0)).1, (ys.getD k (0, 0, 0, 0)).2.1, (ys.getD k (0, 0, 0, 0)).2.2.1, (ys.getD k (0, 0, 0, 0)).2.2.2)) := rfl
      have hq := eqReceipt_c (xs.getD k (0, 0, 0, 0)).1 (ys.getD k (0, 0, 0, 0)).1 (xs.getD k (0, 0, 0, 0)).2.1 (ys.getD k (0, 0, 0, 0)).2.1 (xs.getD k (0, 0, 0, 0)).2.2.1 (ys.getD k (0, 0, 0, 0)).2.2.1 (xs.getD k (0, 0, 0, 0)).2.2.2 (ys.getD k (0, 0, 0, 0)).2.2.2
      generalize (xs.getD k (0, 0, 0, 0)).1 = x0 at *
      generalize (ys.getD k (0, 0, 0, 0)).1 = y0 at *
      generalize (xs.getD k (0, 0, 0, 0)).2.1 = x1 at *
      generalize (ys.getD k (0, 0, 0, 0)).2.1 = y1 at *
      generalize (xs.getD k (0, 0, 0, 0)).2.2.1 = x2 at *
      generalize (ys.getD k (0, 0, 0, 0)).2.2.1 = y2 at *
      generalize (xs.getD k (0, 0, 0, 0)).2.2.2 = x3 at *
      generalize (ys.getD k (0, 0, 0, 0)).2.2.2 = y3 at *
      by_cases hxy : (x0, x1, x2, x3) = (y0, y1, y2, y3)
      · have HXY : Hid ((x0, x1, x2, x3) = (y0, y1, y2, y3)) := hxy
        rw [decide_eq_true hxy] at hq
        have HQ : Hid (∀ w, Calls Tryd.prog 73 #[.agg #[.int .i64 x0, .int .i64 x1, .int .i64 x2, .int .i64 x3], .agg #[.int .i64 y0, .int .i64 y1, .int .i64 y2, .int .i64 y3]] w fun e w' => e = .returned (.bool true) ∧ Below w.heap.size w w') := hq
        clear hxy hq
        go_wp2_with fail
        have HBd : Hid (Below w.heap.size w wr.drew) := HB.out.drew
        go_region_held3 (fun w' => w'.cell? ⟨b, o + k * 4, none⟩ = some (.int .i64 x0) ∧ w'.cell? ⟨b, o + k * 4 + 1, none⟩ = some (.int .i64 x1) ∧ w'.cell? ⟨b, o + k * 4 + 2, none⟩ = some (.int .i64 x2) ∧ w'.cell? ⟨b, o + k * 4 + 3, none⟩ = some (.int .i64 x3) ∧ w'.cell? ⟨b', o' + k * 4, none⟩ = some (.int .i64 y0) ∧ w'.cell? ⟨b', o' + k * 4 + 1, none⟩ = some (.int .i64 y1) ∧ w'.cell? ⟨b', o' + k * 4 + 2, none⟩ = some (.int .i64 y2) ∧ w'.cell? ⟨b', o' + k * 4 + 3, none⟩ = some (.int .i64 y3)) (first | go_keep) (first
          | (go_at_call 73; refine (HQ.out _).mono ?_; rintro e w1 ⟨rfl, hb1⟩; have k0 := cell_keep (S := 0) (w1 := wr.drew) hb1 g0; have k1 := cell_keep (S := 0) (w1 := wr.drew) hb1 g1; have k2 := cell_keep (S := 0) (w1 := wr.drew) hb1 g2; have k3 := cell_keep (S := 0) (w1 := wr.drew) hb1 g3; have k4 := cell_keep (S := 0) (w1 := wr.drew) hb1 g4; have k5 := cell_keep (S := 0) (w1 := wr.drew) hb1 g5; have k6 := cell_keep (S := 0) (w1 := wr.drew) hb1 g6; have k7 := cell_keep (S := 0) (w1 := wr.drew) hb1 g7; have HB1 : Hid (Below w.heap.size w w1) := HBd.out.trans (hb1.mono HBd.out.size); clear hb1))
        all_goals go_wp2
        all_goals go_roundw
        case rel => exact ⟨k + 1, by omega, by go_num, take_eq_succR (by rw [HX.out]; omega) (by rw [HY.out]; omega) HT.out (by rw [H1.out, H2.out]; exact HXY.out), HB1⟩
        case measure => simp [intOf]; omega
      · have HXY : Hid ((x0, x1, x2, x3) ≠ (y0, y1, y2, y3)) := hxy
        rw [decide_eq_false hxy] at hq
        have HQ : Hid (∀ w, Calls Tryd.prog 73 #[.agg #[.int .i64 x0, .int .i64 x1, .int .i64 x2, .int .i64 x3], .agg #[.int .i64 y0, .int .i64 y1, .int .i64 y2, .int .i64 y3]] w fun e w' => e = .returned (.bool false) ∧ Below w.heap.size w w') := hq
        clear hxy hq
        go_wp2_with fail
        have HBd : Hid (Below w.heap.size w wr.drew) := HB.out.drew
        go_region_held3 (fun w' => w'.cell? ⟨b, o + k * 4, none⟩ = some (.int .i64 x0) ∧ w'.cell? ⟨b, o + k * 4 + 1, none⟩ = some (.int .i64 x1) ∧ w'.cell? ⟨b, o + k * 4 + 2, none⟩ = some (.int .i64 x2) ∧ w'.cell? ⟨b, o + k * 4 + 3, none⟩ = some (.int .i64 x3) ∧ w'.cell? ⟨b', o' + k * 4, none⟩ = some (.int .i64 y0) ∧ w'.cell? ⟨b', o' + k * 4 + 1, none⟩ = some (.int .i64 y1) ∧ w'.cell? ⟨b', o' + k * 4 + 2, none⟩ = some (.int .i64 y2) ∧ w'.cell? ⟨b', o' + k * 4 + 3, none⟩ = some (.int .i64 y3)) (first | go_keep) (first
          | (go_at_call 73; refine (HQ.out _).mono ?_; rintro e w1 ⟨rfl, hb1⟩; have k0 := cell_keep (S := 0) (w1 := wr.drew) hb1 g0; have k1 := cell_keep (S := 0) (w1 := wr.drew) hb1 g1; have k2 := cell_keep (S := 0) (w1 := wr.drew) hb1 g2; have k3 := cell_keep (S := 0) (w1 := wr.drew) hb1 g3; have k4 := cell_keep (S := 0) (w1 := wr.drew) hb1 g4; have k5 := cell_keep (S := 0) (w1 := wr.drew) hb1 g5; have k6 := cell_keep (S := 0) (w1 := wr.drew) hb1 g6; have k7 := cell_keep (S := 0) (w1 := wr.drew) hb1 g7; have HB1 : Hid (Below w.heap.size w w1) := HBd.out.trans (hb1.mono HBd.out.size); clear hb1))
        all_goals go_wp2
        all_goals go_ret
        all_goals refine ⟨?_, HB1.out⟩
        all_goals have : xs ≠ ys := fun e => HXY.out (by rw [← H1.out, ← H2.out, e])
        all_goals simp [this]
    · go_wp2
      go_ret
      refine ⟨?_, HB.out⟩
      have e : xs = ys := by
        have := HT.out
        rwa [List.take_of_length_le (by rw [HX.out]; omega), List.take_of_length_le (by rw [HY.out]; omega)] at this
      simp [e]

theorem eqReceiptS_c (ao bo : Option Addr) (n m c d : Nat) (xs ys : List (Int × Int × Int × Int)) (w : World) (hx : xs.length = n) (hy : ys.length = m) (hn : n ≤ 17592186044416) (hm : m ≤ 17592186044416) (hr : RdR w ao xs) (hs : RdR w bo ys) :
    Calls Tryd.prog 37 #[.slice ao n c, .slice bo m d] w fun e w' => e = .returned (.bool (decide (xs = ys))) ∧ Below w.heap.size w w' := by
  by_cases hnm : n = m
  · subst hnm
    by_cases h0 : n = 0
    · subst h0
      have e1 : xs = [] := List.length_eq_zero_iff.1 hx
      have e2 : ys = [] := List.length_eq_zero_iff.1 hy
      subst e1 e2
      refine (eqReceiptS_nil ao bo c d w).mono ?_
      rintro e w' ⟨rfl, rfl⟩
      exact ⟨by simp, Below.refl _ _⟩
    · obtain ⟨b, o, rfl, _⟩ := hr.get (k := 0) (by omega)
      obtain ⟨b', o', rfl, _⟩ := hs.get (k := 0) (by omega)
      exact eqReceiptS_at b o n c b' o' d xs ys w hx hy (by omega) hr hs
  · refine (eqReceiptS_ne ao bo n m c d w hnm (by omega) (by omega)).mono ?_
    rintro e w' ⟨rfl, rfl⟩
    refine ⟨?_, Below.refl _ _⟩
    have : xs ≠ ys := fun e => hnm (by rw [← hx, ← hy, e])
    simp [this]

set_option maxHeartbeats 1000000 in
theorem toReceipt_c (x0 : Int) (x1 : Int) (x2 : Int) (x3 : Int) (w : World) : Calls Tryd.prog 32 #[.agg #[.int .i64 x0, .int .i64 x1, .int .i64 x2, .int .i64 x3]] w fun e w' => e = .returned (.agg #[.int .i64 x0, .int .i64 x1, .int .i64 x2, .int .i64 x3]) ∧ Below w.heap.size w w' := by
  go_enter Tryd.func32, Tryd.ntmps32
  go_wp2
  refine bodyPost_ret (v := .agg #[.int .i64 x0, .int .i64 x1, .int .i64 x2, .int .i64 x3]) (by simp [results, Tryd.results32, go_sem, ]; try rfl) rfl ?_
  exact ⟨rfl, (((Below.refl _ w).alloc (Nat.le_refl _) _).alloc (by simp) _).alloc (by simp; omega) _⟩

theorem madeR : ∀ n : Nat, (madeCells (Value.agg #[.int .i64 0, .int .i64 0, .int .i64 0, .int .i64 0]).cells (n * 4)).toList = cellsR (List.replicate n (0, 0, 0, 0)) := by
  intro n
  have hl : (cellsR (List.replicate n (0, 0, 0, 0))).length = n * 4 := by rw [cellsR_length, List.length_replicate]
  refine List.ext_getElem? fun j => ?_
  by_cases hjn : j < n * 4
  · have hj : j / 4 < n := by omega
    have hc := cellsR_at (List.replicate n (0, 0, 0, 0)) (j / 4) (by simpa using hj)
    have e0 : (List.replicate n ((0 : Int), (0 : Int), (0 : Int), (0 : Int))).getD (j / 4) (0, 0, 0, 0) = (0, 0, 0, 0) := by simp [List.getD, hj]
    rw [e0] at hc
    have hm : (madeCells (Value.agg #[.int .i64 0, .int .i64 0, .int .i64 0, .int .i64 0]).cells (n * 4)).toList[j]? = some (#[.int .i64 0, .int .i64 0, .int .i64 0, .int .i64 0][j % 4]!) := by
      rw [Array.getElem?_toList]
      simp only [madeCells, Array.getElem?_map]
      rw [Array.getElem?_range]
      rw [if_pos hjn]
      rfl
    rw [hm]
    rcases (by omega : j % 4 = 0 ∨ j % 4 = 1 ∨ j % 4 = 2 ∨ j % 4 = 3) with h | h | h | h
    · have h2 := hc.1
      rw [show j / 4 * 4 = j by omega] at h2
      rw [h2, h]; rfl
    · have h2 := hc.2.1
      rw [show j / 4 * 4 + 1 = j by omega] at h2
      rw [h2, h]; rfl
    · have h2 := hc.2.2.1
      rw [show j / 4 * 4 + 2 = j by omega] at h2
      rw [h2, h]; rfl
    · have h2 := hc.2.2.2
      rw [show j / 4 * 4 + 3 = j by omega] at h2
      rw [h2, h]; rfl
  · rw [List.getElem?_eq_none (by rw [Array.length_toList, size_madeCells]; omega), List.getElem?_eq_none (by omega)]

set_option maxHeartbeats 1000000 in
theorem toReceiptS_at (b o n c : Nat) (xs : List (Int × Int × Int × Int)) (w : World) (hx : xs.length = n) (hn : n ≤ 1048576) (hrx : RdR w (some ⟨b, o, none⟩) xs) :
    Calls Tryd.prog 35 #[.slice (some ⟨b, o, none⟩) n c] w fun e w' => ∃ v, e = .returned v ∧ OwnR w' w.heap.size v xs ∧ Below w.heap.size w w' := by
  obtain ⟨i0, hi, hz0, hz1, hz2⟩ := info_parts Tryd.infoReceipt
  have HX : Hid (xs.length = n) := hx
  have HRX : Hid (RdR w (some ⟨b, o, none⟩) xs) := hrx
  clear hx hrx
  go_enter Tryd.func35, Tryd.ntmps35
  go_wp2_with (at_make; refine wpList_make_full _ rfl _ _ 26 rfl w.heap.size 43 i0 (.agg #[.int .i64 0, .int .i64 0, .int .i64 0, .int .i64 0]) 4 Tryd.underlying26 hi hz0 hz1 _ _ _ _ n rfl rfl rfl rfl (by rw [hz2]; omega) (by unfold maxLen; omega) (Nat.le_refl _) ?_; intro w0 hown0 hgrow0)
  have hb0 : Below w.heap.size w w0 := (Below.refl _ _).grown hgrow0 (Nat.le_refl _) (fun k h => by cases h)
  have HO : Hid (∃ ys : List (Int × Int × Int × Int), ys.length = n ∧ ys.take 0 = xs.take 0 ∧ w0.ownsRow w.heap.size 43 4 (.slice (some ⟨w.heap.size, 0, none⟩) n n) n (cellsR ys)) := ⟨List.replicate n (0, 0, 0, 0), by simp, by simp, by
    rw [← madeR]; exact hown0⟩
  clear hown0 hgrow0
  go_wp2
  go_loopw [4] (fun i wr => ∃ k : Nat, k ≤ n ∧ i = .int .i64 k ∧ Hid (∃ ys : List (Int × Int × Int × Int), ys.length = n ∧ ys.take k = xs.take k ∧ wr.ownsRow w.heap.size 43 4 (.slice (some ⟨w.heap.size, 0, none⟩) n n) n (cellsR ys)) ∧ Hid (Below w.heap.size w wr)) (fun i _ => n - (intOf i).toNat)
  case atStart => exact ⟨0, Nat.zero_le _, rfl, HO, hb0⟩
  case round =>
    clear HO hb0
    obtain ⟨k, hk, rfl, hO, hbel⟩ := hrel
    by_cases hlt : k < n
    · obtain ⟨ys, hyl, hyt, hyo⟩ := hO.out
      clear hO
      obtain ⟨b1, o1, hb1, g0, g1, g2, g3⟩ := (HRX.out.later hbel.out).get (k := k) (by rw [HX.out]; exact hlt)
      simp only [Option.some.injEq, Addr.mk.injEq] at hb1
      obtain ⟨rfl, rfl, _⟩ := hb1
      have HE : Hid (xs.getD k (0, 0, 0, 0) = ((xs.getD k (0, 0, 0, 0)).1, (xs.getD k (0, 0, 0, 0)).2.1, (xs.getD k (0, 0, 0, 0)).2.2.1, (xs.getD k (0, 0, 0, 0)).2.2.2)) := rfl
      generalize (xs.getD k (0, 0, 0, 0)).1 = x0 at *
      generalize (xs.getD k (0, 0, 0, 0)).2.1 = x1 at *
      generalize (xs.getD k (0, 0, 0, 0)).2.2.1 = x2 at *
      generalize (xs.getD k (0, 0, 0, 0)).2.2.2 = x3 at *
      have HY : Hid (ys.length = n ∧ ys.take k = xs.take k ∧ wr.ownsRow w.heap.size 43 4 (.slice (some ⟨w.heap.size, 0, none⟩) n n) n (cellsR ys)) := ⟨hyl, hyt, hyo⟩
      clear hyl hyt hyo
      go_wp2_with fail
      refine (toReceipt_c x0 x1 x2 x3 _).mono ?_
      rintro e w1 ⟨rfl, hb1⟩
      have hO1 : w1.ownsRow w.heap.size 43 4 (.slice (some ⟨w.heap.size, 0, none⟩) n n) n (cellsR ys) := ((OwnR.of HY.out.2.2 HY.out.1).later hb1).raw HY.out.1
      have c1 := cellsR_at ys k (by rw [HY.out.1]; exact hlt)
      have d0 : w1.cell? ⟨w.heap.size, k * 4, none⟩ = some (.int .i64 (ys.getD k (0, 0, 0, 0)).1) := by rw [World.ownsRow.cellAt hO1 (k * 4) (by omega)]; exact c1.1
      have f0 : w1.frozen? ⟨w.heap.size, k * 4, none⟩ = false := World.ownsRow.frozenAt hO1 _
      have d1 : w1.cell? ⟨w.heap.size, k * 4 + 1, none⟩ = some (.int .i64 (ys.getD k (0, 0, 0, 0)).2.1) := by rw [World.ownsRow.cellAt hO1 (k * 4 + 1) (by omega)]; exact c1.2.1
      have f1 : w1.frozen? ⟨w.heap.size, k * 4 + 1, none⟩ = false := World.ownsRow.frozenAt hO1 _
      have d2 : w1.cell? ⟨w.heap.size, k * 4 + 2, none⟩ = some (.int .i64 (ys.getD k (0, 0, 0, 0)).2.2.1) := by rw [World.ownsRow.cellAt hO1 (k * 4 + 2) (by omega)]; exact c1.2.2.1
      have f2 : w1.frozen? ⟨w.heap.size, k * 4 + 2, none⟩ = false := World.ownsRow.frozenAt hO1 _
      have d3 : w1.cell? ⟨w.heap.size, k * 4 + 3, none⟩ = some (.int .i64 (ys.getD k (0, 0, 0, 0)).2.2.2) := by rw [World.ownsRow.cellAt hO1 (k * 4 + 3) (by omega)]; exact c1.2.2.2
      have f3 : w1.frozen? ⟨w.heap.size, k * 4 + 3, none⟩ = false := World.ownsRow.frozenAt hO1 _
      have HB1 : Hid (Below w.heap.size w w1) := hbel.out.trans (hb1.mono hbel.out.size)
      have HO1 : Hid (w1.ownsRow w.heap.size 43 4 (.slice (some ⟨w.heap.size, 0, none⟩) n n) n (cellsR ys)) := hO1
      generalize (ys.getD k (0, 0, 0, 0)).1 = z0 at d0
      generalize (ys.getD k (0, 0, 0, 0)).2.1 = z1 at d1
      generalize (ys.getD k (0, 0, 0, 0)).2.2.1 = z2 at d2
      generalize (ys.getD k (0, 0, 0, 0)).2.2.2 = z3 at d3
      clear hO1 c1 hb1 g0 g1 g2 g3
      go_wp2
      go_roundw
      case rel =>
        have hst := (World.ownsRow.stored (World.ownsRow.stored (World.ownsRow.stored (World.ownsRow.stored HO1.out (k * 4) (.int .i64 x0)).1 (k * 4 + 1) (.int .i64 x1)).1 (k * 4 + 2) (.int .i64 x2)).1 (k * 4 + 3) (.int .i64 x3)).1
        rw [cellsR_set] at hst
        refine ⟨k + 1, by omega, by go_num, ⟨ys.set k (x0, x1, x2, x3), by simpa using HY.out.1, ?_, hst⟩, ((((HB1.out.setCell (Nat.le_refl _) _).setCell (Nat.le_refl _) _).setCell (Nat.le_refl _) _).setCell (Nat.le_refl _) _)⟩
        refine take_eq_succR (by simp; rw [HY.out.1]; omega) (by rw [HX.out]; omega) ?_ ?_
        · rw [List.take_set_of_le (Nat.le_refl _)]; exact HY.out.2.1
        · rw [HE.out]; simp [List.getD, show k < ys.length by rw [HY.out.1]; omega]
      case measure => simp [intOf]; omega
    · go_wp2
      go_ret
      obtain ⟨ys, hyl, hyt, hyo⟩ := hO.out
      have e : ys = xs := by
        rwa [List.take_of_length_le (by omega), List.take_of_length_le (by rw [HX.out]; omega)] at hyt
      subst e
      exact ⟨_, rfl, OwnR.of hyo hyl, hbel.out⟩

theorem toReceiptS_nil (ao : Option Addr) (c : Nat) (w : World) :
    Calls Tryd.prog 35 #[.slice ao 0 c] w fun e w' => ∃ v, e = .returned v ∧ OwnR w' w.heap.size v [] ∧ Below w.heap.size w w' := by
  obtain ⟨i0, hi, hz0, hz1, hz2⟩ := info_parts Tryd.infoReceipt
  go_enter Tryd.func35, Tryd.ntmps35
  go_wp2_with (at_make; refine wpList_make_full _ rfl _ _ 26 rfl w.heap.size 43 i0 (.agg #[.int .i64 0, .int .i64 0, .int .i64 0, .int .i64 0]) 4 Tryd.underlying26 hi hz0 hz1 _ _ _ _ 0 rfl rfl rfl rfl (by rw [hz2]; omega) (by unfold maxLen; omega) (Nat.le_refl _) ?_; intro w0 hown0 hgrow0)
  have hb0 : Below w.heap.size w w0 := (Below.refl _ _).grown hgrow0 (Nat.le_refl _) (fun k h => by cases h)
  refine wp_loop_rounds 1 ?_
  rw [rounds_succ]
  go_wp2
  go_ret
  exact ⟨_, rfl, by simpa [OwnR, cellsR, madeCells] using hown0, hb0⟩

theorem toReceiptS_c (ao : Option Addr) (n c : Nat) (xs : List (Int × Int × Int × Int)) (w : World) (hx : xs.length = n) (hn : n ≤ 1048576) (hr : RdR w ao xs) :
    Calls Tryd.prog 35 #[.slice ao n c] w fun e w' => ∃ a' c', e = .returned (.slice a' n c') ∧ OwnR w' w.heap.size (.slice a' n c') xs ∧ Below w.heap.size w w' := by
  have h : Calls Tryd.prog 35 #[.slice ao n c] w fun e w' => ∃ v, e = .returned v ∧ OwnR w' w.heap.size v xs ∧ Below w.heap.size w w' := by
    by_cases h0 : n = 0
    · subst h0
      have e1 : xs = [] := List.length_eq_zero_iff.1 hx
      subst e1
      exact toReceiptS_nil _ _ _
    · obtain ⟨b, o, rfl, _⟩ := hr.get (k := 0) (by omega)
      exact toReceiptS_at b o n c xs w hx hn hr
  refine h.mono ?_
  rintro e w' ⟨v, rfl, ho, hb⟩
  obtain ⟨a', c', hv⟩ := ho.shape
  rw [hx] at hv
  subst hv
  exact ⟨a', c', rfl, ho, hb⟩

/-- The marks of a row of n. -/
def marksR (k n : Nat) : List (Int × Int × Int × Int) := (List.range n).map (fun j : Nat => (((k + 4 * j : Nat) : Int), ((k + 4 * j + 1 : Nat) : Int), ((k + 4 * j + 2 : Nat) : Int), ((k + 4 * j + 3 : Nat) : Int)))
theorem marksR_length (k n : Nat) : (marksR k n).length = n := by simp [marksR]
theorem marksR_getD (k n j : Nat) (h : j < n) : (marksR k n).getD j (0, 0, 0, 0) = (((k + 4 * j : Nat) : Int), ((k + 4 * j + 1 : Nat) : Int), ((k + 4 * j + 2 : Nat) : Int), ((k + 4 * j + 3 : Nat) : Int)) := by simp [marksR, List.getD, h]
theorem marksR_of (k n : Nat) (ys : List (Int × Int × Int × Int)) (hl : ys.length = n) (h : ∀ j : Nat, j < n → ys.getD j (0, 0, 0, 0) = (((k + 4 * j : Nat) : Int), ((k + 4 * j + 1 : Nat) : Int), ((k + 4 * j + 2 : Nat) : Int), ((k + 4 * j + 3 : Nat) : Int))) : ys = marksR k n := by
  refine List.ext_getElem (by rw [hl, marksR_length]) fun j h1 h2 => ?_
  have e1 := h j (by omega)
  have e2 := marksR_getD k n j (by omega)
  rw [List.getD, List.getElem?_eq_getElem h1, Option.getD_some] at e1
  rw [List.getD, List.getElem?_eq_getElem h2, Option.getD_some] at e2
  rw [e1, e2]

end Go.Proofs.YtdhnolafkgkliaaDoor
