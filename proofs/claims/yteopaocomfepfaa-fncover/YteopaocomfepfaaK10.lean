/- Lists of CoverStep: contracts of the helpers. -/
import Derived.Test.YteopaocomfepfaaX10
import Derived.Deep.RegionWith
import Derived.Deep.RegionHeld3
namespace Go.Proofs.Yteopaocomfepfaa
set_option linter.unusedVariables false
set_option maxRecDepth 1000000
set_option linter.unusedSimpArgs false
open Go.RowKit

theorem Try.infoCoverStep : (Try.prog.info? 39).map (fun i => (i.zero, i.size, i.bytes)) = some (some (.agg #[.int .i64 0, .string ByteArray.empty]), 2, 24) := by kernel_rfl

def cellsK (l : List (Int × ByteArray)) : List Value := l.flatMap fun p => [.int .i64 p.1, .string p.2]
theorem cellsK_cons (p : Int × ByteArray) (l : List (Int × ByteArray)) : cellsK (p :: l) = .int .i64 p.1 :: .string p.2 :: cellsK l := rfl
theorem cellsK_length : ∀ l : List (Int × ByteArray), (cellsK l).length = l.length * 2
  | [] => rfl
  | p :: l => by rw [cellsK_cons]; simp only [List.length_cons]; rw [cellsK_length l]; omega
theorem cellsK_one (l : List (Int × ByteArray)) : ∀ u ∈ cellsK l, u.oneCell' = true := by
  intro u hu
  obtain ⟨p, _, h⟩ := List.mem_flatMap.1 hu
  simp at h
  rcases h with rfl | rfl <;> rfl
theorem cellsK_at : ∀ (l : List (Int × ByteArray)) (j : Nat), j < l.length → (cellsK l)[j * 2]? = some (.int .i64 (l.getD j (0, ByteArray.empty)).1) ∧ (cellsK l)[j * 2 + 1]? = some (.string (l.getD j (0, ByteArray.empty)).2)
  | [], j, h => by simp at h
  | p :: l, 0, _ => ⟨rfl, rfl⟩
  | p :: l, j + 1, h => by
    have ih := cellsK_at l j (by simpa using h)
    rw [show (j + 1) * 2 = j * 2 + 1 + 1 by omega, cellsK_cons]
    simpa using ih
theorem cellsK_set : ∀ (l : List (Int × ByteArray)) (j : Nat) (x0 : Int) (x1 : ByteArray), ((cellsK l).set (j * 2) (.int .i64 x0)).set (j * 2 + 1) (.string x1) = cellsK (l.set j (x0, x1))
  | [], j, _, _ => rfl
  | p :: l, 0, _, _ => rfl
  | p :: l, j + 1, x0, x1 => by
    have ih := cellsK_set l j x0 x1
    rw [show (j + 1) * 2 = j * 2 + 1 + 1 by omega, cellsK_cons]
    simp only [List.set_cons_succ, cellsK_cons]
    rw [ih]
theorem cellsK_app (l m : List (Int × ByteArray)) : cellsK (l ++ m) = cellsK l ++ cellsK m := by simp [cellsK]

/-- The slice at address ao of length l.length reads as l. -/
def RdK (w : World) (ao : Option Addr) (l : List (Int × ByteArray)) : Prop :=
  l = [] ∨ ∃ b off, ao = some ⟨b, off, none⟩ ∧ ∀ j, j < l.length → w.cell? ⟨b, off + j * 2, none⟩ = some (.int .i64 (l.getD j (0, ByteArray.empty)).1) ∧ w.cell? ⟨b, off + j * 2 + 1, none⟩ = some (.string (l.getD j (0, ByteArray.empty)).2)
/-- The slice value v is a row of the call's own that holds l. -/
def OwnK (w : World) (base : Nat) (v : Value) (l : List (Int × ByteArray)) : Prop := w.ownsRow base 39 2 v l.length (cellsK l)

theorem OwnK.form {w : World} {base : Nat} {v : Value} {xs : List (Int × ByteArray)} (h : OwnK w base v xs) : (v = .slice none 0 0 ∧ xs = []) ∨ ∃ g cap, v = .slice (some ⟨g, 0, none⟩) xs.length cap ∧ base ≤ g ∧ g < w.heap.size ∧ xs.length ≤ cap ∧ cap ≤ maxLen := by
  rcases h.2 with ⟨h1, h2⟩ | ⟨g, cap, cur, hv, hb, hg, hc, hm, _⟩
  · exact Or.inl ⟨h1, List.length_eq_zero_iff.1 h2⟩
  · exact Or.inr ⟨g, cap, hv, hb, (Array.getElem?_eq_some_iff.1 hg).1, hc, hm⟩
theorem OwnK.cell {w : World} {base g cap : Nat} {xs : List (Int × ByteArray)} (h : OwnK w base (.slice (some ⟨g, 0, none⟩) xs.length cap) xs) : ∀ j, j < xs.length → w.cell? ⟨g, j * 2, none⟩ = some (.int .i64 (xs.getD j (0, ByteArray.empty)).1) ∧ w.cell? ⟨g, j * 2 + 1, none⟩ = some (.string (xs.getD j (0, ByteArray.empty)).2) := fun j hj => by
  rw [World.ownsRow.cellAt h (j * 2) (by omega), World.ownsRow.cellAt h (j * 2 + 1) (by omega)]
  exact cellsK_at xs j hj
theorem OwnK.rd {w : World} {base : Nat} {v : Value} {xs : List (Int × ByteArray)} (h : OwnK w base v xs) : ∃ ao cap, v = .slice ao xs.length cap ∧ RdK w ao xs := by
  rcases h.form with ⟨rfl, rfl⟩ | ⟨g, cap, rfl, _⟩
  · exact ⟨none, 0, rfl, Or.inl rfl⟩
  · exact ⟨_, _, rfl, Or.inr ⟨g, 0, rfl, fun j hj => by simpa using h.cell j hj⟩⟩
theorem OwnK.later {w w' : World} {base : Nat} {v : Value} {xs : List (Int × ByteArray)} (h : OwnK w base v xs) (hb : Below w.heap.size w w') : OwnK w' base v xs := by
  refine ⟨h.1, ?_⟩
  rcases h.2 with h2 | ⟨g, cap, cur, hv, hg, hh, r⟩
  · exact Or.inl h2
  · exact Or.inr ⟨g, cap, cur, hv, hg, by rw [hb.block g (Array.getElem?_eq_some_iff.1 hh).1]; exact hh, r⟩
theorem OwnK.mono {w : World} {base base' : Nat} {v : Value} {xs : List (Int × ByteArray)} (h : OwnK w base v xs) (hb : base' ≤ base) : OwnK w base' v xs := by
  refine ⟨h.1, ?_⟩
  rcases h.2 with h2 | ⟨g, cap, cur, hv, hg, r⟩
  · exact Or.inl h2
  · exact Or.inr ⟨g, cap, cur, hv, Nat.le_trans hb hg, r⟩
theorem OwnK.kept {w w' : World} {base : Nat} {v : Value} {xs : List (Int × ByteArray)} {row : Option Nat} (h : OwnK w base v xs) (hg : w.grownBy w' row) (hne : v.ownBlock = none ∨ v.ownBlock ≠ row) : OwnK w' base v xs := World.ownsRow.kept h hg hne
theorem RdK.later {w w' : World} {ao : Option Addr} {xs : List (Int × ByteArray)} (h : RdK w ao xs) (hb : Below w.heap.size w w') : RdK w' ao xs := by
  rcases h with h | ⟨b, off, he, hc⟩
  · exact Or.inl h
  · refine Or.inr ⟨b, off, he, fun j hj => ?_⟩
    have h1 := World.block_lt_of_cell? w _ (hc j hj).1
    rw [hb.cell (p := ⟨b, off + j * 2, none⟩) h1, hb.cell (p := ⟨b, off + j * 2 + 1, none⟩) h1]
    exact hc j hj
theorem RdK.get {w : World} {ao : Option Addr} {xs : List (Int × ByteArray)} (h : RdK w ao xs) {k : Nat} (hk : k < xs.length) : ∃ b off, ao = some ⟨b, off, none⟩ ∧ w.cell? ⟨b, off + k * 2, none⟩ = some (.int .i64 (xs.getD k (0, ByteArray.empty)).1) ∧ w.cell? ⟨b, off + k * 2 + 1, none⟩ = some (.string (xs.getD k (0, ByteArray.empty)).2) := by
  rcases h with rfl | ⟨b, o, rfl, hc⟩
  · simp at hk
  · exact ⟨b, o, rfl, hc k hk⟩
theorem OwnK.shape {w : World} {base : Nat} {v : Value} {xs : List (Int × ByteArray)} (h : OwnK w base v xs) : ∃ ao cap, v = .slice ao xs.length cap := by
  obtain ⟨ao, cap, h1, _⟩ := h.rd
  exact ⟨ao, cap, h1⟩
theorem OwnK.rd' {w : World} {base n cap : Nat} {ao : Option Addr} {xs : List (Int × ByteArray)} (h : OwnK w base (.slice ao n cap) xs) : xs.length = n ∧ RdK w ao xs := by
  obtain ⟨ao', cap', h1, h2⟩ := h.rd
  simp only [Value.slice.injEq] at h1
  obtain ⟨rfl, h3, _⟩ := h1
  exact ⟨h3.symm, h2⟩
theorem take_eq_succK {xs ys : List (Int × ByteArray)} {k : Nat} (hx : k < xs.length) (hy : k < ys.length) (h : xs.take k = ys.take k) (e : xs.getD k (0, ByteArray.empty) = ys.getD k (0, ByteArray.empty)) : xs.take (k + 1) = ys.take (k + 1) := by
  rw [List.take_succ_eq_append_getElem hx, List.take_succ_eq_append_getElem hy, h]
  simp [List.getD, hx, hy] at e
  rw [e]
theorem own_pushK {w1 : World} {base : Nat} {v' : Value} {out : List (Int × ByteArray)} {x0 : Int} {x1 : ByteArray} (h : w1.ownsRow base 39 2 v' (out.length + 1) (cellsK out ++ [.int .i64 x0, .string x1])) : OwnK w1 base v' (out ++ [(x0, x1)]) := by
  unfold OwnK
  rw [show (out ++ [(x0, x1)]).length = out.length + 1 by simp, cellsK_app]
  exact h
theorem own_block_geK {w : World} {base : Nat} {v : Value} {xs : List (Int × ByteArray)} (h : OwnK w base v xs) : ∀ k, v.ownBlock = some k → base ≤ k := fun k hk => (World.ownsRow.lt h k hk).1
theorem OwnK.raw {w : World} {base : Nat} {v : Value} {xs : List (Int × ByteArray)} {n : Nat} (h : OwnK w base v xs) (hn : xs.length = n) : w.ownsRow base 39 2 v n (cellsK xs) := by rw [← hn]; exact h
theorem OwnK.of {w : World} {base : Nat} {v : Value} {xs : List (Int × ByteArray)} {n : Nat} (h : w.ownsRow base 39 2 v n (cellsK xs)) (hn : xs.length = n) : OwnK w base v xs := by unfold OwnK; rw [hn]; exact h

set_option maxHeartbeats 1000000 in
theorem eqCoverStep_c (x0 y0 : Int) (x1 y1 : ByteArray) (w : World) : Calls Try.prog 80 #[.agg #[.int .i64 x0, .string x1], .agg #[.int .i64 y0, .string y1]] w fun e w' => e = .returned (.bool (decide ((x0, x1) = (y0, y1)))) ∧ Below w.heap.size w w' := by
  by_cases h0 : x0 = y0
  case neg =>
    have e0 : (x0 != y0) = true := by simpa using h0
    go_enter Try.func80, Try.ntmps80
    go_wp2
    go_ret
    exact ⟨by simp [h0], ((Below.refl _ w).alloc (Nat.le_refl _) _).alloc (by simp) _⟩
  subst h0
  have e0 : (x0 != x0) = false := by simp
  by_cases h1 : x1 = y1
  case neg =>
    have e1 : (x1.toList == y1.toList) = false := by rw [beq_eq_false_iff_ne]; exact fun h => h1 (tl_inj h)
    go_enter Try.func80, Try.ntmps80
    go_wp2
    go_ret
    exact ⟨by simp [h1], ((Below.refl _ w).alloc (Nat.le_refl _) _).alloc (by simp) _⟩
  subst h1
  have e1 : (x1.toList == x1.toList) = true := by simp
  go_enter Try.func80, Try.ntmps80
  go_wp2
  go_ret
  exact ⟨by simp, ((Below.refl _ w).alloc (Nat.le_refl _) _).alloc (by simp) _⟩

theorem eqCoverStepS_ne (ao bo : Option Addr) (n m c d : Nat) (w : World) (hnm : n ≠ m) (hn : n ≤ 140737488355328) (hm : m ≤ 140737488355328) :
    Calls Try.prog 49 #[.slice ao n c, .slice bo m d] w fun e w' => e = .returned (.bool false) ∧ w' = w := by
  have hx : ((n : Int) != (m : Int)) = true := by rw [bne_iff_ne]; omega
  go_enter Try.func49, Try.ntmps49
  go_wp2
  go_ret
  exact ⟨rfl, rfl⟩

theorem eqCoverStepS_nil (ao bo : Option Addr) (c d : Nat) (w : World) :
    Calls Try.prog 49 #[.slice ao 0 c, .slice bo 0 d] w fun e w' => e = .returned (.bool true) ∧ w' = w := by
  go_enter Try.func49, Try.ntmps49
  go_wp2
  refine wp_loop_rounds 1 ?_
  rw [rounds_succ]
  go_wp2
  go_ret
  exact ⟨rfl, rfl⟩

set_option maxHeartbeats 1000000 in
theorem eqCoverStepS_at (b o n c b' o' d : Nat) (xs ys : List (Int × ByteArray)) (w : World) (hx : xs.length = n) (hy : ys.length = n) (hn : n ≤ 140737488355328) (hrx : RdK w (some ⟨b, o, none⟩) xs) (hry : RdK w (some ⟨b', o', none⟩) ys) :
    Calls Try.prog 49 #[.slice (some ⟨b, o, none⟩) n c, .slice (some ⟨b', o', none⟩) n d] w fun e w' => e = .returned (.bool (decide (xs = ys))) ∧ Below w.heap.size w w' := by
  have HX : Hid (xs.length = n) := hx
  have HY : Hid (ys.length = n) := hy
  have HRX : Hid (RdK w (some ⟨b, o, none⟩) xs) := hrx
  have HRY : Hid (RdK w (some ⟨b', o', none⟩) ys) := hry
  clear hx hy hrx hry
  go_enter Try.func49, Try.ntmps49
  go_wp2
  go_loopw [5] (fun i wr => ∃ k : Nat, k ≤ n ∧ i = .int .i64 k ∧ Hid (xs.take k = ys.take k) ∧ Hid (Below w.heap.size w wr)) (fun i _ => n - (intOf i).toNat)
  case atStart => exact ⟨0, Nat.zero_le _, rfl, rfl, Below.refl _ _⟩
  case round =>
    obtain ⟨k, hk, rfl, HT, HB⟩ := hrel
    by_cases hlt : k < n
    · have h0 : (0 : Int) ≤ (k : Int) := by omega
      have hl : (k : Int) < (n : Int) := by omega
      obtain ⟨b1, o1, hb1, g0, g1⟩ := (HRX.out.later HB.out).get (k := k) (by rw [HX.out]; exact hlt)
      simp only [Option.some.injEq, Addr.mk.injEq] at hb1
      obtain ⟨rfl, rfl, _⟩ := hb1
      obtain ⟨b2, o2, hb2, g2, g3⟩ := (HRY.out.later HB.out).get (k := k) (by rw [HY.out]; exact hlt)
      simp only [Option.some.injEq, Addr.mk.injEq] at hb2
      obtain ⟨rfl, rfl, _⟩ := hb2
      have H1 : Hid (xs.getD k (0, ByteArray.empty) = ((xs.getD k (0, ByteArray.empty)).1, (xs.getD k (0, ByteArray.empty)).2)) := rfl
      have H2 : Hid (ys.getD k (0, ByteArray.empty) = ((ys.getD k (0, ByteArray.empty)).1, (ys.getD k (0, ByteArray.empty)).2)) := rfl
      have hq := eqCoverStep_c (xs.getD k (0, ByteArray.empty)).1 (ys.getD k (0, ByteArray.empty)).1 (xs.getD k (0, ByteArray.empty)).2 (ys.getD k (0, ByteArray.empty)).2
      generalize (xs.getD k (0, ByteArray.empty)).1 = x0 at *
      generalize (ys.getD k (0, ByteArray.empty)).1 = y0 at *
      generalize (xs.getD k (0, ByteArray.empty)).2 = x1 at *
      generalize (ys.getD k (0, ByteArray.empty)).2 = y1 at *
      by_cases hxy : (x0, x1) = (y0, y1)
      · have HXY : Hid ((x0, x1) = (y0, y1)) := hxy
        rw [decide_eq_true hxy] at hq
        have HQ : Hid (∀ w, Calls Try.prog 80 #[.agg #[.int .i64 x0, .string x1], .agg #[.int .i64 y0, .string y1]] w fun e w' => e = .returned (.bool true) ∧ Below w.heap.size w w') := hq
        clear hxy hq
        go_wp2_with fail
        have HBd : Hid (Below w.heap.size w wr.drew) := HB.out.drew
        go_region_held3 (fun w' => w'.cell? ⟨b, o + k * 2, none⟩ = some (.int .i64 x0) ∧ w'.cell? ⟨b, o + k * 2 + 1, none⟩ = some (.string x1) ∧ w'.cell? ⟨b', o' + k * 2, none⟩ = some (.int .i64 y0) ∧ w'.cell? ⟨b', o' + k * 2 + 1, none⟩ = some (.string y1)) (first | go_keep) (first
          | (go_at_call 80; refine (HQ.out _).mono ?_; rintro e w1 ⟨rfl, hb1⟩; have k0 := cell_keep (S := 0) (w1 := wr.drew) hb1 g0; have k1 := cell_keep (S := 0) (w1 := wr.drew) hb1 g1; have k2 := cell_keep (S := 0) (w1 := wr.drew) hb1 g2; have k3 := cell_keep (S := 0) (w1 := wr.drew) hb1 g3; have HB1 : Hid (Below w.heap.size w w1) := HBd.out.trans (hb1.mono HBd.out.size); clear hb1))
        all_goals go_wp2
        all_goals go_roundw
        case rel => exact ⟨k + 1, by omega, by go_num, take_eq_succK (by rw [HX.out]; omega) (by rw [HY.out]; omega) HT.out (by rw [H1.out, H2.out]; exact HXY.out), HB1⟩
        case measure => simp [intOf]; omega
      · have HXY : Hid ((x0, x1) ≠ (y0, y1)) := hxy
        rw [decide_eq_false hxy] at hq
        have HQ : Hid (∀ w, Calls Try.prog 80 #[.agg #[.int .i64 x0, .string x1], .agg #[.int .i64 y0, .string y1]] w fun e w' => e = .returned (.bool false) ∧ Below w.heap.size w w') := hq
        clear hxy hq
        go_wp2_with fail
        have HBd : Hid (Below w.heap.size w wr.drew) := HB.out.drew
        go_region_held3 (fun w' => w'.cell? ⟨b, o + k * 2, none⟩ = some (.int .i64 x0) ∧ w'.cell? ⟨b, o + k * 2 + 1, none⟩ = some (.string x1) ∧ w'.cell? ⟨b', o' + k * 2, none⟩ = some (.int .i64 y0) ∧ w'.cell? ⟨b', o' + k * 2 + 1, none⟩ = some (.string y1)) (first | go_keep) (first
          | (go_at_call 80; refine (HQ.out _).mono ?_; rintro e w1 ⟨rfl, hb1⟩; have k0 := cell_keep (S := 0) (w1 := wr.drew) hb1 g0; have k1 := cell_keep (S := 0) (w1 := wr.drew) hb1 g1; have k2 := cell_keep (S := 0) (w1 := wr.drew) hb1 g2; have k3 := cell_keep (S := 0) (w1 := wr.drew) hb1 g3; have HB1 : Hid (Below w.heap.size w w1) := HBd.out.trans (hb1.mono HBd.out.size); clear hb1))
        all_goals go_wp2
        all_goals go_ret
        all_goals refine ⟨?_, HB1.out⟩
        all_goals have : xs ≠ ys := fun e => HXY.out (by rw [← H1.out, ← H2.out, e])
        all_goals simp [this]
    · go_wp2
      go_ret
      refine ⟨?_, HB.out⟩
      have e : xs = ys := by
        have := HT.out
        rwa [List.take_of_length_le (by rw [HX.out]; omega), List.take_of_length_le (by rw [HY.out]; omega)] at this
      simp [e]

theorem eqCoverStepS_c (ao bo : Option Addr) (n m c d : Nat) (xs ys : List (Int × ByteArray)) (w : World) (hx : xs.length = n) (hy : ys.length = m) (hn : n ≤ 17592186044416) (hm : m ≤ 17592186044416) (hr : RdK w ao xs) (hs : RdK w bo ys) :
    Calls Try.prog 49 #[.slice ao n c, .slice bo m d] w fun e w' => e = .returned (.bool (decide (xs = ys))) ∧ Below w.heap.size w w' := by
  by_cases hnm : n = m
  · subst hnm
    by_cases h0 : n = 0
    · subst h0
      have e1 : xs = [] := List.length_eq_zero_iff.1 hx
      have e2 : ys = [] := List.length_eq_zero_iff.1 hy
      subst e1 e2
      refine (eqCoverStepS_nil ao bo c d w).mono ?_
      rintro e w' ⟨rfl, rfl⟩
      exact ⟨by simp, Below.refl _ _⟩
    · obtain ⟨b, o, rfl, _⟩ := hr.get (k := 0) (by omega)
      obtain ⟨b', o', rfl, _⟩ := hs.get (k := 0) (by omega)
      exact eqCoverStepS_at b o n c b' o' d xs ys w hx hy (by omega) hr hs
  · refine (eqCoverStepS_ne ao bo n m c d w hnm (by omega) (by omega)).mono ?_
    rintro e w' ⟨rfl, rfl⟩
    refine ⟨?_, Below.refl _ _⟩
    have : xs ≠ ys := fun e => hnm (by rw [← hx, ← hy, e])
    simp [this]

set_option maxHeartbeats 1000000 in
theorem toCoverStep_c (x0 : Int) (x1 : ByteArray) (w : World) : Calls Try.prog 42 #[.agg #[.int .i64 x0, .string x1]] w fun e w' => e = .returned (.agg #[.int .i64 x0, .string x1]) ∧ Below w.heap.size w w' := by
  go_enter Try.func42, Try.ntmps42
  go_wp2
  refine bodyPost_ret (v := .agg #[.int .i64 x0, .string x1]) (by simp [results, Try.results42, go_sem, ]; try rfl) rfl ?_
  exact ⟨rfl, (((Below.refl _ w).alloc (Nat.le_refl _) _).alloc (by simp) _).alloc (by simp; omega) _⟩

theorem madeK : ∀ n : Nat, (madeCells (Value.agg #[.int .i64 0, .string ByteArray.empty]).cells (n * 2)).toList = cellsK (List.replicate n (0, ByteArray.empty)) := by
  intro n
  have hl : (cellsK (List.replicate n (0, ByteArray.empty))).length = n * 2 := by rw [cellsK_length, List.length_replicate]
  refine List.ext_getElem? fun j => ?_
  by_cases hjn : j < n * 2
  · have hj : j / 2 < n := by omega
    have hc := cellsK_at (List.replicate n (0, ByteArray.empty)) (j / 2) (by simpa using hj)
    have e0 : (List.replicate n ((0 : Int), (ByteArray.empty : ByteArray))).getD (j / 2) (0, ByteArray.empty) = (0, ByteArray.empty) := by simp [List.getD, hj]
    rw [e0] at hc
    have hm : (madeCells (Value.agg #[.int .i64 0, .string ByteArray.empty]).cells (n * 2)).toList[j]? = some (#[.int .i64 0, .string ByteArray.empty][j % 2]!) := by
      rw [Array.getElem?_toList]
      simp only [madeCells, Array.getElem?_map]
      rw [Array.getElem?_range]
      rw [if_pos hjn]
      rfl
    rw [hm]
    rcases (by omega : j % 2 = 0 ∨ j % 2 = 1) with h | h
    · have h2 := hc.1
      rw [show j / 2 * 2 = j by omega] at h2
      rw [h2, h]; rfl
    · have h2 := hc.2
      rw [show j / 2 * 2 + 1 = j by omega] at h2
      rw [h2, h]; rfl
  · rw [List.getElem?_eq_none (by rw [Array.length_toList, size_madeCells]; omega), List.getElem?_eq_none (by omega)]

set_option maxHeartbeats 1000000 in
theorem toCoverStepS_at (b o n c : Nat) (xs : List (Int × ByteArray)) (w : World) (hx : xs.length = n) (hn : n ≤ 1048576) (hrx : RdK w (some ⟨b, o, none⟩) xs) :
    Calls Try.prog 45 #[.slice (some ⟨b, o, none⟩) n c] w fun e w' => ∃ v, e = .returned v ∧ OwnK w' w.heap.size v xs ∧ Below w.heap.size w w' := by
  obtain ⟨i0, hi, hz0, hz1, hz2⟩ := info_parts Try.infoCoverStep
  have HX : Hid (xs.length = n) := hx
  have HRX : Hid (RdK w (some ⟨b, o, none⟩) xs) := hrx
  clear hx hrx
  go_enter Try.func45, Try.ntmps45
  go_wp2_with (at_make; refine wpList_make_full _ rfl _ _ 23 rfl w.heap.size 39 i0 (.agg #[.int .i64 0, .string ByteArray.empty]) 2 Try.underlying23 hi hz0 hz1 _ _ _ _ n rfl rfl rfl rfl (by rw [hz2]; omega) (by unfold maxLen; omega) (Nat.le_refl _) ?_; intro w0 hown0 hgrow0)
  have hb0 : Below w.heap.size w w0 := (Below.refl _ _).grown hgrow0 (Nat.le_refl _) (fun k h => by cases h)
  have HO : Hid (∃ ys : List (Int × ByteArray), ys.length = n ∧ ys.take 0 = xs.take 0 ∧ w0.ownsRow w.heap.size 39 2 (.slice (some ⟨w.heap.size, 0, none⟩) n n) n (cellsK ys)) := ⟨List.replicate n (0, ByteArray.empty), by simp, by simp, by
    rw [← madeK]; exact hown0⟩
  clear hown0 hgrow0
  go_wp2
  go_loopw [4] (fun i wr => ∃ k : Nat, k ≤ n ∧ i = .int .i64 k ∧ Hid (∃ ys : List (Int × ByteArray), ys.length = n ∧ ys.take k = xs.take k ∧ wr.ownsRow w.heap.size 39 2 (.slice (some ⟨w.heap.size, 0, none⟩) n n) n (cellsK ys)) ∧ Hid (Below w.heap.size w wr)) (fun i _ => n - (intOf i).toNat)
  case atStart => exact ⟨0, Nat.zero_le _, rfl, HO, hb0⟩
  case round =>
    clear HO hb0
    obtain ⟨k, hk, rfl, hO, hbel⟩ := hrel
    by_cases hlt : k < n
    · obtain ⟨ys, hyl, hyt, hyo⟩ := hO.out
      clear hO
      obtain ⟨b1, o1, hb1, g0, g1⟩ := (HRX.out.later hbel.out).get (k := k) (by rw [HX.out]; exact hlt)
      simp only [Option.some.injEq, Addr.mk.injEq] at hb1
      obtain ⟨rfl, rfl, _⟩ := hb1
      have HE : Hid (xs.getD k (0, ByteArray.empty) = ((xs.getD k (0, ByteArray.empty)).1, (xs.getD k (0, ByteArray.empty)).2)) := rfl
      generalize (xs.getD k (0, ByteArray.empty)).1 = x0 at *
      generalize (xs.getD k (0, ByteArray.empty)).2 = x1 at *
      have HY : Hid (ys.length = n ∧ ys.take k = xs.take k ∧ wr.ownsRow w.heap.size 39 2 (.slice (some ⟨w.heap.size, 0, none⟩) n n) n (cellsK ys)) := ⟨hyl, hyt, hyo⟩
      clear hyl hyt hyo
      go_wp2_with fail
      refine (toCoverStep_c x0 x1 _).mono ?_
      rintro e w1 ⟨rfl, hb1⟩
      have hO1 : w1.ownsRow w.heap.size 39 2 (.slice (some ⟨w.heap.size, 0, none⟩) n n) n (cellsK ys) := ((OwnK.of HY.out.2.2 HY.out.1).later hb1).raw HY.out.1
      have c1 := cellsK_at ys k (by rw [HY.out.1]; exact hlt)
      have d0 : w1.cell? ⟨w.heap.size, k * 2, none⟩ = some (.int .i64 (ys.getD k (0, ByteArray.empty)).1) := by rw [World.ownsRow.cellAt hO1 (k * 2) (by omega)]; exact c1.1
      have f0 : w1.frozen? ⟨w.heap.size, k * 2, none⟩ = false := World.ownsRow.frozenAt hO1 _
      have d1 : w1.cell? ⟨w.heap.size, k * 2 + 1, none⟩ = some (.string (ys.getD k (0, ByteArray.empty)).2) := by rw [World.ownsRow.cellAt hO1 (k * 2 + 1) (by omega)]; exact c1.2
      have f1 : w1.frozen? ⟨w.heap.size, k * 2 + 1, none⟩ = false := World.ownsRow.frozenAt hO1 _
      have HB1 : Hid (Below w.heap.size w w1) := hbel.out.trans (hb1.mono hbel.out.size)
      have HO1 : Hid (w1.ownsRow w.heap.size 39 2 (.slice (some ⟨w.heap.size, 0, none⟩) n n) n (cellsK ys)) := hO1
      generalize (ys.getD k (0, ByteArray.empty)).1 = z0 at d0
      generalize (ys.getD k (0, ByteArray.empty)).2 = z1 at d1
      clear hO1 c1 hb1 g0 g1
      go_wp2
      go_roundw
      case rel =>
        have hst := (World.ownsRow.stored (World.ownsRow.stored HO1.out (k * 2) (.int .i64 x0)).1 (k * 2 + 1) (.string x1)).1
        rw [cellsK_set] at hst
        refine ⟨k + 1, by omega, by go_num, ⟨ys.set k (x0, x1), by simpa using HY.out.1, ?_, hst⟩, ((HB1.out.setCell (Nat.le_refl _) _).setCell (Nat.le_refl _) _)⟩
        refine take_eq_succK (by simp; rw [HY.out.1]; omega) (by rw [HX.out]; omega) ?_ ?_
        · rw [List.take_set_of_le (Nat.le_refl _)]; exact HY.out.2.1
        · rw [HE.out]; simp [List.getD, show k < ys.length by rw [HY.out.1]; omega]
      case measure => simp [intOf]; omega
    · go_wp2
      go_ret
      obtain ⟨ys, hyl, hyt, hyo⟩ := hO.out
      have e : ys = xs := by
        rwa [List.take_of_length_le (by omega), List.take_of_length_le (by rw [HX.out]; omega)] at hyt
      subst e
      exact ⟨_, rfl, OwnK.of hyo hyl, hbel.out⟩

theorem toCoverStepS_nil (ao : Option Addr) (c : Nat) (w : World) :
    Calls Try.prog 45 #[.slice ao 0 c] w fun e w' => ∃ v, e = .returned v ∧ OwnK w' w.heap.size v [] ∧ Below w.heap.size w w' := by
  obtain ⟨i0, hi, hz0, hz1, hz2⟩ := info_parts Try.infoCoverStep
  go_enter Try.func45, Try.ntmps45
  go_wp2_with (at_make; refine wpList_make_full _ rfl _ _ 23 rfl w.heap.size 39 i0 (.agg #[.int .i64 0, .string ByteArray.empty]) 2 Try.underlying23 hi hz0 hz1 _ _ _ _ 0 rfl rfl rfl rfl (by rw [hz2]; omega) (by unfold maxLen; omega) (Nat.le_refl _) ?_; intro w0 hown0 hgrow0)
  have hb0 : Below w.heap.size w w0 := (Below.refl _ _).grown hgrow0 (Nat.le_refl _) (fun k h => by cases h)
  refine wp_loop_rounds 1 ?_
  rw [rounds_succ]
  go_wp2
  go_ret
  exact ⟨_, rfl, by simpa [OwnK, cellsK, madeCells] using hown0, hb0⟩

theorem toCoverStepS_c (ao : Option Addr) (n c : Nat) (xs : List (Int × ByteArray)) (w : World) (hx : xs.length = n) (hn : n ≤ 1048576) (hr : RdK w ao xs) :
    Calls Try.prog 45 #[.slice ao n c] w fun e w' => ∃ a' c', e = .returned (.slice a' n c') ∧ OwnK w' w.heap.size (.slice a' n c') xs ∧ Below w.heap.size w w' := by
  have h : Calls Try.prog 45 #[.slice ao n c] w fun e w' => ∃ v, e = .returned v ∧ OwnK w' w.heap.size v xs ∧ Below w.heap.size w w' := by
    by_cases h0 : n = 0
    · subst h0
      have e1 : xs = [] := List.length_eq_zero_iff.1 hx
      subst e1
      exact toCoverStepS_nil _ _ _
    · obtain ⟨b, o, rfl, _⟩ := hr.get (k := 0) (by omega)
      exact toCoverStepS_at b o n c xs w hx hn hr
  refine h.mono ?_
  rintro e w' ⟨v, rfl, ho, hb⟩
  obtain ⟨a', c', hv⟩ := ho.shape
  rw [hx] at hv
  subst hv
  exact ⟨a', c', rfl, ho, hb⟩

/-- The marks of a row of n. -/
def marksK (k n : Nat) : List (Int × ByteArray) := (List.range n).map (fun j : Nat => (((k + 2 * j : Nat) : Int), markT (k + 2 * j + 1)))
theorem marksK_length (k n : Nat) : (marksK k n).length = n := by simp [marksK]
theorem marksK_getD (k n j : Nat) (h : j < n) : (marksK k n).getD j (0, ByteArray.empty) = (((k + 2 * j : Nat) : Int), markT (k + 2 * j + 1)) := by simp [marksK, List.getD, h]
theorem marksK_of (k n : Nat) (ys : List (Int × ByteArray)) (hl : ys.length = n) (h : ∀ j : Nat, j < n → ys.getD j (0, ByteArray.empty) = (((k + 2 * j : Nat) : Int), markT (k + 2 * j + 1))) : ys = marksK k n := by
  refine List.ext_getElem (by rw [hl, marksK_length]) fun j h1 h2 => ?_
  have e1 := h j (by omega)
  have e2 := marksK_getD k n j (by omega)
  rw [List.getD, List.getElem?_eq_getElem h1, Option.getD_some] at e1
  rw [List.getD, List.getElem?_eq_getElem h2, Option.getD_some] at e2
  rw [e1, e2]

set_option maxHeartbeats 2000000 in
theorem markCoverStepS_at (g n c k : Nat) (base : Nat) (xs : List (Int × ByteArray)) (w : World) (hn : n ≤ 1048576) (hx : xs.length = n) (h1 : k ≤ 17592186044416) (ho : OwnK w base (.slice (some ⟨g, 0, none⟩) n c) xs) :
    Calls Try.prog 50 #[.slice (some ⟨g, 0, none⟩) n c, .int .i64 k] w fun e w' => e = .returned (.int .i64 ((k + 2 * n : Nat) : Int)) ∧ OwnK w' base (.slice (some ⟨g, 0, none⟩) n c) (marksK k n) ∧ w.grownBy w' (some g) := by
  have HO : Hid (∃ ys : List (Int × ByteArray), ys.length = n ∧ (∀ j : Nat, j < 0 → ys.getD j (0, ByteArray.empty) = (((k + 2 * j : Nat) : Int), markT (k + 2 * j + 1))) ∧ w.ownsRow base 39 2 (.slice (some ⟨g, 0, none⟩) n c) n (cellsK ys)) := ⟨xs, hx, fun j h => absurd h (by omega), ho.raw hx⟩
  clear ho hx
  go_enter Try.func50, Try.ntmps50
  go_wp2
  go_loopw [1, 5] (fun q i wr => ∃ p : Nat, p ≤ n ∧ i = .int .i64 p ∧ q = .int .i64 ((k + 2 * p : Nat) : Int) ∧ Hid (∃ ys : List (Int × ByteArray), ys.length = n ∧ (∀ j : Nat, j < p → ys.getD j (0, ByteArray.empty) = (((k + 2 * j : Nat) : Int), markT (k + 2 * j + 1))) ∧ wr.ownsRow base 39 2 (.slice (some ⟨g, 0, none⟩) n c) n (cellsK ys)) ∧ Hid (w.grownBy wr (some g))) (fun _ i _ => n - (intOf i).toNat)
  case atStart => exact ⟨0, Nat.zero_le _, rfl, by go_num, HO, World.grownBy.refl _ _⟩
  case round =>
    clear HO
    obtain ⟨p, hp, rfl, rfl, hO, hgr⟩ := hrel
    by_cases hlt : p < n
    · obtain ⟨ys, hyl, hyt, hyo⟩ := hO.out
      clear hO
      have HYL : Hid (ys.length = n) := hyl
      have HYT : Hid (∀ j : Nat, j < p → ys.getD j (0, ByteArray.empty) = (((k + 2 * j : Nat) : Int), markT (k + 2 * j + 1))) := hyt
      obtain ⟨z, hz⟩ : ∃ z : Nat, z = k + 2 * p := ⟨_, rfl⟩
      rw [← hz]
      have HZ : Hid (z = k + 2 * p) := hz
      have hz1 : z ≤ 35184372088832 := by omega
      have c1 := cellsK_at ys p (by omega)
      have HO_0 : Hid (wr.ownsRow base 39 2 (.slice (some ⟨g, 0, none⟩) n c) n (cellsK ys)) := hyo
      have HG_0 : Hid (w.grownBy wr (some g)) := hgr.out
      clear hyl hyt hgr hz hyo
      have d0 : wr.cell? ⟨g, p * 2, none⟩ = some (.int .i64 (ys.getD p (0, ByteArray.empty)).1) := by rw [World.ownsRow.cellAt HO_0.out (p * 2) (by omega)]; exact c1.1
      have f0 : wr.frozen? ⟨g, p * 2, none⟩ = false := World.ownsRow.frozenAt HO_0.out _
      generalize (ys.getD p (0, ByteArray.empty)).1 = u0 at d0
      have st0 := World.ownsRow.stored HO_0.out (p * 2) (.int .i64 ((z : Int)))
      obtain ⟨V0, hV0⟩ : ∃ V, wr.setCell ⟨g, p * 2, none⟩ (.int .i64 ((z : Int))) = V := ⟨_, rfl⟩
      rw [hV0] at st0
      have HO_1 : Hid (V0.ownsRow base 39 2 (.slice (some ⟨g, 0, none⟩) n c) n ((cellsK ys).set (p * 2) (.int .i64 ((z : Int))))) := st0.1
      have HG_1 : Hid (w.grownBy V0 (some g)) := grown_trans HG_0.out st0.2
      clear st0
      have hmt : ∀ wx, Calls Try.prog 81 #[.int .i64 ((z : Int) + 1)] wx fun e w' => e = .returned (.string (markT (z + 1))) ∧ Below wx.heap.size wx w' := fun wx => markText_c (z + 1) wx (by omega)
      have HM1 : Hid (∃ M, M = markT (z + 1)) := ⟨_, rfl⟩
      generalize hm1 : markT (z + 1) = M1 at hmt
      have HM1 : Hid (markT (z + 1) = M1) := hm1
      clear hm1
      go_wp2_with fail
      refine (hmt _).mono ?_
      clear hmt
      rintro e W1 ⟨rfl, hb⟩
      have HO_2 : Hid (W1.ownsRow base 39 2 (.slice (some ⟨g, 0, none⟩) n c) n ((cellsK ys).set (p * 2) (.int .i64 ((z : Int))))) := ownsRow_later HO_1.out hb
      have HG_2 : Hid (w.grownBy W1 (some g)) := grown_trans HG_1.out (grown_of_below hb _)
      clear hb hV0 d0 f0
      have d1 : W1.cell? ⟨g, p * 2 + 1, none⟩ = some (.string (ys.getD p (0, ByteArray.empty)).2) := by rw [World.ownsRow.cellAt HO_2.out (p * 2 + 1) (by omega)]; rw [List.getElem?_set_ne (by omega)]; exact c1.2
      have f1 : W1.frozen? ⟨g, p * 2 + 1, none⟩ = false := World.ownsRow.frozenAt HO_2.out _
      generalize (ys.getD p (0, ByteArray.empty)).2 = u1 at d1
      have st1 := World.ownsRow.stored HO_2.out (p * 2 + 1) (.string M1)
      obtain ⟨V1, hV1⟩ : ∃ V, W1.setCell ⟨g, p * 2 + 1, none⟩ (.string M1) = V := ⟨_, rfl⟩
      rw [hV1] at st1
      have HO_3 : Hid (V1.ownsRow base 39 2 (.slice (some ⟨g, 0, none⟩) n c) n (((cellsK ys).set (p * 2) (.int .i64 ((z : Int)))).set (p * 2 + 1) (.string M1))) := st1.1
      have HG_3 : Hid (w.grownBy V1 (some g)) := grown_trans HG_2.out st1.2
      clear st1
      go_wp2
      go_roundw
      case rel =>
        refine ⟨p + 1, by omega, by go_num, by have := HZ.out; go_num, ⟨ys.set p ((z : Int), M1), by simpa using HYL.out, fun j hj => ?_, by have h := HO_3.out; rw [cellsK_set] at h; exact h⟩, HG_3⟩
        by_cases e : j = p
        · subst e
          rw [List.getD, List.getElem?_set_self (by rw [HYL.out]; omega), Option.getD_some, ← HZ.out, HM1.out]
          try simp
          try omega
        · rw [← HYT.out j (by omega)]; simp [List.getD, List.getElem?_set, show p ≠ j by omega]
      case measure => simp [intOf]; omega
    · go_wp2
      go_ret
      obtain ⟨ys, hyl, hyt, hyo⟩ := hO.out
      obtain rfl : p = n := by omega
      have e := marksK_of k p ys hyl hyt
      subst e
      exact ⟨rfl, OwnK.of hyo (marksK_length _ _), hgr.out⟩

theorem markCoverStepS_nil (ao : Option Addr) (c : Nat) (k : Int) (w : World) :
    Calls Try.prog 50 #[.slice ao 0 c, .int .i64 k] w fun e w' => e = .returned (.int .i64 k) ∧ w' = w := by
  go_enter Try.func50, Try.ntmps50
  go_wp2
  refine wp_loop_rounds 1 ?_
  rw [rounds_succ]
  go_wp2
  go_ret
  exact ⟨rfl, rfl⟩

/-- A mark over a row of the call's own: the row holds the marks, nothing else has turned. -/
theorem markCoverStepS_c (ao : Option Addr) (n c k : Nat) (base : Nat) (xs : List (Int × ByteArray)) (w : World) (hn : n ≤ 1048576) (h1 : k ≤ 17592186044416) (ho : OwnK w base (.slice ao n c) xs) :
    Calls Try.prog 50 #[.slice ao n c, .int .i64 k] w fun e w' => e = .returned (.int .i64 ((k + 2 * n : Nat) : Int)) ∧ OwnK w' base (.slice ao n c) (marksK k n) ∧ w.grownBy w' (Value.slice ao n c).ownBlock := by
  have hx := ho.rd'.1
  rcases ho.form with ⟨h, rfl⟩ | ⟨g, cap, h, hb, hg, hc⟩
  · simp only [Value.slice.injEq] at h
    obtain ⟨rfl, rfl, rfl⟩ := h
    refine (markCoverStepS_nil none 0 k w).mono ?_
    rintro e w' ⟨rfl, rfl⟩
    exact ⟨by simp, ho, World.grownBy.refl _ _⟩
  · simp only [Value.slice.injEq] at h
    obtain ⟨rfl, _, _⟩ := h
    exact markCoverStepS_at g n c k base xs w hn hx h1 ho

set_option maxHeartbeats 2000000 in
theorem heldCoverStepS_at (g n c k : Nat) (w : World) (hn : n ≤ 1048576) (h1 : k ≤ 17592186044416) (hc : ∀ j, j < n → w.cell? ⟨g, j * 2, none⟩ = some (.int .i64 (((k + 2 * j : Nat) : Int))) ∧ w.cell? ⟨g, j * 2 + 1, none⟩ = some (.string (markT (k + 2 * j + 1)))) :
    Calls Try.prog 57 #[.slice (some ⟨g, 0, none⟩) n c, .int .i64 k] w fun e w' => e = .returned (.int .i64 ((k + 2 * n : Nat) : Int)) ∧ Below w.heap.size w w' := by
  have HC : Hid (∀ j, j < n → w.cell? ⟨g, j * 2, none⟩ = some (.int .i64 (((k + 2 * j : Nat) : Int))) ∧ w.cell? ⟨g, j * 2 + 1, none⟩ = some (.string (markT (k + 2 * j + 1)))) := hc
  clear hc
  go_enter Try.func57, Try.ntmps57
  go_wp2
  go_loopw [1, 5] (fun q i wr => ∃ p : Nat, p ≤ n ∧ i = .int .i64 p ∧ q = .int .i64 ((k + 2 * p : Nat) : Int) ∧ Hid (Below w.heap.size w wr)) (fun _ i _ => n - (intOf i).toNat)
  case atStart => exact ⟨0, Nat.zero_le _, rfl, by go_num, Below.refl _ _⟩
  case round =>
    obtain ⟨p, hp, rfl, rfl, hB⟩ := hrel
    by_cases hlt : p < n
    · have hcp := HC.out p hlt
      have hbx := World.block_lt_of_cell? w _ hcp.1
      obtain ⟨q0, q1⟩ := hcp
      obtain ⟨z, hz⟩ : ∃ z : Nat, z = k + 2 * p := ⟨_, rfl⟩
      rw [← hz] at q0 q1 ⊢
      have HZ : Hid (z = k + 2 * p) := hz
      have hz1 : z ≤ 35184372088832 := by omega
      have h0 : (0 : Int) ≤ (p : Int) := by omega
      have hl : (p : Int) < (n : Int) := by omega
      have g0 : wr.cell? ⟨g, p * 2, none⟩ = some (.int .i64 ((z : Int))) := by rw [hB.out.cell (p := ⟨g, p * 2, none⟩) hbx]; exact q0
      have e0 : ((z : Int) != (z : Int)) = false := by simp
      have hmt1 : ∀ wx, Calls Try.prog 81 #[.int .i64 ((z : Int) + 1)] wx fun e w' => e = .returned (.string (markT (z + 1))) ∧ Below wx.heap.size wx w' := fun wx => markText_c (z + 1) wx (by omega)
      have g1 : wr.cell? ⟨g, p * 2 + 1, none⟩ = some (.string (markT (z + 1))) := by rw [hB.out.cell (p := ⟨g, p * 2 + 1, none⟩) hbx]; exact q1
      generalize markT (z + 1) = M1 at hmt1 g1
      have e1 : (M1.toList == M1.toList) = true := by simp
      clear q0 q1 hbx hz
      go_wp2
      go_region_with (go_at_call 81; refine (hmt1 _).mono ?_; rintro e w1 ⟨rfl, hb1⟩; have g1k : w1.cell? ⟨g, p * 2 + 1, none⟩ = some (.string M1) := cell_keep (S := 0) (by exact hb1) (by first | exact g1 | simpa using g1); have HB1 : Hid (Below w.heap.size w w1) := (by first | exact hB.out.trans (hb1.mono hB.out.size) | exact hB.out.drew.trans (hb1.mono hB.out.size)); clear hb1)
      all_goals go_wp2
      all_goals exact ⟨⟨p + 1, by omega, by go_num, by have := HZ.out; go_num, HB1⟩, by simp [intOf]; omega⟩
    · go_wp2
      go_ret
      obtain rfl : p = n := by omega
      exact ⟨rfl, hB.out⟩

theorem heldCoverStepS_nil (ao : Option Addr) (c : Nat) (k : Int) (w : World) :
    Calls Try.prog 57 #[.slice ao 0 c, .int .i64 k] w fun e w' => e = .returned (.int .i64 k) ∧ w' = w := by
  go_enter Try.func57, Try.ntmps57
  go_wp2
  refine wp_loop_rounds 1 ?_
  rw [rounds_succ]
  go_wp2
  go_ret
  exact ⟨rfl, rfl⟩

theorem heldCoverStepS_c (ao : Option Addr) (n c k : Nat) (base : Nat) (w : World) (hn : n ≤ 1048576) (h1 : k ≤ 17592186044416) (ho : OwnK w base (.slice ao n c) (marksK k n)) :
    Calls Try.prog 57 #[.slice ao n c, .int .i64 k] w fun e w' => e = .returned (.int .i64 ((k + 2 * n : Nat) : Int)) ∧ Below w.heap.size w w' := by
  rcases ho.form with ⟨h, h2⟩ | ⟨g, cap, h, hb, hg, hc⟩
  · simp only [Value.slice.injEq] at h
    obtain ⟨rfl, rfl, rfl⟩ := h
    refine (heldCoverStepS_nil none 0 k w).mono ?_
    rintro e w' ⟨rfl, hw⟩
    subst w'
    exact ⟨by simp, Below.refl _ _⟩
  · simp only [Value.slice.injEq] at h
    obtain ⟨rfl, _, _⟩ := h
    refine heldCoverStepS_at g n c k w hn h1 fun j hj => ?_
    have e : (marksK k n).length = n := marksK_length k n
    have := OwnK.cell (g := g) (cap := c) (xs := marksK k n) (by rw [e]; exact ho) j (by omega)
    rw [marksK_getD k n j hj] at this
    exact this

set_option maxHeartbeats 1000000 in
theorem szCoverStep_c (x0 : Int) (x1 : ByteArray) (left : Nat) (w : World) (hs : x1.size ≤ 9223372036854775807) (hl : left ≤ 1048576) : Calls Try.prog 41 #[.agg #[.int .i64 x0, .string x1], .int .i64 left] w fun e w' => ∃ r : Int, e = .returned (.int .i64 r) ∧ Below w.heap.size w w' ∧ r ≤ left ∧ (0 ≤ r → x1.size ≤ 1048576) := by
  by_cases h : left < x1.size
  · have h3 : (left : Int) - x1.size < 0 := by omega
    go_enter Try.func41, Try.ntmps41
    go_wp2
    go_ret
    exact ⟨-1, rfl, balloc w _, by omega, fun h => by omega⟩
  · have h3 : 0 ≤ (left : Int) - x1.size := by omega
    go_enter Try.func41, Try.ntmps41
    go_wp2
    go_ret
    exact ⟨(left : Int) - x1.size, rfl, balloc w _, by omega, fun _ => by omega⟩

set_option maxHeartbeats 1000000 in
theorem szCoverStepS_c (ao : Option Addr) (n c : Nat) (left : Nat) (xs : List (Int × ByteArray)) (w : World) (hx : xs.length = n) (hn : n ≤ 9223372036854775807) (hl : left ≤ 1048576) (hs : ∀ x ∈ xs, x.2.size ≤ 9223372036854775807) (hr : RdK w ao xs) :
    Calls Try.prog 44 #[.slice ao n c, .int .i64 left] w fun e w' => ∃ r : Int, e = .returned (.int .i64 r) ∧ Below w.heap.size w w' ∧ r ≤ left ∧ (0 ≤ r → n ≤ 1048576) := by
  have HX : Hid (xs.length = n) := hx
  have HR : Hid (RdK w ao xs) := hr
  have HS : Hid (∀ x ∈ xs, x.2.size ≤ 9223372036854775807) := hs
  clear hx hr hs
  by_cases h1 : left < n
  · have hlt : (left : Int) - n < 0 := by omega
    go_enter Try.func44, Try.ntmps44
    go_wp2
    go_ret
    exact ⟨-1, rfl, Below.refl _ _, by omega, fun h => by omega⟩
  · have hge : 0 ≤ (left : Int) - n := by omega
    go_enter Try.func44, Try.ntmps44
    go_wp2
    go_loopw [1, 5] (fun lv i wr => ∃ (k q : Nat), k ≤ n ∧ i = .int .i64 k ∧ lv = .int .i64 q ∧ q ≤ left ∧ Hid (Below w.heap.size w wr)) (fun _ i _ => n - (intOf i).toNat)
    case atStart => exact ⟨0, left - n, Nat.zero_le _, rfl, by go_num, by omega, Below.refl _ _⟩
    case round =>
      obtain ⟨k, q, hk, rfl, rfl, hq, hB⟩ := hrel
      by_cases hlt : k < n
      · have hkl : k < xs.length := by rw [HX.out]; exact hlt
        obtain ⟨b, o, rfl, g0, g1⟩ := (HR.out.later hB.out).get hkl
        have hsz := HS.out _ (mem_getD (0, ByteArray.empty) hkl)
        generalize (xs.getD k (0, ByteArray.empty)).1 = x0 at *
        generalize (xs.getD k (0, ByteArray.empty)).2 = x1 at *
        have q0 := szCoverStep_c x0 x1 q wr hsz (by omega)
        clear hkl
        go_wp2_with fail
        refine q0.mono ?_
        clear q0
        rintro e w1 ⟨r, rfl, hb, hr1, hr2⟩
        have HB1 : Hid (Below w.heap.size w w1) := hB.out.trans (hb.mono hB.out.size)
        clear hb hr2
        by_cases hr0 : r < 0
        · go_wp2
          go_ret
          exact ⟨-1, rfl, HB1.out, by omega, fun h => by omega⟩
        · obtain ⟨r', rfl⟩ : ∃ r' : Nat, r = r' := ⟨r.toNat, by omega⟩
          go_wp2
          go_roundw
          case rel => exact ⟨k + 1, r', by omega, by go_num, rfl, by omega, HB1⟩
          case measure => simp [intOf]; omega
      · go_wp2
        go_ret
        exact ⟨q, rfl, hB.out, by omega, fun _ => by omega⟩

end Go.Proofs.Yteopaocomfepfaa
