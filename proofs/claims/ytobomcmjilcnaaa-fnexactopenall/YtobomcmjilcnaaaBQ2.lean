/- Chapter 6: lists of sealed numbers (as BP2) copied, compared, marked. -/
import Derived.Test.YtobomcmjilcnaaaBQ
namespace Go.Proofs.Ytobomcmjilcnaaa
set_option linter.unusedVariables false
set_option maxRecDepth 1000000
set_option linter.unusedSimpArgs false
open Go.RowKit

theorem made_parts : ∀ n : Nat, (madeCells (Value.agg #[.int .i64 0, .int .i64 0]).cells (n * 2)).toList = cellsP (List.replicate n (0, 0)) := by
  intro n
  have hl : (cellsP (List.replicate n (0, 0))).length = n * 2 := by rw [cellsP_length, List.length_replicate]
  refine List.ext_getElem (by rw [hl, Array.length_toList, size_madeCells]) fun j h1 h2 => ?_
  have hj : j / 2 < n := by rw [hl] at h2; omega
  have hc := cellsP_at (List.replicate n (0, 0)) (j / 2) (by simpa using hj)
  have e0 : (List.replicate n ((0 : Int), (0 : Int))).getD (j / 2) (0, 0) = (0, 0) := by simp [List.getD, hj]
  rw [e0] at hc
  have hr : (cellsP (List.replicate n (0, 0)))[j]? = some (.int .i64 0) := by
    rcases Nat.mod_two_eq_zero_or_one j with h | h
    · rw [show j / 2 * 2 = j by omega] at hc; exact hc.1
    · rw [show j / 2 * 2 + 1 = j by omega] at hc; exact hc.2
  have hr2 : (cellsP (List.replicate n (0, 0)))[j] = .int .i64 0 := by
    have := List.getElem?_eq_getElem h2
    rw [hr] at this
    exact (Option.some.inj this).symm
  rw [hr2]
  simp only [madeCells, Array.getElem_toList, Array.getElem_map, Array.getElem_range]
  show #[Value.int .i64 0, Value.int .i64 0][j % 2]! = _
  rcases Nat.mod_two_eq_zero_or_one j with h | h <;> rw [h] <;> rfl

set_option maxHeartbeats 400000 in
theorem toSealedS_at (b o n c : Nat) (xs : List (Int × Int)) (w : World) (hx : xs.length = n) (hn : n ≤ 8796093022208)
    (hcx : ∀ j, j < n → w.cell? ⟨b, o + j * 2, none⟩ = some (.int .i64 (xs.getD j (0, 0)).1) ∧ w.cell? ⟨b, o + j * 2 + 1, none⟩ = some (.int .i64 (xs.getD j (0, 0)).2)) :
    Calls Try.prog 27 #[.slice (some ⟨b, o, none⟩) n c] w fun e w' => ∃ v, e = .returned v ∧ OwnP w' w.heap.size v xs ∧ Below w.heap.size w w' := by
  obtain ⟨i0, hi, hz0, hz1, hz2⟩ := info_parts Try.infoSealed
  have HX : Hid (xs.length = n) := hx
  have HC : Hid (∀ j, j < n → w.cell? ⟨b, o + j * 2, none⟩ = some (.int .i64 (xs.getD j (0, 0)).1) ∧ w.cell? ⟨b, o + j * 2 + 1, none⟩ = some (.int .i64 (xs.getD j (0, 0)).2)) := hcx
  clear hx hcx
  go_enter Try.func27, Try.ntmps27
  go_wp2_with (at_make; refine wpList_make_full _ rfl _ _ 37 rfl w.heap.size 25 i0 (.agg #[.int .i64 0, .int .i64 0]) 2 Try.underlying37 hi hz0 hz1 _ _ _ _ n rfl rfl rfl rfl (by rw [hz2]; omega) (by unfold maxLen; omega) (Nat.le_refl _) ?_; intro w0 hown0 hgrow0)
  have hb0 : Below w.heap.size w w0 := (Below.refl _ _).grown hgrow0 (Nat.le_refl _) (fun k h => by cases h)
  have HO : Hid (∃ ys : List (Int × Int), ys.length = n ∧ ys.take 0 = xs.take 0 ∧ w0.ownsRow w.heap.size 25 2 (.slice (some ⟨w.heap.size, 0, none⟩) n n) n (cellsP ys)) := ⟨List.replicate n (0, 0), by simp, by simp, by
    rw [← made_parts]; exact hown0⟩
  clear hown0 hgrow0
  go_wp2
  go_loopw [4] (fun i wr => ∃ k : Nat, k ≤ n ∧ i = .int .i64 k ∧ Hid (∃ ys : List (Int × Int), ys.length = n ∧ ys.take k = xs.take k ∧ wr.ownsRow w.heap.size 25 2 (.slice (some ⟨w.heap.size, 0, none⟩) n n) n (cellsP ys)) ∧ Hid (Below w.heap.size w wr)) (fun i _ => n - (intOf i).toNat)
  case atStart => exact ⟨0, Nat.zero_le _, rfl, HO, hb0⟩
  case round =>
    clear HO hb0
    obtain ⟨k, hk, rfl, hO, hbel⟩ := hrel
    by_cases hlt : k < n
    · obtain ⟨ys, hyl, hyt, hyo⟩ := hO.out
      clear hO
      have hcb := HC.out k hlt
      have hbw := World.block_lt_of_cell? w _ hcb.1
      have g1 : wr.cell? ⟨b, o + k * 2, none⟩ = some (.int .i64 (xs.getD k (0, 0)).1) := by rw [hbel.out.cell (p := ⟨b, o + k * 2, none⟩) hbw]; exact hcb.1
      have g2 : wr.cell? ⟨b, o + k * 2 + 1, none⟩ = some (.int .i64 (xs.getD k (0, 0)).2) := by rw [hbel.out.cell (p := ⟨b, o + k * 2 + 1, none⟩) hbw]; exact hcb.2
      have HE : Hid (xs.getD k (0, 0) = ((xs.getD k (0, 0)).1, (xs.getD k (0, 0)).2)) := rfl
      generalize hx : (xs.getD k (0, 0)).1 = x at g1 HE
      generalize hy : (xs.getD k (0, 0)).2 = y at g2 HE
      clear hx hy hcb hbw
      have HY : Hid (ys.length = n ∧ ys.take k = xs.take k ∧ wr.ownsRow w.heap.size 25 2 (.slice (some ⟨w.heap.size, 0, none⟩) n n) n (cellsP ys)) := ⟨hyl, hyt, hyo⟩
      clear hyl hyt hyo
      go_wp2_with fail
      refine (toSealed_c x y _).mono ?_
      rintro e w1 ⟨rfl, hb1⟩
      have hO1 : w1.ownsRow w.heap.size 25 2 (.slice (some ⟨w.heap.size, 0, none⟩) n n) n (cellsP ys) := by
        have h := HY.out.2.2
        rw [← HY.out.1] at h ⊢
        exact OwnP.later (xs := ys) h hb1
      have c1 := cellsP_at ys k (by rw [HY.out.1]; exact hlt)
      have g3 : w1.cell? ⟨w.heap.size, k * 2, none⟩ = some (.int .i64 (ys.getD k (0, 0)).1) := by
        rw [World.ownsRow.cellAt hO1 (k * 2) (by omega)]; exact c1.1
      have g4 : w1.cell? ⟨w.heap.size, k * 2 + 1, none⟩ = some (.int .i64 (ys.getD k (0, 0)).2) := by
        rw [World.ownsRow.cellAt hO1 (k * 2 + 1) (by omega)]; exact c1.2
      have g5 : w1.frozen? ⟨w.heap.size, k * 2, none⟩ = false := World.ownsRow.frozenAt hO1 _
      have g6 : w1.frozen? ⟨w.heap.size, k * 2 + 1, none⟩ = false := World.ownsRow.frozenAt hO1 _
      have HB1 : Hid (Below w.heap.size w w1) := hbel.out.trans (hb1.mono hbel.out.size)
      have HO1 : Hid (w1.ownsRow w.heap.size 25 2 (.slice (some ⟨w.heap.size, 0, none⟩) n n) n (cellsP ys)) := hO1
      generalize (ys.getD k (0, 0)).1 = x0 at g3
      generalize (ys.getD k (0, 0)).2 = y0 at g4
      clear hO1 c1 hb1 g1 g2
      go_wp2
      go_roundw
      case rel =>
        have hst := World.ownsRow.stored (World.ownsRow.stored HO1.out (k * 2) (.int .i64 x)).1 (k * 2 + 1) (.int .i64 y)
        rw [cellsP_set] at hst
        refine ⟨k + 1, by omega, by go_num, ⟨ys.set k (x, y), by simpa using HY.out.1, ?_, hst.1⟩, (HB1.out.setCell (Nat.le_refl _) _).setCell (Nat.le_refl _) _⟩
        refine take_eq_succP (by simp; rw [HY.out.1]; omega) (by rw [HX.out]; omega) ?_ ?_
        · rw [List.take_set_of_le (Nat.le_refl _)]; exact HY.out.2.1
        · rw [HE.out]; simp [List.getD, show k < ys.length by rw [HY.out.1]; omega]
      case measure => simp [intOf]; omega
    · go_wp2
      go_ret
      obtain ⟨ys, hyl, hyt, hyo⟩ := hO.out
      have e : ys = xs := by
        rwa [List.take_of_length_le (by omega), List.take_of_length_le (by rw [HX.out]; omega)] at hyt
      subst e
      refine ⟨_, rfl, ?_, hbel.out⟩
      unfold OwnP
      rw [hyl]
      exact hyo

theorem toSealedS_nil (ao : Option Addr) (c : Nat) (w : World) :
    Calls Try.prog 27 #[.slice ao 0 c] w fun e w' => ∃ v, e = .returned v ∧ OwnP w' w.heap.size v [] ∧ Below w.heap.size w w' := by
  obtain ⟨i0, hi, hz0, hz1, hz2⟩ := info_parts Try.infoSealed
  go_enter Try.func27, Try.ntmps27
  go_wp2_with (at_make; refine wpList_make_full _ rfl _ _ 37 rfl w.heap.size 25 i0 (.agg #[.int .i64 0, .int .i64 0]) 2 Try.underlying37 hi hz0 hz1 _ _ _ _ 0 rfl rfl rfl rfl (by rw [hz2]; omega) (by unfold maxLen; omega) (Nat.le_refl _) ?_; intro w0 hown0 hgrow0)
  have hb0 : Below w.heap.size w w0 := (Below.refl _ _).grown hgrow0 (Nat.le_refl _) (fun k h => by cases h)
  refine wp_loop_rounds 1 ?_
  rw [rounds_succ]
  go_wp2
  go_ret
  exact ⟨_, rfl, by simpa [OwnP, cellsP, madeCells] using hown0, hb0⟩

theorem toSealedS_c (ao : Option Addr) (n c : Nat) (xs : List (Int × Int)) (w : World) (hx : xs.length = n) (hn : n ≤ 8796093022208) (hr : RdP w ao xs) :
    Calls Try.prog 27 #[.slice ao n c] w fun e w' => ∃ a' c', e = .returned (.slice a' n c') ∧ OwnP w' w.heap.size (.slice a' n c') xs ∧ Below w.heap.size w w' := by
  have h : Calls Try.prog 27 #[.slice ao n c] w fun e w' => ∃ v, e = .returned v ∧ OwnP w' w.heap.size v xs ∧ Below w.heap.size w w' := by
    rcases hr with rfl | ⟨b, o, rfl, hc⟩
    · simp at hx; subst hx; exact toSealedS_nil _ _ _
    · exact toSealedS_at b o n c xs w hx hn (by rw [← hx]; exact hc)
  refine h.mono ?_
  rintro e w' ⟨v, rfl, ho, hb⟩
  obtain ⟨a', c', hv⟩ := ho.shape
  rw [hx] at hv
  subst hv
  exact ⟨a', c', rfl, ho, hb⟩

theorem eqSealedS_ne (ao bo : Option Addr) (n m c d : Nat) (w : World) (hnm : n ≠ m) (hn : n ≤ 140737488355328) (hm : m ≤ 140737488355328) :
    Calls Try.prog 29 #[.slice ao n c, .slice bo m d] w fun e w' => e = .returned (.bool false) ∧ w' = w := by
  have hx : ((n : Int) != (m : Int)) = true := by rw [bne_iff_ne]; omega
  go_enter Try.func29, Try.ntmps29
  go_wp2
  go_ret
  exact ⟨rfl, rfl⟩

theorem eqSealedS_nil (ao bo : Option Addr) (c d : Nat) (w : World) :
    Calls Try.prog 29 #[.slice ao 0 c, .slice bo 0 d] w fun e w' => e = .returned (.bool true) ∧ w' = w := by
  go_enter Try.func29, Try.ntmps29
  go_wp2
  refine wp_loop_rounds 1 ?_
  rw [rounds_succ]
  go_wp2
  go_ret
  exact ⟨rfl, rfl⟩

theorem pair_keep {w1 w2 : World} (hb : Below w1.heap.size w1 w2) {g o : Nat} {u v : Value} (h1 : w1.cell? ⟨g, o, none⟩ = some u) (h2 : w1.cell? ⟨g, o + 1, none⟩ = some v) : w2.cell? ⟨g, o, none⟩ = some u ∧ w2.cell? ⟨g, o + 1, none⟩ = some v := ⟨cell_keep (S := 0) hb h1, cell_keep (S := 0) hb h2⟩

set_option maxHeartbeats 1000000 in
theorem eqSealedS_at (b o n c b' o' d : Nat) (xs ys : List (Int × Int)) (w : World) (hx : xs.length = n) (hy : ys.length = n) (hn : n ≤ 140737488355328)
    (hcx : ∀ j, j < n → w.cell? ⟨b, o + j * 2, none⟩ = some (.int .i64 (xs.getD j (0, 0)).1) ∧ w.cell? ⟨b, o + j * 2 + 1, none⟩ = some (.int .i64 (xs.getD j (0, 0)).2))
    (hcy : ∀ j, j < n → w.cell? ⟨b', o' + j * 2, none⟩ = some (.int .i64 (ys.getD j (0, 0)).1) ∧ w.cell? ⟨b', o' + j * 2 + 1, none⟩ = some (.int .i64 (ys.getD j (0, 0)).2)) :
    Calls Try.prog 29 #[.slice (some ⟨b, o, none⟩) n c, .slice (some ⟨b', o', none⟩) n d] w fun e w' => e = .returned (.bool (decide (xs = ys))) ∧ Below w.heap.size w w' := by
  have HX : Hid (xs.length = n) := hx
  have HY : Hid (ys.length = n) := hy
  have HCX : Hid (∀ j, j < n → w.cell? ⟨b, o + j * 2, none⟩ = some (.int .i64 (xs.getD j (0, 0)).1) ∧ w.cell? ⟨b, o + j * 2 + 1, none⟩ = some (.int .i64 (xs.getD j (0, 0)).2)) := hcx
  have HCY : Hid (∀ j, j < n → w.cell? ⟨b', o' + j * 2, none⟩ = some (.int .i64 (ys.getD j (0, 0)).1) ∧ w.cell? ⟨b', o' + j * 2 + 1, none⟩ = some (.int .i64 (ys.getD j (0, 0)).2)) := hcy
  clear hx hy hcx hcy
  go_enter Try.func29, Try.ntmps29
  go_wp2
  go_loopw [5] (fun i wr => ∃ k : Nat, k ≤ n ∧ i = .int .i64 k ∧ Hid (xs.take k = ys.take k) ∧ Hid (Below w.heap.size w wr)) (fun i _ => n - (intOf i).toNat)
  case atStart => exact ⟨0, Nat.zero_le _, rfl, rfl, Below.refl _ _⟩
  case round =>
    obtain ⟨k, hk, rfl, HT, HB⟩ := hrel
    by_cases hlt : k < n
    · have h0 : (0 : Int) ≤ (k : Int) := by omega
      have hl : (k : Int) < (n : Int) := by omega
      have q1 := HCX.out k hlt
      have q2 := HCY.out k hlt
      have bx := World.block_lt_of_cell? w _ q1.1
      have bY := World.block_lt_of_cell? w _ q2.1
      have g1 : wr.cell? ⟨b, o + k * 2, none⟩ = some (.int .i64 (xs.getD k (0, 0)).1) := by rw [HB.out.cell (p := ⟨b, o + k * 2, none⟩) bx]; exact q1.1
      have g2 : wr.cell? ⟨b, o + k * 2 + 1, none⟩ = some (.int .i64 (xs.getD k (0, 0)).2) := by rw [HB.out.cell (p := ⟨b, o + k * 2 + 1, none⟩) bx]; exact q1.2
      have g3 : wr.cell? ⟨b', o' + k * 2, none⟩ = some (.int .i64 (ys.getD k (0, 0)).1) := by rw [HB.out.cell (p := ⟨b', o' + k * 2, none⟩) bY]; exact q2.1
      have g4 : wr.cell? ⟨b', o' + k * 2 + 1, none⟩ = some (.int .i64 (ys.getD k (0, 0)).2) := by rw [HB.out.cell (p := ⟨b', o' + k * 2 + 1, none⟩) bY]; exact q2.2
      have H1 : Hid (xs.getD k (0, 0) = ((xs.getD k (0, 0)).1, (xs.getD k (0, 0)).2)) := rfl
      have H2 : Hid (ys.getD k (0, 0) = ((ys.getD k (0, 0)).1, (ys.getD k (0, 0)).2)) := rfl
      have hq := eqSealed2_c (xs.getD k (0, 0)).1 (xs.getD k (0, 0)).2 (ys.getD k (0, 0)).1 (ys.getD k (0, 0)).2
      generalize (xs.getD k (0, 0)).1 = x at *
      generalize (xs.getD k (0, 0)).2 = y at *
      generalize (ys.getD k (0, 0)).1 = p at *
      generalize (ys.getD k (0, 0)).2 = q at *
      clear q1 q2 bx bY
      by_cases hxy : (x, y) = (p, q)
      · have HXY : Hid ((x, y) = (p, q)) := hxy
        rw [decide_eq_true hxy] at hq
        have HQ : Hid (∀ w, Calls Try.prog 28 #[.agg #[.int .i64 x, .int .i64 y], .agg #[.int .i64 p, .int .i64 q]] w fun e w' => e = .returned (.bool true) ∧ Below w.heap.size w w') := hq
        clear hxy hq
        go_wp2_with fail
        have HBd : Hid (Below w.heap.size w wr.drew) := HB.out.drew
        go_region_held3 (fun w' => w'.cell? ⟨b, o + k * 2, none⟩ = some (.int .i64 x) ∧ w'.cell? ⟨b, o + k * 2 + 1, none⟩ = some (.int .i64 y) ∧ w'.cell? ⟨b', o' + k * 2, none⟩ = some (.int .i64 p) ∧ w'.cell? ⟨b', o' + k * 2 + 1, none⟩ = some (.int .i64 q)) (first | go_keep) (first
          | (go_at_call 28; refine (HQ.out _).mono ?_; rintro e w1 ⟨rfl, hb1⟩; have k1 := pair_keep (w1 := wr.drew) hb1 g1 g2; have k2 := pair_keep (w1 := wr.drew) hb1 g3 g4; obtain ⟨e1, e2⟩ := k1; obtain ⟨e3, e4⟩ := k2; have HB1 : Hid (Below w.heap.size w w1) := HBd.out.trans (hb1.mono HBd.out.size); clear hb1))
        all_goals go_wp2
        all_goals go_roundw
        case rel => exact ⟨k + 1, by omega, by go_num, take_eq_succP (by rw [HX.out]; omega) (by rw [HY.out]; omega) HT.out (by rw [H1.out, H2.out]; exact HXY.out), HB1⟩
        case measure => simp [intOf]; omega
      · have HXY : Hid ((x, y) ≠ (p, q)) := hxy
        rw [decide_eq_false hxy] at hq
        have HQ : Hid (∀ w, Calls Try.prog 28 #[.agg #[.int .i64 x, .int .i64 y], .agg #[.int .i64 p, .int .i64 q]] w fun e w' => e = .returned (.bool false) ∧ Below w.heap.size w w') := hq
        clear hxy hq
        go_wp2_with fail
        have HBd : Hid (Below w.heap.size w wr.drew) := HB.out.drew
        go_region_held3 (fun w' => w'.cell? ⟨b, o + k * 2, none⟩ = some (.int .i64 x) ∧ w'.cell? ⟨b, o + k * 2 + 1, none⟩ = some (.int .i64 y) ∧ w'.cell? ⟨b', o' + k * 2, none⟩ = some (.int .i64 p) ∧ w'.cell? ⟨b', o' + k * 2 + 1, none⟩ = some (.int .i64 q)) (first | go_keep) (first
          | (go_at_call 28; refine (HQ.out _).mono ?_; rintro e w1 ⟨rfl, hb1⟩; have k1 := pair_keep (w1 := wr.drew) hb1 g1 g2; have k2 := pair_keep (w1 := wr.drew) hb1 g3 g4; obtain ⟨e1, e2⟩ := k1; obtain ⟨e3, e4⟩ := k2; have HB1 : Hid (Below w.heap.size w w1) := HBd.out.trans (hb1.mono HBd.out.size); clear hb1))
        all_goals go_wp2
        all_goals go_ret
        all_goals refine ⟨?_, HB1.out⟩
        all_goals have : xs ≠ ys := fun e => HXY.out (by rw [← H1.out, ← H2.out, e])
        all_goals simp [this]
    · go_wp2
      go_ret
      refine ⟨?_, HB.out⟩
      have e : xs = ys := by
        have := HT.out
        rwa [List.take_of_length_le (by rw [HX.out]; omega), List.take_of_length_le (by rw [HY.out]; omega)] at this
      simp [e]

theorem eqSealedS_c (ao bo : Option Addr) (n m c d : Nat) (xs ys : List (Int × Int)) (w : World) (hx : xs.length = n) (hy : ys.length = m) (hn : n ≤ 17592186044416) (hm : m ≤ 17592186044416) (hr : RdP w ao xs) (hs : RdP w bo ys) :
    Calls Try.prog 29 #[.slice ao n c, .slice bo m d] w fun e w' => e = .returned (.bool (decide (xs = ys))) ∧ Below w.heap.size w w' := by
  by_cases hnm : n = m
  · subst hnm
    rcases hr with rfl | ⟨b, o, rfl, hc⟩
    · simp at hx; subst hx
      have : ys = [] := List.length_eq_zero_iff.1 hy
      subst this
      refine (eqSealedS_nil ao bo c d w).mono ?_
      rintro e w' ⟨rfl, rfl⟩
      exact ⟨by simp, Below.refl _ _⟩
    · rcases hs with rfl | ⟨b', o', rfl, hc'⟩
      · simp at hy; subst hy
        have : xs = [] := List.length_eq_zero_iff.1 hx
        subst this
        refine (eqSealedS_nil _ bo c d w).mono ?_
        rintro e w' ⟨rfl, rfl⟩
        exact ⟨by simp, Below.refl _ _⟩
      · exact eqSealedS_at b o n c b' o' d xs ys w hx hy (by omega) (by rw [← hx]; exact hc) (by rw [← hy]; exact hc')
  · refine (eqSealedS_ne ao bo n m c d w hnm (by omega) (by omega)).mono ?_
    rintro e w' ⟨rfl, rfl⟩
    refine ⟨?_, Below.refl _ _⟩
    have : xs ≠ ys := fun e => hnm (by rw [← hx, ← hy, e])
    simp [this]

end Go.Proofs.Ytobomcmjilcnaaa
