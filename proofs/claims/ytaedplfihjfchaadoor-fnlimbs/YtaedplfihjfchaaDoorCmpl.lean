/- Two rows of limbs held against each other by '==' and '!='. -/
import Derived.Test.YtaedplfihjfchaaDoorArrl
import Derived.ChangeKeysEq
import Derived.Laws.StructEq
namespace Go.Proofs.YtaedplfihjfchaaDoor
set_option linter.unusedVariables false
set_option maxRecDepth 1000000
set_option linter.unusedSimpArgs false
open Go.RowKit

theorem Tryd.cellsOfInt : Tryd.prog.cellsOf 3 = 1 := by kernel_rfl
theorem Tryd.plainInt : Tryd.prog.plainKey 3 = true := by kernel_rfl

theorem items_step (d j : Nat) (is : List Nat) (xs ys : Array Value) (a b : Int) (w : World) (hx : xs[j]? = some (.int .i64 a)) (hy : ys[j]? = some (.int .i64 b)) :
    (Op.eqItems (d + 1) 3 1 xs ys (j :: is)).run Tryd.prog w = if a = b then (Op.eqItems (d + 1) 3 1 xs ys is).run Tryd.prog w else .ok false w := by
  simp only [Op.eqItems, Nat.mul_one, Sem.run_bind, run_part_plain w Tryd.plainInt hx, run_part_plain w Tryd.plainInt hy, Result.andThen_ok, run_equalIn_int w d 3 .i64 .i64 a b Tryd.underlying3]
  by_cases h : a = b
  · subst h; simp
  · have : (a == b) = false := by simpa using h
    simp [this, h]

theorem run_equal_row (d : Nat) (w : World) (a0 a1 a2 a3 a4 a5 b0 b1 b2 b3 b4 b5 : Int) :
    (Op.equalIn (d + 2) 53 (.agg #[.int .i64 a0, .int .i64 a1, .int .i64 a2, .int .i64 a3, .int .i64 a4, .int .i64 a5]) (.agg #[.int .i64 b0, .int .i64 b1, .int .i64 b2, .int .i64 b3, .int .i64 b4, .int .i64 b5])).run Tryd.prog w = .ok (decide ([a0, a1, a2, a3, a4, a5] = [b0, b1, b2, b3, b4, b5])) w := by
  obtain ⟨i, hi⟩ := info_of_underlying Tryd.underlying3
  rw [run_equalIn_array w (d + 1) _ _ Tryd.underlying53 hi, Tryd.cellsOfInt]
  have e : List.range 6 = [0, 1, 2, 3, 4, 5] := by decide
  rw [e]
  rw [items_step d 0 _ _ _ a0 b0 w rfl rfl, items_step d 1 _ _ _ a1 b1 w rfl rfl, items_step d 2 _ _ _ a2 b2 w rfl rfl, items_step d 3 _ _ _ a3 b3 w rfl rfl, items_step d 4 _ _ _ a4 b4 w rfl rfl, items_step d 5 _ _ _ a5 b5 w rfl rfl]
  by_cases h0 : a0 = b0
  · by_cases h1 : a1 = b1
    · by_cases h2 : a2 = b2
      · by_cases h3 : a3 = b3
        · by_cases h4 : a4 = b4
          · by_cases h5 : a5 = b5
            · simp [h0, h1, h2, h3, h4, h5, Op.eqItems]
            · simp [h0, h1, h2, h3, h4, h5]
          · simp [h0, h1, h2, h3, h4]
        · simp [h0, h1, h2, h3]
      · simp [h0, h1, h2]
    · simp [h0, h1]
  · simp [h0]

theorem run_eql_row (w : World) (a0 a1 a2 a3 a4 a5 b0 b1 b2 b3 b4 b5 : Int) :
    (binOp .eql 53 (.agg #[.int .i64 a0, .int .i64 a1, .int .i64 a2, .int .i64 a3, .int .i64 a4, .int .i64 a5]) (.agg #[.int .i64 b0, .int .i64 b1, .int .i64 b2, .int .i64 b3, .int .i64 b4, .int .i64 b5])).run Tryd.prog w = .ok (.bool (decide ([a0, a1, a2, a3, a4, a5] = [b0, b1, b2, b3, b4, b5]))) w := by
  rw [run_eql_struct, run_equal_row 9998]; rfl

theorem run_neq_row (w : World) (a0 a1 a2 a3 a4 a5 b0 b1 b2 b3 b4 b5 : Int) :
    (binOp .neq 53 (.agg #[.int .i64 a0, .int .i64 a1, .int .i64 a2, .int .i64 a3, .int .i64 a4, .int .i64 a5]) (.agg #[.int .i64 b0, .int .i64 b1, .int .i64 b2, .int .i64 b3, .int .i64 b4, .int .i64 b5])).run Tryd.prog w = .ok (.bool (!decide ([a0, a1, a2, a3, a4, a5] = [b0, b1, b2, b3, b4, b5]))) w := by
  rw [run_neq_struct, run_equal_row 9998]; rfl

end Go.Proofs.YtaedplfihjfchaaDoor
namespace Go.Proofs.YtaedplfihjfchaaDoor
set_option linter.unusedVariables false
set_option maxRecDepth 1000000
set_option linter.unusedSimpArgs false
open Go.RowKit

theorem ret_int {k : IntKind} {a b : Int} (h : a = b) : Ending.returned (.int k a) = .returned (.int k b) := by rw [h]

theorem below_two (w : World) (o o' : Obj) : Below w.heap.size w ((w.alloc o).alloc o') := ((Below.refl _ _).alloc (Nat.le_refl _) o).alloc (by simp) o'

set_option maxHeartbeats 1000000 in
theorem compareRows_eq (a0 a1 a2 a3 a4 a5 : Int) (w : World) :
    Calls Tryd.prog 38 #[.agg #[.int .i64 a0, .int .i64 a1, .int .i64 a2, .int .i64 a3, .int .i64 a4, .int .i64 a5], .agg #[.int .i64 a0, .int .i64 a1, .int .i64 a2, .int .i64 a3, .int .i64 a4, .int .i64 a5]] w fun e w' => e = .returned (.int .i64 0) ∧ Below w.heap.size w w' := by
  have hq := fun wx => run_eql_row wx a0 a1 a2 a3 a4 a5 a0 a1 a2 a3 a4 a5
  simp only [decide_true] at hq
  go_enter Tryd.func38, Tryd.ntmps38
  go_wp2
  go_ret
  exact ⟨rfl, below_two _ _ _⟩

set_option maxHeartbeats 1000000 in
theorem compareRows_ne (a0 a1 a2 a3 a4 a5 b0 b1 b2 b3 b4 b5 : Int) (w : World) (hne : ¬ [a0, a1, a2, a3, a4, a5] = [b0, b1, b2, b3, b4, b5]) (da : Digs [a0, a1, a2, a3, a4, a5]) (db : Digs [b0, b1, b2, b3, b4, b5]) :
    Calls Tryd.prog 38 #[.agg #[.int .i64 a0, .int .i64 a1, .int .i64 a2, .int .i64 a3, .int .i64 a4, .int .i64 a5], .agg #[.int .i64 b0, .int .i64 b1, .int .i64 b2, .int .i64 b3, .int .i64 b4, .int .i64 b5]] w fun e w' => e = .returned (.int .i64 (cmpI (val [a0, a1, a2, a3, a4, a5]) (val [b0, b1, b2, b3, b4, b5]))) ∧ Below w.heap.size w w' := by
  have hq := fun wx => run_eql_row wx a0 a1 a2 a3 a4 a5 b0 b1 b2 b3 b4 b5
  rw [decide_eq_false hne] at hq
  go_enter Tryd.func38, Tryd.ntmps38
  generalize hL : [a0, a1, a2, a3, a4, a5] = L at *
  generalize hM : [b0, b1, b2, b3, b4, b5] = M at *
  have HL : Hid ([a0, a1, a2, a3, a4, a5] = L) := hL
  have HM : Hid ([b0, b1, b2, b3, b4, b5] = M) := hM
  have lL : Hid (L.length = 6) := by rw [← hL]; rfl
  have lM : Hid (M.length = 6) := by rw [← hM]; rfl
  have HN : Hid (¬ L = M) := hne
  have HD : Hid (Digs L ∧ Digs M) := ⟨da, db⟩
  clear hL hM hne da db
  go_wp2
  clear hq
  go_loopw [5] (fun i wr => ∃ k : Nat, k ≤ 5 ∧ i = .int .i64 k ∧ Hid (∀ j, k < j → L.getD j 0 = M.getD j 0) ∧ Hid (OwnA 53 wr w.heap.size L) ∧ Hid (OwnA 53 wr (w.heap.size + 1) M) ∧ Hid (Below w.heap.size w wr)) (fun i _ => (intOf i).toNat)
  case atStart =>
    refine ⟨5, Nat.le_refl _, rfl, fun j hj => ?_, ?_, ?_, below_two _ _ _⟩
    · rw [← HL.out, ← HM.out]; simp [List.getD, List.getElem?_eq_none (show [a0, a1, a2, a3, a4, a5].length ≤ j by simp; omega), List.getElem?_eq_none (show [b0, b1, b2, b3, b4, b5].length ≤ j by simp; omega)]
    · exact (ownA_at _ _ _ L _ (by rw [← HL.out]; rfl) (by rw [lL.out]; omega) rfl).alloc _
    · exact ownA_at _ _ _ M _ (by rw [← HM.out]; rfl) (by rw [lM.out]; omega) (by simp)
  case round =>
    obtain ⟨k, hk, rfl, hJ, hA, hB, hbel⟩ := hrel
    have g1 := hA.out.cell k (by rw [lL.out]; omega)
    have g2 := hB.out.cell k (by rw [lM.out]; omega)
    have k0 : (0 : Int) ≤ (k : Int) := by omega
    have k6 : (k : Int) < 6 := by omega
    generalize hx : L.getD k 0 = x at g1
    generalize hy : M.getD k 0 = y at g2
    have HX : Hid (L.getD k 0 = x) := hx
    have HY : Hid (M.getD k 0 = y) := hy
    clear hx hy
    by_cases hxy : x = y
    · subst hxy
      have hkp : 0 < k := by
        rcases Nat.eq_zero_or_pos k with rfl | h
        · refine absurd (ext_getD (lL.out.trans lM.out.symm) fun j _ => ?_) HN.out
          rcases Nat.eq_zero_or_pos j with rfl | h
          · rw [HX.out, HY.out]
          · exact hJ.out j h
        · exact h
      have ht : (x == x) = true := by simp
      go_wp2
      go_quiet (fail)
      go_wp2
      go_roundw
      case rel => exact ⟨k - 1, by omega, by go_num, fun j hj => by
        by_cases e : j = k
        · subst e; rw [HX.out, HY.out]
        · exact hJ.out j (by omega), hA.out.drewN _, hB.out.drewN _, below_drewN hbel.out _⟩
      case measure => simp [intOf]; omega
    · have ht : (x == y) = false := by simpa using hxy
      by_cases hlt : x < y
      · go_wp2
        go_quiet (fail)
        go_wp2
        go_quiet (fail)
        go_wp2
        go_ret
        refine ⟨ret_int ?_, below_drewN (below_drewN hbel.out _) _⟩
        exact (cmpI_lt (val_lt_of k (lL.out.trans lM.out.symm) HD.out.1 HD.out.2 (by rw [lL.out]; omega) hJ.out (by rw [HX.out, HY.out]; exact hlt))).symm
      · go_wp2
        go_quiet (fail)
        go_wp2
        go_quiet (fail)
        go_wp2
        go_ret
        refine ⟨ret_int ?_, below_drewN (below_drewN hbel.out _) _⟩
        exact (cmpI_gt (val_lt_of k (lM.out.trans lL.out.symm) HD.out.2 HD.out.1 (by rw [lM.out]; omega) (fun j hj => (hJ.out j hj).symm) (by rw [HX.out, HY.out]; omega))).symm

theorem compareRows_c (a0 a1 a2 a3 a4 a5 b0 b1 b2 b3 b4 b5 : Int) (w : World) (da : Digs [a0, a1, a2, a3, a4, a5]) (db : Digs [b0, b1, b2, b3, b4, b5]) :
    Calls Tryd.prog 38 #[.agg #[.int .i64 a0, .int .i64 a1, .int .i64 a2, .int .i64 a3, .int .i64 a4, .int .i64 a5], .agg #[.int .i64 b0, .int .i64 b1, .int .i64 b2, .int .i64 b3, .int .i64 b4, .int .i64 b5]] w fun e w' => e = .returned (.int .i64 (cmpI (val [a0, a1, a2, a3, a4, a5]) (val [b0, b1, b2, b3, b4, b5]))) ∧ Below w.heap.size w w' := by
  by_cases h : [a0, a1, a2, a3, a4, a5] = [b0, b1, b2, b3, b4, b5]
  · simp only [List.cons.injEq, and_true] at h
    obtain ⟨rfl, rfl, rfl, rfl, rfl, rfl⟩ := h
    rw [cmpI_eq]
    exact compareRows_eq _ _ _ _ _ _ w
  · exact compareRows_ne _ _ _ _ _ _ _ _ _ _ _ _ w h da db

end Go.Proofs.YtaedplfihjfchaaDoor
