/- The program's divideByOne. -/
import Derived.Test.YtcklmgifboceaaaDoorArrEq
import Derived.Test.YtcklmgifboceaaaDoorNum2
namespace Go.Proofs.YtcklmgifboceaaaDoor
set_option linter.unusedVariables false
set_option maxRecDepth 1000000
set_option linter.unusedSimpArgs false
open Go.RowKit

/-- A number's limbs divided by ten, and the rest. -/
def dv : List Int → List Int × Int
  | [] => ([], 0)
  | x :: r => (((dv r).2 * 65536 + x) / 10 :: (dv r).1, ((dv r).2 * 65536 + x) % 10)
theorem dv_length : ∀ l, (dv l).1.length = l.length
  | [] => rfl
  | x :: r => by simp [dv, dv_length r]
theorem dv_rest : ∀ l, 0 ≤ (dv l).2 ∧ (dv l).2 < 10
  | [] => by simp [dv]
  | x :: r => by show 0 ≤ ((dv r).2 * 65536 + x) % 10 ∧ ((dv r).2 * 65536 + x) % 10 < 10; omega
theorem dv_val : ∀ l, val (dv l).1 * 10 + (dv l).2 = val l
  | [] => by simp [dv, val]
  | x :: r => by
    have ih := dv_val r
    show val (((dv r).2 * 65536 + x) / 10 :: (dv r).1) * 10 + ((dv r).2 * 65536 + x) % 10 = val (x :: r)
    simp only [val]
    omega
theorem dv_digs : ∀ l, Digs l → Digs (dv l).1
  | [], _ => by intro x hx; cases hx
  | x :: r, h => by
    have hx := h x List.mem_cons_self
    have hr := dv_digs r (fun y hy => h y (List.mem_cons_of_mem _ hy))
    have hb := dv_rest r
    intro y hy
    rcases List.mem_cons.1 hy with rfl | hy
    · refine ⟨by omega, by omega⟩
    · exact hr y hy
theorem dv_step {L : List Int} {k : Nat} (h : k < L.length) : dv (L.drop k) = (((dv (L.drop (k + 1))).2 * 65536 + L.getD k 0) / 10 :: (dv (L.drop (k + 1))).1, ((dv (L.drop (k + 1))).2 * 65536 + L.getD k 0) % 10) := by
  rw [List.drop_eq_getElem_cons h]
  show (_, _) = _
  simp [List.getD, h]
/-- What has been written when the limbs from k on are done. -/
def dvR (L : List Int) (k : Nat) : List Int := L.take k ++ (dv (L.drop k)).1
theorem dvR_length {L : List Int} {k : Nat} : (dvR L k).length = L.length := by
  unfold dvR
  rw [List.length_append, dv_length, List.length_take, List.length_drop]; omega
theorem dvR_get {L : List Int} {k : Nat} (h : k < L.length) : (dvR L (k + 1)).getD k 0 = L.getD k 0 := by
  unfold dvR
  rw [List.getD_eq_getElem?_getD, List.getElem?_append_left (by rw [List.length_take]; omega), List.getElem?_take, if_pos (Nat.lt_succ_self k)]
  rfl
theorem dvR_step {L : List Int} {k : Nat} (h : k < L.length) : (dvR L (k + 1)).set k (((dv (L.drop (k + 1))).2 * 65536 + L.getD k 0) / 10) = dvR L k := by
  unfold dvR
  rw [dv_step h, List.take_succ_eq_append_getElem h, List.append_assoc, List.set_append_right _ _ (by rw [List.length_take]; omega)]
  simp [List.length_take, Nat.min_eq_left (Nat.le_of_lt h)]

set_option maxHeartbeats 2000000 in
theorem divideByOne_c (a0 a1 a2 a3 a4 a5 : Int) (w : World) (da : Digs [a0, a1, a2, a3, a4, a5]) (r0 r1 r2 r3 r4 r5 rs : Int) (hE : dv [a0, a1, a2, a3, a4, a5] = ([r0, r1, r2, r3, r4, r5], rs)) :
    Calls Tryd.prog 46 #[.agg #[.int .i64 a0, .int .i64 a1, .int .i64 a2, .int .i64 a3, .int .i64 a4, .int .i64 a5], .int .i64 10] w fun e w' =>
      e = .returned (.tuple #[.agg #[.int .i64 r0, .int .i64 r1, .int .i64 r2, .int .i64 r3, .int .i64 r4, .int .i64 r5], .int .i64 rs]) ∧ Below w.heap.size w w' := by
  go_enter Tryd.func46, Tryd.ntmps46
  generalize hL : [a0, a1, a2, a3, a4, a5] = L at *
  have HL : Hid ([a0, a1, a2, a3, a4, a5] = L) := hL
  have lL : Hid (L.length = 6) := by rw [← hL]; rfl
  have HD : Hid (Digs L) := da
  have HE : Hid (dv L = ([r0, r1, r2, r3, r4, r5], rs)) := hE
  clear hL da hE
  go_wp2
  go_loopw [6, 7] (fun cv i wr => ∃ (k : Nat), k ≤ 6 ∧ i = .int .i64 ((k : Int) - 1) ∧ cv = .int .i64 (dv (L.drop k)).2 ∧ Hid (OwnA 57 wr w.heap.size (dvR L k)) ∧ Hid (OwnA 57 wr (w.heap.size + 1) [0, 0, 0, 0, 0, 0]) ∧ Hid (Below w.heap.size w wr)) (fun _ i _ => (intOf i + 1).toNat)
  case atStart =>
    refine ⟨6, by omega, rfl, ?_, ?_, ?_, ?_⟩
    · rw [List.drop_of_length_le (by rw [lL.out]; omega)]; rfl
    · have e : dvR L 6 = L := by unfold dvR; rw [List.drop_of_length_le (by rw [lL.out]; omega), List.take_of_length_le (by rw [lL.out]; omega)]; simp [dv]
      show OwnA _ _ _ _
      rw [e]
      exact (ownA_at _ _ _ L _ (by rw [← HL.out]; rfl) (by rw [lL.out]; omega) rfl).alloc _
    · exact ownA_at _ _ _ _ _ rfl (by simp) (by simp)
    · exact below_two w _ _
  case round =>
    obtain ⟨k, hk, rfl, rfl, hA, hR, hB⟩ := hrel
    cases k with
    | succ j =>
      have hj : j < 6 := by omega
      have g1 := hA.out.cell j (by rw [dvR_length, lL.out]; omega)
      rw [dvR_get (by rw [lL.out]; omega)] at g1
      have g3 := hA.out.free j
      have e1 : ((j + 1 : Nat) : Int) - 1 = (j : Int) := by omega
      have k0 : (0 : Int) ≤ (j : Int) := by omega
      have k6 : (j : Int) < 6 := by omega
      have dX := HD.out.getD j
      have hb := dv_rest (L.drop (j + 1))
      have HS : Hid ((dvR L (j + 1)).set j (((dv (L.drop (j + 1))).2 * 65536 + L.getD j 0) / 10) = dvR L j ∧ ((dv (L.drop (j + 1))).2 * 65536 + L.getD j 0) % 10 = (dv (L.drop j)).2) := ⟨dvR_step (by rw [lL.out]; omega), by rw [dv_step (k := j) (by rw [lL.out]; omega)]⟩
      rw [e1]
      clear e1
      generalize L.getD j 0 = x at g1 dX HS
      generalize (dv (L.drop (j + 1))).2 = rr at hb HS ⊢
      go_wp2
      go_roundw
      case rel =>
        refine ⟨j, by omega, rfl, by rw [← HS.out.2], ?_, hR.out.other _ _ (by simp), hB.out.setCell (Nat.le_refl _) _⟩
        show OwnA _ _ _ _
        rw [← HS.out.1]
        exact hA.out.stored j _
      case measure => simp [intOf]
    | zero =>
      have e0 : dvR L 0 = [r0, r1, r2, r3, r4, r5] := by unfold dvR; rw [List.drop_zero, HE.out]; rfl
      have e2 : (dv (L.drop 0)).2 = rs := by rw [List.drop_zero, HE.out]
      rw [e0] at hA
      rw [e2]
      clear e0 e2
      obtain ⟨q0, q1, q2, q3, q4, q5⟩ := hA.out.cells6
      obtain ⟨t0, t1, t2, t3, t4, t5⟩ := hR.out.cells6
      have f0 := hR.out.free 0
      have f1 := hR.out.free 1
      have f2 := hR.out.free 2
      have f3 := hR.out.free 3
      have f4 := hR.out.free 4
      have f5 := hR.out.free 5
      clear hA hR
      go_wp2
      refine bodyPost_ret (v := .tuple #[.agg #[.int .i64 r0, .int .i64 r1, .int .i64 r2, .int .i64 r3, .int .i64 r4, .int .i64 r5], .int .i64 rs]) (by simp [results, Tryd.results46, go_sem, *]) rfl ⟨rfl, ?_⟩
      exact below_set6 hB.out (by omega)

end Go.Proofs.YtcklmgifboceaaaDoor
