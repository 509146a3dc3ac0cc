/- The contracts of the program's addRows and bigFrom. -/
import Derived.Test.YtcklmgifboceaaaDoorImplCmp
namespace Go.Proofs.YtcklmgifboceaaaDoor
set_option linter.unusedVariables false
set_option maxRecDepth 1000000
set_option linter.unusedSimpArgs false
open Go.RowKit

theorem drop_cons {L : List Int} {k : Nat} (h : k < L.length) : L.drop k = L.getD k 0 :: L.drop (k + 1) := by
  rw [List.drop_eq_getElem_cons h]
  simp only [List.getD, List.getElem?_eq_getElem h, Option.getD_some]

theorem take_set_succ {R : List Int} {k : Nat} (h : k < R.length) (v : Int) : (R.set k v).take (k + 1) = R.take k ++ [v] := by
  rw [List.take_succ_eq_append_getElem (by simpa using h), List.take_set_of_le (Nat.le_refl _)]
  simp

theorem drop_set_succ (R : List Int) (k : Nat) (v : Int) : (R.set k v).drop (k + 1) = R.drop (k + 1) := by
  rw [List.drop_set_of_lt (by omega)]

theorem getD_of_drop {R L : List Int} {k : Nat} (h : R.drop k = L.drop k) (j : Nat) (hj : k ≤ j) : R.getD j 0 = L.getD j 0 := by
  have e1 : R.getD j 0 = (R.drop k).getD (j - k) 0 := by simp [List.getD, List.getElem?_drop, show k + (j - k) = j by omega]
  have e2 : L.getD j 0 = (L.drop k).getD (j - k) 0 := by simp [List.getD, List.getElem?_drop, show k + (j - k) = j by omega]
  rw [e1, e2, h]

/-- What holds of a row that is being turned into a sum, k limbs done. -/
def AddSt (L M : List Int) (k : Nat) (R : List Int) (cy : Int) : Prop :=
  R.length = 6 ∧ R.drop k = L.drop k ∧ R.take k ++ (addC (L.drop k) (M.drop k) cy).1 = (addC L M 0).1 ∧ (addC (L.drop k) (M.drop k) cy).2 = (addC L M 0).2

theorem addSt_zero {L M : List Int} (hl : L.length = 6) : AddSt L M 0 L 0 := ⟨hl, rfl, by simp, rfl⟩

theorem addSt_step {L M R : List Int} {k : Nat} {cy : Int} (hL : L.length = 6) (hM : M.length = 6) (hk : k < 6) (h : AddSt L M k R cy) :
    AddSt L M (k + 1) (R.set k ((L.getD k 0 + M.getD k 0 + cy) % 65536)) ((L.getD k 0 + M.getD k 0 + cy) / 65536) := by
  obtain ⟨h1, h2, h3, h4⟩ := h
  rw [drop_cons (show k < L.length by omega), drop_cons (show k < M.length by omega)] at h3 h4
  simp only [addC] at h3 h4
  refine ⟨by simpa using h1, ?_, ?_, h4⟩
  · rw [drop_set_succ]
    have := congrArg (List.drop 1) h2
    simpa [List.drop_drop, Nat.add_comm] using this
  · rw [take_set_succ (by omega), List.append_assoc, List.singleton_append]; exact h3

theorem addSt_end {L M R : List Int} {cy : Int} (hL : L.length = 6) (hM : M.length = 6) (h : AddSt L M 6 R cy) : R = (addC L M 0).1 ∧ cy = (addC L M 0).2 := by
  obtain ⟨h1, h2, h3, h4⟩ := h
  rw [List.drop_eq_nil_of_le (by omega), List.drop_eq_nil_of_le (by omega)] at h3 h4
  simp only [addC, List.append_nil] at h3 h4
  rw [List.take_of_length_le (by omega)] at h3
  exact ⟨h3, h4⟩

set_option maxHeartbeats 2000000 in
theorem addRows_c (a0 a1 a2 a3 a4 a5 b0 b1 b2 b3 b4 b5 : Int) (w : World) (da : Digs [a0, a1, a2, a3, a4, a5]) (db : Digs [b0, b1, b2, b3, b4, b5]) :
    Calls Tryd.prog 32 #[.agg #[.int .i64 a0, .int .i64 a1, .int .i64 a2, .int .i64 a3, .int .i64 a4, .int .i64 a5], .agg #[.int .i64 b0, .int .i64 b1, .int .i64 b2, .int .i64 b3, .int .i64 b4, .int .i64 b5]] w fun e w' =>
      ∃ r0 r1 r2 r3 r4 r5 cy : Int, e = .returned (.tuple #[.agg #[.int .i64 r0, .int .i64 r1, .int .i64 r2, .int .i64 r3, .int .i64 r4, .int .i64 r5], .int .i64 cy]) ∧ Hid (addC [a0, a1, a2, a3, a4, a5] [b0, b1, b2, b3, b4, b5] 0 = ([r0, r1, r2, r3, r4, r5], cy)) ∧ Below w.heap.size w w' := by
  go_enter Tryd.func32, Tryd.ntmps32
  generalize hL : [a0, a1, a2, a3, a4, a5] = L at *
  generalize hM : [b0, b1, b2, b3, b4, b5] = M at *
  have HL : Hid ([a0, a1, a2, a3, a4, a5] = L) := hL
  have HM : Hid ([b0, b1, b2, b3, b4, b5] = M) := hM
  have lL : Hid (L.length = 6) := by rw [← hL]; rfl
  have lM : Hid (M.length = 6) := by rw [← hM]; rfl
  have HD : Hid (Digs L ∧ Digs M) := ⟨da, db⟩
  clear hL hM da db
  go_wp2
  go_loopw [6, 9] (fun cv i wr => ∃ (k : Nat) (cy : Int) (R : List Int), k ≤ 6 ∧ i = .int .i64 k ∧ cv = .int .i64 cy ∧ 0 ≤ cy ∧ cy ≤ 1 ∧ Hid (AddSt L M k R cy) ∧ Hid (OwnA 57 wr w.heap.size R) ∧ Hid (OwnA 57 wr (w.heap.size + 1) M) ∧ Hid (OwnA 57 wr (w.heap.size + 1 + 1) [0, 0, 0, 0, 0, 0]) ∧ Hid (Below w.heap.size w wr)) (fun _ i _ => 6 - (intOf i).toNat)
  case atStart =>
    refine ⟨0, 0, L, by omega, rfl, rfl, by omega, by omega, addSt_zero lL.out, ?_, ?_, ?_, ?_⟩
    · exact ((ownA_at _ _ _ L _ (by rw [← HL.out]; rfl) (by rw [lL.out]; omega) rfl).alloc _).alloc _
    · exact (ownA_at _ _ _ M _ (by rw [← HM.out]; rfl) (by rw [lM.out]; omega) (by simp)).alloc _
    · exact ownA_at _ _ _ _ _ rfl (by simp) (by simp)
    · exact (below_two w _ _).alloc (by simp; omega) _
  case round =>
    obtain ⟨k, cy, R, hk, rfl, rfl, c0, c1, hSt, hA, hM, hR, hB⟩ := hrel
    by_cases hlt : k < 6
    · have g1 := hA.out.cell k (by rw [hSt.out.1]; omega)
      rw [getD_of_drop hSt.out.2.1 k (Nat.le_refl _)] at g1
      have g2 := hM.out.cell k (by rw [lM.out]; omega)
      have g3 := hA.out.free k
      have k0 : (0 : Int) ≤ (k : Int) := by omega
      have k6 : (k : Int) < 6 := by omega
      have dX := HD.out.1.getD k
      have dY := HD.out.2.getD k
      have HS1 : Hid (AddSt L M (k + 1) (R.set k ((L.getD k 0 + M.getD k 0 + cy) % 65536)) ((L.getD k 0 + M.getD k 0 + cy) / 65536)) := addSt_step lL.out lM.out hlt hSt.out
      generalize L.getD k 0 = x at g1 dX HS1
      generalize M.getD k 0 = y at g2 dY HS1
      go_wp2
      go_quiet (fail)
      go_wp2
      go_roundw
      case rel => exact ⟨k + 1, (x + y + cy) / 65536, R.set k ((x + y + cy) % 65536), by omega, by go_num, rfl, by omega, by omega, HS1.out, (hA.out.drewN _).stored k _, (hM.out.drewN _).other _ _ (by simp), (hR.out.drewN _).other _ _ (by show _ ≠ _; simp; omega), (below_drewN hB.out _).setCell (Nat.le_refl _) _⟩
      case measure => simp [intOf]; omega
    · obtain rfl : k = 6 := by omega
      obtain ⟨e1, e2⟩ := addSt_end lL.out lM.out hSt.out
      obtain ⟨r0, r1, r2, r3, r4, r5, h6⟩ := list6 hSt.out.1
      have HE : Hid (addC L M 0 = ([r0, r1, r2, r3, r4, r5], cy)) := by
        show _ = _
        rw [← h6]; exact Prod.ext e1.symm e2.symm
      rw [h6] at hA
      obtain ⟨q0, q1, q2, q3, q4, q5⟩ := hA.out.cells6
      obtain ⟨t0, t1, t2, t3, t4, t5⟩ := hR.out.cells6
      have f0 := hR.out.free 0
      have f1 := hR.out.free 1
      have f2 := hR.out.free 2
      have f3 := hR.out.free 3
      have f4 := hR.out.free 4
      have f5 := hR.out.free 5
      clear hA hR hM h6 e1 e2 hSt
      go_wp2
      refine bodyPost_ret (v := .tuple #[.agg #[.int .i64 r0, .int .i64 r1, .int .i64 r2, .int .i64 r3, .int .i64 r4, .int .i64 r5], .int .i64 cy]) (by simp [results, Tryd.results32, go_sem, *]) rfl ⟨r0, r1, r2, r3, r4, r5, cy, rfl, HE, ?_⟩
      exact below_set6 hB.out (by omega)

end Go.Proofs.YtcklmgifboceaaaDoor
