/- The contract of the program's lessRow. -/
import Derived.Test.YtaedplfihjfchaaDoorSpecLessl
namespace Go.Proofs.YtaedplfihjfchaaDoor
set_option linter.unusedVariables false
set_option maxRecDepth 1000000
set_option linter.unusedSimpArgs false
open Go.RowKit

theorem cset_ne {w : World} {g h o j : Nat} {u : Value} (hne : g ≠ h) : (w.setCell ⟨h, j, none⟩ u).cell? ⟨g, o, none⟩ = w.cell? ⟨g, o, none⟩ := by
  rw [World.cell?_setCell_other _ _ _ _ (by intro e; simp only [Addr.mk.injEq] at e; omega)]

theorem calloc_eq {w : World} {g o : Nat} {O : Obj} (h : g < w.heap.size) : (w.alloc O).cell? ⟨g, o, none⟩ = w.cell? ⟨g, o, none⟩ := World.cell?_alloc_lt _ _ _ h

def SubSt (L M : List Int) (k : Nat) (R : List Int) (b : Int) : Prop :=
  R.length = 6 ∧ R.drop k = L.drop k ∧ R.take k ++ (subC (L.drop k) (M.drop k) b).1 = (subC L M 0).1

theorem subSt_step {L M R : List Int} {k : Nat} {b : Int} (hL : L.length = 6) (hM : M.length = 6) (hk : k < 6) (h : SubSt L M k R b) {x y r dg b' : Int} (ex : L.getD k 0 = x) (ey : M.getD k 0 = y) (er : x - y - b = r) (ed : dg = if r < 0 then r + 65536 else r) (eb : b' = if r < 0 then 1 else 0) :
    SubSt L M (k + 1) (R.set k dg) b' := by
  obtain ⟨h1, h2, h3⟩ := h
  rw [drop_cons (show k < L.length by omega), drop_cons (show k < M.length by omega)] at h3
  simp only [subC] at h3
  rw [ex, ey, er, ← ed, ← eb] at h3
  refine ⟨by simpa using h1, ?_, ?_⟩
  · rw [drop_set_succ]
    have := congrArg (List.drop 1) h2
    simpa [List.drop_drop, Nat.add_comm] using this
  · rw [take_set_succ (by omega), List.append_assoc, List.singleton_append]; exact h3

theorem subSt_end {L M R : List Int} {b : Int} (hL : L.length = 6) (hM : M.length = 6) (h : SubSt L M 6 R b) : R = (subC L M 0).1 := by
  obtain ⟨h1, h2, h3⟩ := h
  rw [List.drop_eq_nil_of_le (by omega), List.drop_eq_nil_of_le (by omega)] at h3
  simp only [subC, List.append_nil] at h3
  rw [List.take_of_length_le (by omega)] at h3
  exact h3

set_option maxHeartbeats 2000000 in
theorem lessRow_c (a0 a1 a2 a3 a4 a5 b0 b1 b2 b3 b4 b5 : Int) (w : World) (da : Digs [a0, a1, a2, a3, a4, a5]) (db : Digs [b0, b1, b2, b3, b4, b5]) (r0 r1 r2 r3 r4 r5 : Int) (hE : (subC [a0, a1, a2, a3, a4, a5] [b0, b1, b2, b3, b4, b5] 0).1 = [r0, r1, r2, r3, r4, r5]) :
    Calls Tryd.prog 39 #[.agg #[.int .i64 a0, .int .i64 a1, .int .i64 a2, .int .i64 a3, .int .i64 a4, .int .i64 a5], .agg #[.int .i64 b0, .int .i64 b1, .int .i64 b2, .int .i64 b3, .int .i64 b4, .int .i64 b5]] w fun e w' =>
      e = .returned (.agg #[.int .i64 r0, .int .i64 r1, .int .i64 r2, .int .i64 r3, .int .i64 r4, .int .i64 r5]) ∧ Below w.heap.size w w' := by
  go_enter Tryd.func39, Tryd.ntmps39
  generalize hL : [a0, a1, a2, a3, a4, a5] = L at *
  generalize hM : [b0, b1, b2, b3, b4, b5] = M at *
  have HL : Hid ([a0, a1, a2, a3, a4, a5] = L) := hL
  have HM : Hid ([b0, b1, b2, b3, b4, b5] = M) := hM
  have lL : Hid (L.length = 6) := by rw [← hL]; rfl
  have lM : Hid (M.length = 6) := by rw [← hM]; rfl
  have HD : Hid (Digs L ∧ Digs M) := ⟨da, db⟩
  have HE : Hid ((subC L M 0).1 = [r0, r1, r2, r3, r4, r5]) := hE
  clear hL hM da db hE
  go_wp2
  go_loopw [5, 8] (fun bv i wr => ∃ (k : Nat) (b : Int) (R : List Int), k ≤ 6 ∧ i = .int .i64 k ∧ bv = .int .i64 b ∧ 0 ≤ b ∧ b ≤ 1 ∧ Hid (SubSt L M k R b) ∧ Hid (OwnA 53 wr w.heap.size R) ∧ Hid (OwnA 53 wr (w.heap.size + 1) M) ∧ Hid (OwnA 53 wr (w.heap.size + 1 + 1) [0, 0, 0, 0, 0, 0]) ∧ Hid (Below w.heap.size w wr)) (fun _ i _ => 6 - (intOf i).toNat)
  case atStart =>
    refine ⟨0, 0, L, by omega, rfl, rfl, by omega, by omega, ⟨lL.out, rfl, by simp⟩, ?_, ?_, ?_, ?_⟩
    · exact ((ownA_at _ _ _ L _ (by rw [← HL.out]; rfl) (by rw [lL.out]; omega) rfl).alloc _).alloc _
    · exact (ownA_at _ _ _ M _ (by rw [← HM.out]; rfl) (by rw [lM.out]; omega) (by simp)).alloc _
    · exact ownA_at _ _ _ _ _ rfl (by simp) (by simp)
    · exact (below_two w _ _).alloc (by simp; omega) _
  case round =>
    obtain ⟨k, b, R, hk, rfl, rfl, c0, c1, hSt, hA, hM, hR, hB⟩ := hrel
    by_cases hlt : k < 6
    · have g1 := hA.out.cell k (by rw [hSt.out.1]; omega)
      rw [getD_of_drop hSt.out.2.1 k (Nat.le_refl _)] at g1
      have g2 := hM.out.cell k (by rw [lM.out]; omega)
      have g3 := hA.out.free k
      have k0 : (0 : Int) ≤ (k : Int) := by omega
      have k6 : (k : Int) < 6 := by omega
      have dX := HD.out.1.getD k
      have dY := HD.out.2.getD k
      generalize hgx : L.getD k 0 = x at g1 dX
      generalize hgy : M.getD k 0 = y at g2 dY
      have HGX : Hid (L.getD k 0 = x) := hgx
      have HGY : Hid (M.getD k 0 = y) := hgy
      clear hgx hgy
      by_cases hneg : x - y - b < 0
      · have HS1 : Hid (SubSt L M (k + 1) (R.set k (x - y - b + 65536)) 1) := subSt_step lL.out lM.out hlt hSt.out HGX.out HGY.out rfl (by rw [if_pos hneg]) (by rw [if_pos hneg])
        go_wp2
        go_quiet (fail)
        go_wp2
        go_roundw
        case rel => exact ⟨k + 1, 1, R.set k (x - y - b + 65536), by omega, by go_num, rfl, by omega, by omega, HS1.out, (hA.out.drewN _).stored k _, (hM.out.drewN _).other _ _ (by simp), (hR.out.drewN _).other _ _ (by show _ ≠ _; simp; omega), (below_drewN hB.out _).setCell (Nat.le_refl _) _⟩
        case measure => simp [intOf]; omega
      · have HS1 : Hid (SubSt L M (k + 1) (R.set k (x - y - b)) 0) := subSt_step lL.out lM.out hlt hSt.out HGX.out HGY.out rfl (by rw [if_neg hneg]) (by rw [if_neg hneg])
        go_wp2
        go_quiet (fail)
        go_wp2
        go_roundw
        case rel => exact ⟨k + 1, 0, R.set k (x - y - b), by omega, by go_num, rfl, by omega, by omega, HS1.out, (hA.out.drewN _).stored k _, (hM.out.drewN _).other _ _ (by simp), (hR.out.drewN _).other _ _ (by show _ ≠ _; simp; omega), (below_drewN hB.out _).setCell (Nat.le_refl _) _⟩
        case measure => simp [intOf]; omega
    · obtain rfl : k = 6 := by omega
      have e1 := subSt_end lL.out lM.out hSt.out
      rw [HE.out] at e1
      rw [e1] at hA
      obtain ⟨q0, q1, q2, q3, q4, q5⟩ := hA.out.cells6
      obtain ⟨t0, t1, t2, t3, t4, t5⟩ := hR.out.cells6
      have f0 := hR.out.free 0
      have f1 := hR.out.free 1
      have f2 := hR.out.free 2
      have f3 := hR.out.free 3
      have f4 := hR.out.free 4
      have f5 := hR.out.free 5
      clear hA hR hM e1 hSt
      go_wp2
      refine bodyPost_ret (v := .agg #[.int .i64 r0, .int .i64 r1, .int .i64 r2, .int .i64 r3, .int .i64 r4, .int .i64 r5]) (by simp [results, Tryd.results39, go_sem, *]) rfl ⟨rfl, ?_⟩
      exact below_set6 hB.out (by omega)

end Go.Proofs.YtaedplfihjfchaaDoor
