/- The contract of the program's splitWide and timesRows. -/
import Derived.Test.YtaedplfihjfchaaDoorSpecTimes2l
import Derived.Test.YtaedplfihjfchaaDoorImplLess2l
namespace Go.Proofs.YtaedplfihjfchaaDoor
set_option linter.unusedVariables false
set_option maxRecDepth 1000000
set_option linter.unusedSimpArgs false
open Go.RowKit

theorem list12 {L : List Int} (h : L.length = 12) : ∃ a0 a1 a2 a3 a4 a5 a6 a7 a8 a9 a10 a11, L = [a0, a1, a2, a3, a4, a5, a6, a7, a8, a9, a10, a11] := by
  match L, h with
  | [a0, a1, a2, a3, a4, a5, a6, a7, a8, a9, a10, a11], _ => exact ⟨a0, a1, a2, a3, a4, a5, a6, a7, a8, a9, a10, a11, rfl⟩

set_option maxHeartbeats 4000000 in
theorem splitWide_c (a0 a1 a2 a3 a4 a5 a6 a7 a8 a9 a10 a11 : Int) (w : World) :
    Calls Tryd.prog 59 #[.agg #[.int .i64 a0, .int .i64 a1, .int .i64 a2, .int .i64 a3, .int .i64 a4, .int .i64 a5, .int .i64 a6, .int .i64 a7, .int .i64 a8, .int .i64 a9, .int .i64 a10, .int .i64 a11]] w fun e w' =>
      e = .returned (.tuple #[.agg #[.int .i64 a0, .int .i64 a1, .int .i64 a2, .int .i64 a3, .int .i64 a4, .int .i64 a5], .agg #[.int .i64 a6, .int .i64 a7, .int .i64 a8, .int .i64 a9, .int .i64 a10, .int .i64 a11]]) ∧ Below w.heap.size w w' := by
  go_enter Tryd.func59, Tryd.ntmps59
  generalize hL : [a0, a1, a2, a3, a4, a5, a6, a7, a8, a9, a10, a11] = L
  have HL : Hid ([a0, a1, a2, a3, a4, a5, a6, a7, a8, a9, a10, a11] = L) := hL
  have lL : Hid (L.length = 12) := by rw [← hL]; rfl
  clear hL
  go_wp2
  go_loopw [7] (fun iv wr => ∃ (k : Nat) (P Q : List Int), k ≤ 6 ∧ iv = .int .i64 k ∧ Hid (P.length = 6 ∧ Q.length = 6 ∧ P.take k = L.take k ∧ Q.take k = (L.drop 6).take k) ∧ Hid (OwnA 84 wr w.heap.size L) ∧ Hid (OwnA 53 wr (w.heap.size + 1) [0, 0, 0, 0, 0, 0]) ∧ Hid (OwnA 53 wr (w.heap.size + 1 + 1) [0, 0, 0, 0, 0, 0]) ∧ Hid (OwnA 53 wr (w.heap.size + 1 + 1 + 1) P) ∧ Hid (OwnA 53 wr (w.heap.size + 1 + 1 + 1 + 1) Q) ∧ Hid (Below w.heap.size w wr)) (fun iv _ => 6 - (intOf iv).toNat)
  case atStart =>
    refine ⟨0, [0, 0, 0, 0, 0, 0], [0, 0, 0, 0, 0, 0], by omega, rfl, ⟨rfl, rfl, by simp, by simp⟩, ?_, ?_, ?_, ?_, ?_, ?_⟩
    · exact ((((ownA_at _ _ _ L _ (by rw [← HL.out]; rfl) (by rw [lL.out]; omega) rfl).alloc _).alloc _).alloc _).alloc _
    · exact (((ownA_at _ _ _ _ _ rfl (by simp) (by simp)).alloc _).alloc _).alloc _
    · exact ((ownA_at _ _ _ _ _ rfl (by simp) (by simp)).alloc _).alloc _
    · exact (ownA_at _ _ _ _ _ rfl (by simp) (by simp)).alloc _
    · exact ownA_at _ _ _ _ _ rfl (by simp) (by simp)
    · exact ((below_three w _ _ _).alloc (by simp; omega) _).alloc (by simp; omega) _
  case round =>
    obtain ⟨k, P, Q, hk, rfl, hPQ, hA, h1, h2, hP, hQ, hB⟩ := hrel
    by_cases hlt : k < 6
    · have g1 := hA.out.cell k (by rw [lL.out]; omega)
      have g2 := hA.out.cell (k + 6) (by rw [lL.out]; omega)
      have g3 := hP.out.cell k (by rw [hPQ.out.1]; omega)
      have g4 := hQ.out.cell k (by rw [hPQ.out.2.1]; omega)
      have f3 := hP.out.free k
      have f4 := hQ.out.free k
      have k0 : (0 : Int) ≤ (k : Int) := by omega
      have k6 : (k : Int) < 6 := by omega
      have HN : Hid ((P.set k (L.getD k 0)).length = 6 ∧ (Q.set k (L.getD (k + 6) 0)).length = 6 ∧ (P.set k (L.getD k 0)).take (k + 1) = L.take (k + 1) ∧ (Q.set k (L.getD (k + 6) 0)).take (k + 1) = (L.drop 6).take (k + 1)) := by
        refine ⟨by simpa using hPQ.out.1, by simpa using hPQ.out.2.1, ?_, ?_⟩
        · rw [take_set_succ (by rw [hPQ.out.1]; omega), hPQ.out.2.2.1, take_snoc_getD L k (by rw [lL.out]; omega)]
        · rw [take_set_succ (by rw [hPQ.out.2.1]; omega), hPQ.out.2.2.2, take_snoc_getD (L.drop 6) k (by simp; rw [lL.out]; omega)]
          simp [List.getD, List.getElem?_drop, Nat.add_comm]
      generalize L.getD k 0 = x at g1 HN
      generalize L.getD (k + 6) 0 = y at g2 HN
      generalize P.getD k 0 = z at g3
      generalize Q.getD k 0 = v at g4
      go_wp2
      go_roundw
      case rel =>
        refine ⟨k + 1, P.set k x, Q.set k y, by omega, by go_num, HN, (hA.out.other _ _ ?_).other _ _ ?_, (h1.out.other _ _ ?_).other _ _ ?_, (h2.out.other _ _ ?_).other _ _ ?_, (hP.out.stored k _).other _ _ ?_, (hQ.out.other _ _ ?_).stored k _, (hB.out.setCell ?_ _).setCell ?_ _⟩ <;> (show _; simp; try omega)
      case measure => simp [intOf]; omega
    · obtain rfl : k = 6 := by omega
      have eP : P = [a0, a1, a2, a3, a4, a5] := by
        have := hPQ.out.2.2.1
        rw [List.take_of_length_le (by rw [hPQ.out.1]; omega), ← HL.out] at this
        exact this
      have eQ : Q = [a6, a7, a8, a9, a10, a11] := by
        have := hPQ.out.2.2.2
        rw [List.take_of_length_le (by rw [hPQ.out.2.1]; omega), ← HL.out] at this
        exact this
      rw [eP] at hP
      rw [eQ] at hQ
      obtain ⟨p0, p1, p2, p3, p4, p5⟩ := hP.out.cells6
      obtain ⟨q0, q1, q2, q3, q4, q5⟩ := hQ.out.cells6
      obtain ⟨s0, s1, s2, s3, s4, s5⟩ := h1.out.cells6
      obtain ⟨t0, t1, t2, t3, t4, t5⟩ := h2.out.cells6
      have f10 := h1.out.free 0
      have f11 := h1.out.free 1
      have f12 := h1.out.free 2
      have f13 := h1.out.free 3
      have f14 := h1.out.free 4
      have f15 := h1.out.free 5
      have f20 := h2.out.free 0
      have f21 := h2.out.free 1
      have f22 := h2.out.free 2
      have f23 := h2.out.free 3
      have f24 := h2.out.free 4
      have f25 := h2.out.free 5
      clear hP hQ h1 h2 hA eP eQ hPQ
      go_wp2
      go_region
      all_goals go_wp2
      all_goals refine bodyPost_ret (v := .tuple #[.agg #[.int .i64 a0, .int .i64 a1, .int .i64 a2, .int .i64 a3, .int .i64 a4, .int .i64 a5], .agg #[.int .i64 a6, .int .i64 a7, .int .i64 a8, .int .i64 a9, .int .i64 a10, .int .i64 a11]]) (by simp [results, Tryd.results59, go_sem, *]) rfl ⟨rfl, ?_⟩
      all_goals exact (below_set6 (below_set6 hB.out (by omega)) (by omega)).drew

theorem run_index0 (w : World) (a0 a1 a2 a3 a4 a5 : Int) : (Instr.index 53 (.agg #[.int .i64 a0, .int .i64 a1, .int .i64 a2, .int .i64 a3, .int .i64 a4, .int .i64 a5]) (.int .i64 0)).run Tryd.prog w = .ok (.int .i64 a0) w := by kernel_rfl

theorem run_index1 (w : World) (a0 a1 a2 a3 a4 a5 : Int) : (Instr.index 53 (.agg #[.int .i64 a0, .int .i64 a1, .int .i64 a2, .int .i64 a3, .int .i64 a4, .int .i64 a5]) (.int .i64 1)).run Tryd.prog w = .ok (.int .i64 a1) w := by kernel_rfl

theorem run_index2 (w : World) (a0 a1 a2 a3 a4 a5 : Int) : (Instr.index 53 (.agg #[.int .i64 a0, .int .i64 a1, .int .i64 a2, .int .i64 a3, .int .i64 a4, .int .i64 a5]) (.int .i64 2)).run Tryd.prog w = .ok (.int .i64 a2) w := by kernel_rfl

theorem run_index3 (w : World) (a0 a1 a2 a3 a4 a5 : Int) : (Instr.index 53 (.agg #[.int .i64 a0, .int .i64 a1, .int .i64 a2, .int .i64 a3, .int .i64 a4, .int .i64 a5]) (.int .i64 3)).run Tryd.prog w = .ok (.int .i64 a3) w := by kernel_rfl

theorem run_index4 (w : World) (a0 a1 a2 a3 a4 a5 : Int) : (Instr.index 53 (.agg #[.int .i64 a0, .int .i64 a1, .int .i64 a2, .int .i64 a3, .int .i64 a4, .int .i64 a5]) (.int .i64 4)).run Tryd.prog w = .ok (.int .i64 a4) w := by kernel_rfl

theorem run_index5 (w : World) (a0 a1 a2 a3 a4 a5 : Int) : (Instr.index 53 (.agg #[.int .i64 a0, .int .i64 a1, .int .i64 a2, .int .i64 a3, .int .i64 a4, .int .i64 a5]) (.int .i64 5)).run Tryd.prog w = .ok (.int .i64 a5) w := by kernel_rfl

theorem run_index_row (w : World) (a0 a1 a2 a3 a4 a5 : Int) (k : Nat) (hk : k < 6) :
    (Instr.index 53 (.agg #[.int .i64 a0, .int .i64 a1, .int .i64 a2, .int .i64 a3, .int .i64 a4, .int .i64 a5]) (.int .i64 (k : Int))).run Tryd.prog w = .ok (.int .i64 ([a0, a1, a2, a3, a4, a5].getD k 0)) w := by
  match k, hk with
  | 0, _ => exact run_index0 w a0 a1 a2 a3 a4 a5
  | 1, _ => exact run_index1 w a0 a1 a2 a3 a4 a5
  | 2, _ => exact run_index2 w a0 a1 a2 a3 a4 a5
  | 3, _ => exact run_index3 w a0 a1 a2 a3 a4 a5
  | 4, _ => exact run_index4 w a0 a1 a2 a3 a4 a5
  | 5, _ => exact run_index5 w a0 a1 a2 a3 a4 a5

theorem OwnA.cells12 {t : TypeId} {w : World} {g : Nat} {a0 a1 a2 a3 a4 a5 a6 a7 a8 a9 a10 a11 : Int} (h : OwnA t w g [a0, a1, a2, a3, a4, a5, a6, a7, a8, a9, a10, a11]) :
    C6 w g a0 a1 a2 a3 a4 a5 ∧ w.cell? ⟨g, 6, none⟩ = some (.int .i64 a6) ∧ w.cell? ⟨g, 7, none⟩ = some (.int .i64 a7) ∧ w.cell? ⟨g, 8, none⟩ = some (.int .i64 a8) ∧ w.cell? ⟨g, 9, none⟩ = some (.int .i64 a9) ∧ w.cell? ⟨g, 10, none⟩ = some (.int .i64 a10) ∧ w.cell? ⟨g, 11, none⟩ = some (.int .i64 a11) :=
  ⟨⟨h.cell 0 (by simp), h.cell 1 (by simp), h.cell 2 (by simp), h.cell 3 (by simp), h.cell 4 (by simp), h.cell 5 (by simp)⟩, h.cell 6 (by simp), h.cell 7 (by simp), h.cell 8 (by simp), h.cell 9 (by simp), h.cell 10 (by simp), h.cell 11 (by simp)⟩

set_option maxHeartbeats 4000000 in
theorem timesRows_c (a0 a1 a2 a3 a4 a5 b0 b1 b2 b3 b4 b5 : Int) (w : World) (da : Digs [a0, a1, a2, a3, a4, a5]) (db : Digs [b0, b1, b2, b3, b4, b5]) :
    Calls Tryd.prog 40 #[.agg #[.int .i64 a0, .int .i64 a1, .int .i64 a2, .int .i64 a3, .int .i64 a4, .int .i64 a5], .agg #[.int .i64 b0, .int .i64 b1, .int .i64 b2, .int .i64 b3, .int .i64 b4, .int .i64 b5]] w fun e w' =>
      ∃ r0 r1 r2 r3 r4 r5 s0 s1 s2 s3 s4 s5 : Int, e = .returned (.tuple #[.agg #[.int .i64 r0, .int .i64 r1, .int .i64 r2, .int .i64 r3, .int .i64 r4, .int .i64 r5], .agg #[.int .i64 s0, .int .i64 s1, .int .i64 s2, .int .i64 s3, .int .i64 s4, .int .i64 s5]]) ∧ Hid (Digs [r0, r1, r2, r3, r4, r5, s0, s1, s2, s3, s4, s5] ∧ val [r0, r1, r2, r3, r4, r5, s0, s1, s2, s3, s4, s5] = val [a0, a1, a2, a3, a4, a5] * val [b0, b1, b2, b3, b4, b5]) ∧ Below w.heap.size w w' := by
  have hixA := fun wx k hk => run_index_row wx a0 a1 a2 a3 a4 a5 k hk
  have hixB := fun wx k hk => run_index_row wx b0 b1 b2 b3 b4 b5 k hk
  go_enter Tryd.func40, Tryd.ntmps40
  generalize hL : [a0, a1, a2, a3, a4, a5] = L at *
  generalize hM : [b0, b1, b2, b3, b4, b5] = M at *
  have HL : Hid ([a0, a1, a2, a3, a4, a5] = L) := hL
  have HM : Hid ([b0, b1, b2, b3, b4, b5] = M) := hM
  have lL : Hid (L.length = 6) := by rw [← hL]; rfl
  have lM : Hid (M.length = 6) := by rw [← hM]; rfl
  have HD : Hid (Digs L ∧ Digs M) := ⟨da, db⟩
  have HIB : Hid (∀ (wx : World) (k : Nat), k < 6 → (Instr.index 53 (.agg #[.int .i64 b0, .int .i64 b1, .int .i64 b2, .int .i64 b3, .int .i64 b4, .int .i64 b5]) (.int .i64 (k : Int))).run Tryd.prog wx = .ok (.int .i64 (M.getD k 0)) wx) := hixB
  have HIA : Hid (∀ (wx : World) (k : Nat), k < 6 → (Instr.index 53 (.agg #[.int .i64 a0, .int .i64 a1, .int .i64 a2, .int .i64 a3, .int .i64 a4, .int .i64 a5]) (.int .i64 (k : Int))).run Tryd.prog wx = .ok (.int .i64 (L.getD k 0)) wx) := hixA
  clear hL hM da db hixA hixB
  go_wp2
  go_loopw [14] (fun iv wr => ∃ (i : Nat) (O : List Int), i ≤ 6 ∧ iv = .int .i64 i ∧ Hid (OutSt L M i O) ∧ Hid (OwnA 84 wr (w.heap.size + 1 + 1 + 1 + 1) O) ∧ Hid (OwnA 53 wr (w.heap.size + 1) M) ∧ Hid (OwnA 53 wr (w.heap.size + 1 + 1) [0, 0, 0, 0, 0, 0]) ∧ Hid (OwnA 53 wr (w.heap.size + 1 + 1 + 1) [0, 0, 0, 0, 0, 0]) ∧ Hid (Below w.heap.size w wr)) (fun iv _ => 6 - (intOf iv).toNat)
  case atStart =>
    refine ⟨0, [0, 0, 0, 0, 0, 0, 0, 0, 0, 0, 0, 0], by omega, rfl, ?_, ?_, ?_, ?_, ?_, ?_⟩
    · have h := outSt_zero L M
      rw [lL.out, lM.out] at h
      exact h
    · exact ownA_at _ _ _ _ _ rfl (by simp) (by simp)
    · exact (((ownA_at _ _ _ M _ (by rw [← HM.out]; rfl) (by rw [lM.out]; omega) (by simp)).alloc _).alloc _).alloc _
    · exact ((ownA_at _ _ _ _ _ rfl (by simp) (by simp)).alloc _).alloc _
    · exact (ownA_at _ _ _ _ _ rfl (by simp) (by simp)).alloc _
    · exact ((below_three w _ _ _).alloc (by simp; omega) _).alloc (by simp; omega) _
  case round =>
    obtain ⟨i, O, hi6, rfl, hSt, hO, hMM, h1, h2, hB⟩ := hrel
    by_cases hlt : i < 6
    · have hix := fun wx => HIA.out wx i hlt
      have dX := HD.out.1.getD i
      generalize hgx : L.getD i 0 = x at hix dX
      have HGX : Hid (L.getD i 0 = x) := hgx
      have HI0 : Hid (InSt O i x M (val (O.take i ++ [val (O.drop i) + x * val M])) 0 O 0) := outSt_in hSt.out x
      have HOL : Hid (O.length = 12) := by show _ = _; rw [hSt.out.1, lL.out, lM.out]
      have hmc := hMM.out
      rw [← HM.out] at hmc
      obtain ⟨m0, m1, m2, m3, m4, m5⟩ := hmc.cells6
      clear hgx hmc
      go_wp2
      clear hix m0 m1 m2 m3 m4 m5
      obtain ⟨wo, rfl⟩ : ∃ wo : World, wo = wr := ⟨_, rfl⟩
      go_loopw [9, 19] (fun cv kv wr => ∃ (k : Nat) (cy : Int) (O' : List Int), k ≤ 6 ∧ kv = .int .i64 k ∧ cv = .int .i64 cy ∧ 0 ≤ cy ∧ cy < 65536 ∧ Hid (InSt O i x M (val (O.take i ++ [val (O.drop i) + x * val M])) k O' cy) ∧ Hid (OwnA 84 wr (w.heap.size + 1 + 1 + 1 + 1) O') ∧ Hid (OwnA 53 wr (w.heap.size + 1) M) ∧ Hid (OwnA 53 wr (w.heap.size + 1 + 1) [0, 0, 0, 0, 0, 0]) ∧ Hid (OwnA 53 wr (w.heap.size + 1 + 1 + 1) [0, 0, 0, 0, 0, 0]) ∧ Hid (Below w.heap.size w wr)) (fun _ kv _ => 6 - (intOf kv).toNat)
      case atStart => exact ⟨0, 0, O, by omega, rfl, rfl, by omega, by omega, HI0, hO, hMM, h1, h2, hB⟩
      case round =>
        clear HI0 hO hMM h1 h2 hB
        obtain ⟨k, cy, O', hk, rfl, rfl, c0, c1, hIn, hO, hMM, h1, h2, hB⟩ := hrel
        by_cases hlt2 : k < 6
        · have hix := fun wx => HIB.out wx k hlt2
          have g2 := hO.out.cell (i + k) (by rw [hIn.out.1, HOL.out]; omega)
          have g3 := hO.out.free (i + k)
          have dY := HD.out.2.getD k
          have dV := hIn.out.2.1.getD (i + k)
          generalize hgy : M.getD k 0 = y at hix dY
          generalize hgv : O'.getD (i + k) 0 = v at g2 dV
          have hxy := prod_bd dX dY
          have HS1 : Hid (InSt O i x M (val (O.take i ++ [val (O.drop i) + x * val M])) (k + 1) (O'.set (i + k) ((v + x * y + cy) % 65536)) ((v + x * y + cy) / 65536)) := inSt_step hIn.out (by rw [lM.out]; exact hlt2) (by rw [HOL.out]; omega) hgy hgv rfl (by omega)
          have i0' : (0 : Int) ≤ (i : Int) + (k : Int) := by omega
          have i12 : (i : Int) + (k : Int) < 12 := by omega
          clear hgy hgv
          go_wp2
          go_roundw
          case rel =>
            refine ⟨k + 1, (v + x * y + cy) / 65536, O'.set (i + k) ((v + x * y + cy) % 65536), by omega, by go_num, rfl, by omega, by omega, HS1, hO.out.stored _ _, hMM.out.other _ _ ?_, h1.out.other _ _ ?_, h2.out.other _ _ ?_, hB.out.setCell ?_ _⟩ <;> (show _; simp; try omega)
          case measure => simp [intOf]; omega
        · obtain rfl : k = 6 := by omega
          have hin2 := hIn.out
          rw [← lM.out] at hin2
          obtain ⟨hout, hgz⟩ := outSt_step hSt.out (by rw [lL.out]; exact hlt) HGX.out hin2 c0 c1
          rw [lM.out] at hout
          have g2 := hO.out.cell (i + 6) (by rw [hIn.out.1, HOL.out]; omega)
          have g3 := hO.out.free (i + 6)
          generalize O'.getD (i + 6) 0 = v at g2
          have HOUT : Hid (OutSt L M (i + 1) (O'.set (i + 6) cy)) := hout
          have i0' : (0 : Int) ≤ (i : Int) + 6 := by omega
          have i12 : (i : Int) + 6 < 12 := by omega
          clear hin2 hout hgz
          go_wp2
          go_roundw
          case rel =>
            refine ⟨i + 1, O'.set (i + 6) cy, by omega, by go_num, HOUT, hO.out.stored _ _, hMM.out.other _ _ ?_, h1.out.other _ _ ?_, h2.out.other _ _ ?_, hB.out.setCell ?_ _⟩ <;> (show _; simp; try omega)
          case measure => simp [intOf]; omega
    · obtain rfl : i = 6 := by omega
      have hv : val O = val L * val M := outSt_end (by rw [lL.out]; exact hSt.out)
      obtain ⟨r0, r1, r2, r3, r4, r5, s0, s1, s2, s3, s4, s5, h12⟩ := list12 (L := O) (by rw [hSt.out.1, lL.out, lM.out])
      have HV : Hid (Digs [r0, r1, r2, r3, r4, r5, s0, s1, s2, s3, s4, s5] ∧ val [r0, r1, r2, r3, r4, r5, s0, s1, s2, s3, s4, s5] = val L * val M) := by
        rw [← h12]; exact ⟨hSt.out.2.1, hv⟩
      rw [h12] at hO
      obtain ⟨⟨p0, p1, p2, p3, p4, p5⟩, q0, q1, q2, q3, q4, q5⟩ := hO.out.cells12
      have HB1 : Hid (Below w.heap.size w wr) := hB
      clear hv h12 hSt hO hMM hB
      go_wp2_with fail
      refine (splitWide_c r0 r1 r2 r3 r4 r5 s0 s1 s2 s3 s4 s5 _).mono ?_
      rintro e w2 ⟨rfl, hb⟩
      have HB2 : Hid (Below w.heap.size w w2) := HB1.out.trans (hb.mono HB1.out.size)
      obtain ⟨t0, t1, t2, t3, t4, t5⟩ := (h1.out.later hb).cells6
      obtain ⟨v0, v1, v2, v3, v4, v5⟩ := (h2.out.later hb).cells6
      have f10 := (h1.out.later hb).free 0
      have f11 := (h1.out.later hb).free 1
      have f12 := (h1.out.later hb).free 2
      have f13 := (h1.out.later hb).free 3
      have f14 := (h1.out.later hb).free 4
      have f15 := (h1.out.later hb).free 5
      have f20 := (h2.out.later hb).free 0
      have f21 := (h2.out.later hb).free 1
      have f22 := (h2.out.later hb).free 2
      have f23 := (h2.out.later hb).free 3
      have f24 := (h2.out.later hb).free 4
      have f25 := (h2.out.later hb).free 5
      clear hb h1 h2 p0 p1 p2 p3 p4 p5 q0 q1 q2 q3 q4 q5
      go_wp2
      refine bodyPost_ret (v := .tuple #[.agg #[.int .i64 r0, .int .i64 r1, .int .i64 r2, .int .i64 r3, .int .i64 r4, .int .i64 r5], .agg #[.int .i64 s0, .int .i64 s1, .int .i64 s2, .int .i64 s3, .int .i64 s4, .int .i64 s5]]) (by simp [results, Tryd.results40, go_sem, *]) rfl ⟨r0, r1, r2, r3, r4, r5, s0, s1, s2, s3, s4, s5, rfl, HV, ?_⟩
      exact below_set6 (below_set6 HB2.out (by omega)) (by omega)

end Go.Proofs.YtaedplfihjfchaaDoor
