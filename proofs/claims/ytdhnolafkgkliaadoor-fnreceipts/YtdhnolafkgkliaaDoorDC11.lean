/- Chapter 11: DrawCheckReceipt. -/
import Derived.Test.YtdhnolafkgkliaaDoorD11
import Derived.Test.YtdhnolafkgkliaaDoorL11
namespace Go.Proofs.YtdhnolafkgkliaaDoor
set_option linter.unusedVariables false
set_option maxRecDepth 1000000
set_option linter.unusedSimpArgs false
open Go.RowKit

theorem sign_small (s f t l : Int) (hl : 0 ≤ l ∧ l ≤ 1000) : 0 ≤ (signV s f t l).2.2.1 ∧ (signV s f t l).2.2.1 ≤ 1000 := by
  unfold signV
  split
  · exact hl
  · simp

set_option maxHeartbeats 16000000 in
theorem drawCheckR_c (ao : Option Addr) (n c : Nat) (w : World) (hn : n ≤ 9223372036854775807) (h : CodeOk w w.heap.size ao n) :
    Calls Tryd.prog 28 #[.slice ao n c] w fun e w' => ∃ p a0 a1 a2 a3 : Int, e = .returned (.tuple #[.int .i64 p, .agg #[.int .i64 a0, .int .i64 a1, .int .i64 a2, .int .i64 a3]]) ∧ Below w.heap.size w w' := by
  have HN : Hid (CodeOk w w.heap.size ao n) := h
  have HOld : Hid (Old ao n w.heap.size) := h.old
  clear h
  have HB_0 : Hid (Below w.heap.size w w) := Below.refl _ _
  have hHB := HB_0.out.alloc HB_0.out.size (.cells #[.int .i64 0, .int .i64 0, .int .i64 0, .int .i64 0] 43)
  have hZ := x4_new w (.int .i64 0) (.int .i64 0) (.int .i64 0) (.int .i64 0) 43 w.heap.size rfl
  have hz : (w.alloc (.cells #[.int .i64 0, .int .i64 0, .int .i64 0, .int .i64 0] 43)).heap.size = w.heap.size + 1 := by simp
  obtain ⟨w1, hV1⟩ : ∃ V, w.alloc (.cells #[.int .i64 0, .int .i64 0, .int .i64 0, .int .i64 0] 43) = V := ⟨_, rfl⟩
  rw [hV1] at hHB hZ hz
  have HB_1 : Hid (Below w.heap.size w w1) := hHB
  have Z_1 : Hid (X4 w1 w.heap.size (.int .i64 0) (.int .i64 0) (.int .i64 0) (.int .i64 0)) := hZ
  have z1 : w.heap.size + 1 ≤ w1.heap.size := by omega
  clear HB_0 hHB hZ hz
  have hHB := HB_1.out.alloc HB_1.out.size (.cells #[.slice ao n c, .int .i64 0, .int .u64 0] 70)
  have hZ := Z_1.out.later (balloc w1 (.cells #[.slice ao n c, .int .i64 0, .int .u64 0] 70))
  have hCU := cur_new (c := c) 70 hn (HN.out.later HB_1.out HB_1.out.size)
  have hz : (w1.alloc (.cells #[.slice ao n c, .int .i64 0, .int .u64 0] 70)).heap.size = w1.heap.size + 1 := by simp
  obtain ⟨w2, hV2⟩ : ∃ V, w1.alloc (.cells #[.slice ao n c, .int .i64 0, .int .u64 0] 70) = V := ⟨_, rfl⟩
  rw [hV2] at hHB hZ hCU hz
  have HB_2 : Hid (Below w.heap.size w w2) := hHB
  have Z_2 : Hid (X4 w2 w.heap.size (.int .i64 0) (.int .i64 0) (.int .i64 0) (.int .i64 0)) := hZ
  have CU_2 : Hid (Cur w2 w1.heap.size ao n c 0) := hCU
  have z2 : w1.heap.size + 1 ≤ w2.heap.size := by omega
  clear HB_1 Z_1 hHB hZ hCU hz
  go_enter Tryd.func28, Tryd.ntmps28
  go_wp2_with fail
  clear hV1 hV2
  refine (secret_c (w1.heap.size) ao n c 0 _ (by omega) CU_2.out).mono ?_
  rintro e w3 ⟨sc, rfl, hc, hg⟩
  have hg9 : GB (w1.heap.size) w2 w3 := hg
  have z3 : w2.heap.size ≤ w3.heap.size := hg9.size
  have HB_3 : Hid (Below w.heap.size w w3) := HB_2.out.trans (hg9.below HB_2.out.size (by have := HB_2.out.size; omega))
  have Z_3 : Hid (X4 w3 w.heap.size (.int .i64 0) (.int .i64 0) (.int .i64 0) (.int .i64 0)) := Z_2.out.grown hg9 (fun e => by have e2 := Option.some.inj e; omega)
  have CU_3 : Hid (Cur w3 w1.heap.size ao n c 20) := hc.mono (by omega)
  clear hc hg hg9 HB_2 Z_2 CU_2
  have qp := fun wx => specPublic_c sc wx
  generalize (if secB sc = true then pw 4 sc.toNat else 0) = pv at qp
  generalize secB sc = pb at qp
  go_wp2_with fail
  refine (qp _).mono ?_
  rintro e w' ⟨rfl, hw⟩
  subst w'
  clear qp
  go_wp2_with fail
  refine (pick_c (w1.heap.size) ao n c 20 4 _ (by omega) (by omega) CU_3.out).mono ?_
  rintro e w4 ⟨x, rfl, hx0, hx1, hc, hg⟩
  have hg9 : GB (w1.heap.size) w3 w4 := hg
  have z4 : w3.heap.size ≤ w4.heap.size := hg9.size
  have HB_4 : Hid (Below w.heap.size w w4) := HB_3.out.trans (hg9.below HB_3.out.size (by have := HB_3.out.size; omega))
  have Z_4 : Hid (X4 w4 w.heap.size (.int .i64 0) (.int .i64 0) (.int .i64 0) (.int .i64 0)) := Z_3.out.grown hg9 (fun e => by have e2 := Option.some.inj e; omega)
  have CU_4 : Hid (Cur w4 w1.heap.size ao n c 22) := hc.mono (by omega)
  clear hc hg hg9 HB_3 Z_3 CU_3
  go_wp2_with fail
  refine (pick_c (w1.heap.size) ao n c 22 9 _ (by omega) (by omega) CU_4.out).mono ?_
  rintro e w5 ⟨y, rfl, hy0, hy1, hc, hg⟩
  have hg9 : GB (w1.heap.size) w4 w5 := hg
  have z5 : w4.heap.size ≤ w5.heap.size := hg9.size
  have HB_5 : Hid (Below w.heap.size w w5) := HB_4.out.trans (hg9.below HB_4.out.size (by have := HB_4.out.size; omega))
  have Z_5 : Hid (X4 w5 w.heap.size (.int .i64 0) (.int .i64 0) (.int .i64 0) (.int .i64 0)) := Z_4.out.grown hg9 (fun e => by have e2 := Option.some.inj e; omega)
  have CU_5 : Hid (Cur w5 w1.heap.size ao n c 24) := hc.mono (by omega)
  clear hc hg hg9 HB_4 Z_4 CU_4
  have q1 := fun wx => specSign_c sc (x - 1) 0 y wx (by omega) (by omega)
  have hb1 := sign_small sc (x - 1) 0 y (by omega)
  obtain ⟨a0, a1, a2, a3, hA⟩ : ∃ a0 a1 a2 a3, signV sc (x - 1) 0 y = (a0, a1, a2, a3) := ⟨_, _, _, _, rfl⟩
  rw [hA] at q1 hb1
  generalize signOk sc (x - 1) 0 y = f1 at q1
  clear hA
  go_wp2_with fail
  refine (q1 _).mono ?_
  rintro e w6 ⟨rfl, hb⟩
  have hB : Below w5.heap.size w5 w6 := hb
  have HB_6 : Hid (Below w.heap.size w w6) := HB_5.out.trans (hB.mono HB_5.out.size)
  have Z_6 : Hid (X4 w6 w.heap.size (.int .i64 0) (.int .i64 0) (.int .i64 0) (.int .i64 0)) := Z_5.out.later hB
  have CU_6 : Hid (Cur w6 w1.heap.size ao n c 24) := CU_5.out.later hB
  have z6 : w5.heap.size ≤ w6.heap.size := hB.size
  clear hb hB HB_5 Z_5 CU_5 
  clear q1
  have hHB := HB_6.out.alloc HB_6.out.size (.cells #[.int .i64 a0, .int .i64 a1, .int .i64 a2, .int .i64 a3] 43)
  have hZ := Z_6.out.later (balloc w6 (.cells #[.int .i64 a0, .int .i64 a1, .int .i64 a2, .int .i64 a3] 43))
  have hCU := CU_6.out.later (balloc w6 (.cells #[.int .i64 a0, .int .i64 a1, .int .i64 a2, .int .i64 a3] 43))
  have hR := x4_new w6 (.int .i64 a0) (.int .i64 a1) (.int .i64 a2) (.int .i64 a3) 43 w6.heap.size rfl
  have hz : (w6.alloc (.cells #[.int .i64 a0, .int .i64 a1, .int .i64 a2, .int .i64 a3] 43)).heap.size = w6.heap.size + 1 := by simp
  obtain ⟨w7, hV7⟩ : ∃ V, w6.alloc (.cells #[.int .i64 a0, .int .i64 a1, .int .i64 a2, .int .i64 a3] 43) = V := ⟨_, rfl⟩
  rw [hV7] at hHB hZ hCU hR hz
  have HB_7 : Hid (Below w.heap.size w w7) := hHB
  have Z_7 : Hid (X4 w7 w.heap.size (.int .i64 0) (.int .i64 0) (.int .i64 0) (.int .i64 0)) := hZ
  have CU_7 : Hid (Cur w7 w1.heap.size ao n c 24) := hCU
  have R_7 : Hid (X4 w7 w6.heap.size (.int .i64 a0) (.int .i64 a1) (.int .i64 a2) (.int .i64 a3)) := hR
  have z7 : w6.heap.size + 1 ≤ w7.heap.size := by omega
  clear HB_6 Z_6 CU_6 hHB hZ hCU hR hz
  go_wp2_with fail
  clear hV7
  refine (pick_c (w1.heap.size) ao n c 24 4 _ (by omega) (by omega) CU_7.out).mono ?_
  rintro e w8 ⟨z, rfl, hz0, hz1, hc, hg⟩
  have hg9 : GB (w1.heap.size) w7 w8 := hg
  have z8 : w7.heap.size ≤ w8.heap.size := hg9.size
  have HB_8 : Hid (Below w.heap.size w w8) := HB_7.out.trans (hg9.below HB_7.out.size (by have := HB_7.out.size; omega))
  have Z_8 : Hid (X4 w8 w.heap.size (.int .i64 0) (.int .i64 0) (.int .i64 0) (.int .i64 0)) := Z_7.out.grown hg9 (fun e => by have e2 := Option.some.inj e; omega)
  have R_8 : Hid (X4 w8 w6.heap.size (.int .i64 a0) (.int .i64 a1) (.int .i64 a2) (.int .i64 a3)) := R_7.out.grown hg9 (fun e => by have e2 := Option.some.inj e; omega)
  have CU_8 : Hid (Cur w8 w1.heap.size ao n c 26) := hc.mono (by omega)
  clear hc hg hg9 HB_7 Z_7 CU_7 R_7
  go_wp2_with fail
  refine (pick_c (w1.heap.size) ao n c 26 9 _ (by omega) (by omega) CU_8.out).mono ?_
  rintro e w9 ⟨u, rfl, hu0, hu1, hc, hg⟩
  have hg9 : GB (w1.heap.size) w8 w9 := hg
  have z9 : w8.heap.size ≤ w9.heap.size := hg9.size
  have HB_9 : Hid (Below w.heap.size w w9) := HB_8.out.trans (hg9.below HB_8.out.size (by have := HB_8.out.size; omega))
  have Z_9 : Hid (X4 w9 w.heap.size (.int .i64 0) (.int .i64 0) (.int .i64 0) (.int .i64 0)) := Z_8.out.grown hg9 (fun e => by have e2 := Option.some.inj e; omega)
  have R_9 : Hid (X4 w9 w6.heap.size (.int .i64 a0) (.int .i64 a1) (.int .i64 a2) (.int .i64 a3)) := R_8.out.grown hg9 (fun e => by have e2 := Option.some.inj e; omega)
  have CU_9 : Hid (Cur w9 w1.heap.size ao n c 28) := hc.mono (by omega)
  clear hc hg hg9 HB_8 Z_8 CU_8 R_8
  have q2 := fun wx => specSign_c sc (z - 1) z u wx (by omega) (by omega)
  have hb2 := sign_small sc (z - 1) z u (by omega)
  obtain ⟨d0, d1, d2, d3, hD⟩ : ∃ d0 d1 d2 d3, signV sc (z - 1) z u = (d0, d1, d2, d3) := ⟨_, _, _, _, rfl⟩
  rw [hD] at q2 hb2
  generalize signOk sc (z - 1) z u = f2 at q2
  clear hD
  go_wp2_with fail
  refine (q2 _).mono ?_
  rintro e w10 ⟨rfl, hb⟩
  have hB : Below w9.heap.size w9 w10 := hb
  have HB_10 : Hid (Below w.heap.size w w10) := HB_9.out.trans (hB.mono HB_9.out.size)
  have Z_10 : Hid (X4 w10 w.heap.size (.int .i64 0) (.int .i64 0) (.int .i64 0) (.int .i64 0)) := Z_9.out.later hB
  have CU_10 : Hid (Cur w10 w1.heap.size ao n c 28) := CU_9.out.later hB
  have R_10 : Hid (X4 w10 w6.heap.size (.int .i64 a0) (.int .i64 a1) (.int .i64 a2) (.int .i64 a3)) := R_9.out.later hB
  have z10 : w9.heap.size ≤ w10.heap.size := hB.size
  clear hb hB HB_9 Z_9 CU_9 R_9 
  clear q2
  have hHB := HB_10.out.alloc HB_10.out.size (.cells #[.int .i64 d0, .int .i64 d1, .int .i64 d2, .int .i64 d3] 43)
  have hZ := Z_10.out.later (balloc w10 (.cells #[.int .i64 d0, .int .i64 d1, .int .i64 d2, .int .i64 d3] 43))
  have hCU := CU_10.out.later (balloc w10 (.cells #[.int .i64 d0, .int .i64 d1, .int .i64 d2, .int .i64 d3] 43))
  have hR := R_10.out.later (balloc w10 (.cells #[.int .i64 d0, .int .i64 d1, .int .i64 d2, .int .i64 d3] 43))
  have hQ := x4_new w10 (.int .i64 d0) (.int .i64 d1) (.int .i64 d2) (.int .i64 d3) 43 w10.heap.size rfl
  have hz : (w10.alloc (.cells #[.int .i64 d0, .int .i64 d1, .int .i64 d2, .int .i64 d3] 43)).heap.size = w10.heap.size + 1 := by simp
  obtain ⟨w11, hV11⟩ : ∃ V, w10.alloc (.cells #[.int .i64 d0, .int .i64 d1, .int .i64 d2, .int .i64 d3] 43) = V := ⟨_, rfl⟩
  rw [hV11] at hHB hZ hCU hR hQ hz
  have HB_11 : Hid (Below w.heap.size w w11) := hHB
  have Z_11 : Hid (X4 w11 w.heap.size (.int .i64 0) (.int .i64 0) (.int .i64 0) (.int .i64 0)) := hZ
  have CU_11 : Hid (Cur w11 w1.heap.size ao n c 28) := hCU
  have R_11 : Hid (X4 w11 w6.heap.size (.int .i64 a0) (.int .i64 a1) (.int .i64 a2) (.int .i64 a3)) := hR
  have Q_11 : Hid (X4 w11 w10.heap.size (.int .i64 d0) (.int .i64 d1) (.int .i64 d2) (.int .i64 d3)) := hQ
  have z11 : w10.heap.size + 1 ≤ w11.heap.size := by omega
  clear HB_10 Z_10 CU_10 R_10 hHB hZ hCU hR hQ hz
  by_cases hf2 : f2 = true
  case neg =>
    rw [Bool.not_eq_true] at hf2
    subst hf2
    go_wp2_with fail
    clear hV11
    refine (pick_c (w1.heap.size) ao n c 28 6 _ (by omega) (by omega) CU_11.out).mono ?_
    rintro e w12 ⟨v, rfl, hv0, hv1, hc, hg⟩
    have hg9 : GB (w1.heap.size) w11 w12 := hg
    have z12 : w11.heap.size ≤ w12.heap.size := hg9.size
    have HB_12 : Hid (Below w.heap.size w w12) := HB_11.out.trans (hg9.below HB_11.out.size (by have := HB_11.out.size; omega))
    have Z_12 : Hid (X4 w12 w.heap.size (.int .i64 0) (.int .i64 0) (.int .i64 0) (.int .i64 0)) := Z_11.out.grown hg9 (fun e => by have e2 := Option.some.inj e; omega)
    have R_12 : Hid (X4 w12 w6.heap.size (.int .i64 a0) (.int .i64 a1) (.int .i64 a2) (.int .i64 a3)) := R_11.out.grown hg9 (fun e => by have e2 := Option.some.inj e; omega)
    have Q_12 : Hid (X4 w12 w10.heap.size (.int .i64 d0) (.int .i64 d1) (.int .i64 d2) (.int .i64 d3)) := Q_11.out.grown hg9 (fun e => by have e2 := Option.some.inj e; omega)
    have CU_12 : Hid (Cur w12 w1.heap.size ao n c 30) := hc.mono (by omega)
    clear hc hg hg9 HB_11 Z_11 CU_11 R_11 Q_11
    by_cases v0 : v = 0
    · have v0b : (v == 0) = true := by simpa using v0
      clear v0
      have hlit := lit_cells (fun _ => True) w12 #[.int .i64 (-1), .int .i64 0, .int .i64 1498, .int .i64 1499] 3 4 rfl ⟨trivial, trivial, trivial, trivial, trivial⟩
      go_wp2_with fail
      refine (among_p (fun _ => True) (w1.heap.size) ao n c 30 w12.heap.size 4 _ (by omega) (by omega) hlit (by omega) (CU_12.out.alloc _)).mono ?_
      rintro e w13 ⟨t, rfl, _, hc, hg⟩
      have hg9 : GB (w1.heap.size) (w12.alloc (.cells #[.int .i64 (-1), .int .i64 0, .int .i64 1498, .int .i64 1499] 3)) w13 := hg
      have z13 : w12.heap.size ≤ w13.heap.size := Nat.le_trans (by simp) hg9.size
      have HB_13 : Hid (Below w.heap.size w w13) := (HB_12.out.alloc HB_12.out.size _).trans (hg9.below (HB_12.out.alloc HB_12.out.size _).size (by have := HB_12.out.size; omega))
      have Z_13 : Hid (X4 w13 w.heap.size (.int .i64 0) (.int .i64 0) (.int .i64 0) (.int .i64 0)) := (Z_12.out.later (balloc w12 (.cells #[.int .i64 (-1), .int .i64 0, .int .i64 1498, .int .i64 1499] 3))).grown hg9 (fun e => by have e2 := Option.some.inj e; omega)
      have R_13 : Hid (X4 w13 w6.heap.size (.int .i64 a0) (.int .i64 a1) (.int .i64 a2) (.int .i64 a3)) := (R_12.out.later (balloc w12 (.cells #[.int .i64 (-1), .int .i64 0, .int .i64 1498, .int .i64 1499] 3))).grown hg9 (fun e => by have e2 := Option.some.inj e; omega)
      have Q_13 : Hid (X4 w13 w10.heap.size (.int .i64 d0) (.int .i64 d1) (.int .i64 d2) (.int .i64 d3)) := (Q_12.out.later (balloc w12 (.cells #[.int .i64 (-1), .int .i64 0, .int .i64 1498, .int .i64 1499] 3))).grown hg9 (fun e => by have e2 := Option.some.inj e; omega)
      have CU_13 : Hid (Cur w13 w1.heap.size ao n c 32) := hc.mono (by omega)
      clear hc hg hg9 HB_12 Z_12 CU_12 R_12 Q_12
      clear hlit
      have hgr : w13.grownBy (w13.setCell ⟨w6.heap.size, 3, none⟩ (.int .i64 t)) (some (w6.heap.size)) := grown_setCell (w13) (w6.heap.size) 3 (.int .i64 t)
      have hR := (R_13.out.set3 (.int .i64 t))
      have hHB : Below w.heap.size w (w13.setCell ⟨w6.heap.size, 3, none⟩ (.int .i64 t)) := (HB_13.out.setCell (by show w.heap.size ≤ w6.heap.size; have := HB_13.out.size; omega) (.int .i64 t))
      have hZ := Z_13.out.grown hgr (fun e => by have e2 := Option.some.inj e; omega)
      have hCU := CU_13.out.grown (B := w2.heap.size) hgr (fun k e => by have e2 := Option.some.inj e; omega) (by omega) (old_mono HOld.out (by omega))
      have hQ := Q_13.out.grown hgr (fun e => by have e2 := Option.some.inj e; omega)
      have hz := hgr.size
      obtain ⟨w14, hV14⟩ : ∃ V, (w13.setCell ⟨w6.heap.size, 3, none⟩ (.int .i64 t)) = V := ⟨_, rfl⟩
      rw [hV14] at hHB hZ hCU hR hQ hz
      have HB_14 : Hid (Below w.heap.size w w14) := hHB
      have Z_14 : Hid (X4 w14 w.heap.size (.int .i64 0) (.int .i64 0) (.int .i64 0) (.int .i64 0)) := hZ
      have CU_14 : Hid (Cur w14 w1.heap.size ao n c 32) := hCU
      have R_14 : Hid (X4 w14 (w6.heap.size) (.int .i64 a0) (.int .i64 a1) (.int .i64 a2) (.int .i64 t)) := hR
      have Q_14 : Hid (X4 w14 w10.heap.size (.int .i64 d0) (.int .i64 d1) (.int .i64 d2) (.int .i64 d3)) := hQ
      have z14 : w13.heap.size ≤ w14.heap.size := hz
      obtain ⟨⟨oR0, oR1, oR2, oR3⟩, oRf⟩ := id (R_13.out)
      have oRf3 := oRf 3
      clear oRf hgr hz hHB hZ hCU hR hQ HB_13 Z_13 CU_13 Q_13
      obtain ⟨⟨Rq0, Rq1, Rq2, Rq3⟩, Rf⟩ := id (R_14.out)
      clear Rf
      obtain ⟨⟨Zq0, Zq1, Zq2, Zq3⟩, Zf⟩ := id (Z_14.out)
      clear Zf
      have hZ9 := (((Z_14.out.set0 (.int .i64 a0)).set1 (.int .i64 a1)).set2 (.int .i64 a2)).set3 (.int .i64 t)
      obtain ⟨⟨y0, y1, y2, y3⟩, _⟩ := hZ9
      obtain ⟨_, zf⟩ := id (Z_14.out)
      have zf0 := zf 0
      have zf1 := zf 1
      have zf2 := zf 2
      have zf3 := zf 3
      clear zf
      go_wp2
      go_region_with fail
      all_goals go_wp2
      all_goals refine bodyPost_ret (v := .tuple #[.int .i64 pv, .agg #[.int .i64 a0, .int .i64 a1, .int .i64 a2, .int .i64 t]]) (by simp [results, Tryd.results28, go_sem, y0, y1, y2, y3]; try rfl) rfl ?_
      all_goals exact ⟨pv, _, _, _, _, rfl, by first | exact ((((HB_14.out.setCell (Nat.le_refl _) _).setCell (Nat.le_refl _) _).setCell (Nat.le_refl _) _).setCell (Nat.le_refl _) _) | exact ((((HB_14.out.setCell (Nat.le_refl _) _).setCell (Nat.le_refl _) _).setCell (Nat.le_refl _) _).setCell (Nat.le_refl _) _).drew | exact ((((HB_14.out.drew.setCell (Nat.le_refl _) _).setCell (Nat.le_refl _) _).setCell (Nat.le_refl _) _).setCell (Nat.le_refl _) _)⟩
    have v0b : (v == 0) = false := by simpa using v0
    clear v0
    by_cases v1 : v = 1
    · have v1b : (v == 1) = true := by simpa using v1
      clear v1
      have hgr : w12.grownBy (w12.setCell ⟨w6.heap.size, 2, none⟩ (.int .i64 (a2 + 1))) (some (w6.heap.size)) := grown_setCell (w12) (w6.heap.size) 2 (.int .i64 (a2 + 1))
      have hR := (R_12.out.set2 (.int .i64 (a2 + 1)))
      have hHB : Below w.heap.size w (w12.setCell ⟨w6.heap.size, 2, none⟩ (.int .i64 (a2 + 1))) := (HB_12.out.setCell (by show w.heap.size ≤ w6.heap.size; have := HB_12.out.size; omega) (.int .i64 (a2 + 1)))
      have hZ := Z_12.out.grown hgr (fun e => by have e2 := Option.some.inj e; omega)
      have hCU := CU_12.out.grown (B := w2.heap.size) hgr (fun k e => by have e2 := Option.some.inj e; omega) (by omega) (old_mono HOld.out (by omega))
      have hQ := Q_12.out.grown hgr (fun e => by have e2 := Option.some.inj e; omega)
      have hz := hgr.size
      obtain ⟨w13, hV13⟩ : ∃ V, (w12.setCell ⟨w6.heap.size, 2, none⟩ (.int .i64 (a2 + 1))) = V := ⟨_, rfl⟩
      rw [hV13] at hHB hZ hCU hR hQ hz
      have HB_13 : Hid (Below w.heap.size w w13) := hHB
      have Z_13 : Hid (X4 w13 w.heap.size (.int .i64 0) (.int .i64 0) (.int .i64 0) (.int .i64 0)) := hZ
      have CU_13 : Hid (Cur w13 w1.heap.size ao n c 30) := hCU
      have R_13 : Hid (X4 w13 (w6.heap.size) (.int .i64 a0) (.int .i64 a1) (.int .i64 (a2 + 1)) (.int .i64 a3)) := hR
      have Q_13 : Hid (X4 w13 w10.heap.size (.int .i64 d0) (.int .i64 d1) (.int .i64 d2) (.int .i64 d3)) := hQ
      have z13 : w12.heap.size ≤ w13.heap.size := hz
      obtain ⟨⟨oR0, oR1, oR2, oR3⟩, oRf⟩ := id (R_12.out)
      have oRf2 := oRf 2
      clear oRf hgr hz hHB hZ hCU hR hQ HB_12 Z_12 CU_12 Q_12
      obtain ⟨⟨Rq0, Rq1, Rq2, Rq3⟩, Rf⟩ := id (R_13.out)
      clear Rf
      obtain ⟨⟨Zq0, Zq1, Zq2, Zq3⟩, Zf⟩ := id (Z_13.out)
      clear Zf
      have hZ9 := (((Z_13.out.set0 (.int .i64 a0)).set1 (.int .i64 a1)).set2 (.int .i64 (a2 + 1))).set3 (.int .i64 a3)
      obtain ⟨⟨y0, y1, y2, y3⟩, _⟩ := hZ9
      obtain ⟨_, zf⟩ := id (Z_13.out)
      have zf0 := zf 0
      have zf1 := zf 1
      have zf2 := zf 2
      have zf3 := zf 3
      clear zf
      go_wp2
      go_region_with fail
      all_goals go_wp2
      all_goals refine bodyPost_ret (v := .tuple #[.int .i64 pv, .agg #[.int .i64 a0, .int .i64 a1, .int .i64 (a2 + 1), .int .i64 a3]]) (by simp [results, Tryd.results28, go_sem, y0, y1, y2, y3]; try rfl) rfl ?_
      all_goals exact ⟨pv, _, _, _, _, rfl, by first | exact ((((HB_13.out.setCell (Nat.le_refl _) _).setCell (Nat.le_refl _) _).setCell (Nat.le_refl _) _).setCell (Nat.le_refl _) _) | exact ((((HB_13.out.setCell (Nat.le_refl _) _).setCell (Nat.le_refl _) _).setCell (Nat.le_refl _) _).setCell (Nat.le_refl _) _).drew | exact ((((HB_13.out.drew.setCell (Nat.le_refl _) _).setCell (Nat.le_refl _) _).setCell (Nat.le_refl _) _).setCell (Nat.le_refl _) _)⟩
    have v1b : (v == 1) = false := by simpa using v1
    clear v1
    obtain ⟨⟨Rq0, Rq1, Rq2, Rq3⟩, Rf⟩ := id (R_12.out)
    clear Rf
    obtain ⟨⟨Zq0, Zq1, Zq2, Zq3⟩, Zf⟩ := id (Z_12.out)
    clear Zf
    have hZ9 := (((Z_12.out.set0 (.int .i64 a0)).set1 (.int .i64 a1)).set2 (.int .i64 a2)).set3 (.int .i64 a3)
    obtain ⟨⟨y0, y1, y2, y3⟩, _⟩ := hZ9
    obtain ⟨_, zf⟩ := id (Z_12.out)
    have zf0 := zf 0
    have zf1 := zf 1
    have zf2 := zf 2
    have zf3 := zf 3
    clear zf
    go_wp2
    go_region_with fail
    all_goals go_wp2
    all_goals refine bodyPost_ret (v := .tuple #[.int .i64 pv, .agg #[.int .i64 a0, .int .i64 a1, .int .i64 a2, .int .i64 a3]]) (by simp [results, Tryd.results28, go_sem, y0, y1, y2, y3]; try rfl) rfl ?_
    all_goals exact ⟨pv, _, _, _, _, rfl, by first | exact ((((HB_12.out.setCell (Nat.le_refl _) _).setCell (Nat.le_refl _) _).setCell (Nat.le_refl _) _).setCell (Nat.le_refl _) _) | exact ((((HB_12.out.setCell (Nat.le_refl _) _).setCell (Nat.le_refl _) _).setCell (Nat.le_refl _) _).setCell (Nat.le_refl _) _).drew | exact ((((HB_12.out.drew.setCell (Nat.le_refl _) _).setCell (Nat.le_refl _) _).setCell (Nat.le_refl _) _).setCell (Nat.le_refl _) _)⟩
  subst hf2
  obtain ⟨⟨Qq0, Qq1, Qq2, Qq3⟩, Qf⟩ := id (Q_11.out)
  clear Qf
  have hgr : w11.grownBy ((((w11.setCell ⟨w6.heap.size, 0, none⟩ (.int .i64 d0)).setCell ⟨w6.heap.size, 1, none⟩ (.int .i64 d1)).setCell ⟨w6.heap.size, 2, none⟩ (.int .i64 d2)).setCell ⟨w6.heap.size, 3, none⟩ (.int .i64 d3)) (some (w6.heap.size)) := grown_trans' (grown_trans' (grown_trans' (grown_setCell (w11) (w6.heap.size) 0 (.int .i64 d0)) (grown_setCell ((w11.setCell ⟨w6.heap.size, 0, none⟩ (.int .i64 d0))) (w6.heap.size) 1 (.int .i64 d1))) (grown_setCell (((w11.setCell ⟨w6.heap.size, 0, none⟩ (.int .i64 d0)).setCell ⟨w6.heap.size, 1, none⟩ (.int .i64 d1))) (w6.heap.size) 2 (.int .i64 d2))) (grown_setCell ((((w11.setCell ⟨w6.heap.size, 0, none⟩ (.int .i64 d0)).setCell ⟨w6.heap.size, 1, none⟩ (.int .i64 d1)).setCell ⟨w6.heap.size, 2, none⟩ (.int .i64 d2))) (w6.heap.size) 3 (.int .i64 d3))
  have hR := ((((R_11.out.set0 (.int .i64 d0)).set1 (.int .i64 d1)).set2 (.int .i64 d2)).set3 (.int .i64 d3))
  have hHB : Below w.heap.size w ((((w11.setCell ⟨w6.heap.size, 0, none⟩ (.int .i64 d0)).setCell ⟨w6.heap.size, 1, none⟩ (.int .i64 d1)).setCell ⟨w6.heap.size, 2, none⟩ (.int .i64 d2)).setCell ⟨w6.heap.size, 3, none⟩ (.int .i64 d3)) := ((((HB_11.out.setCell (by show w.heap.size ≤ w6.heap.size; have := HB_11.out.size; omega) (.int .i64 d0)).setCell (by show w.heap.size ≤ w6.heap.size; have := HB_11.out.size; omega) (.int .i64 d1)).setCell (by show w.heap.size ≤ w6.heap.size; have := HB_11.out.size; omega) (.int .i64 d2)).setCell (by show w.heap.size ≤ w6.heap.size; have := HB_11.out.size; omega) (.int .i64 d3))
  have hZ := Z_11.out.grown hgr (fun e => by have e2 := Option.some.inj e; omega)
  have hCU := CU_11.out.grown (B := w2.heap.size) hgr (fun k e => by have e2 := Option.some.inj e; omega) (by omega) (old_mono HOld.out (by omega))
  have hQ := Q_11.out.grown hgr (fun e => by have e2 := Option.some.inj e; omega)
  have hz := hgr.size
  obtain ⟨w12, hV12⟩ : ∃ V, ((((w11.setCell ⟨w6.heap.size, 0, none⟩ (.int .i64 d0)).setCell ⟨w6.heap.size, 1, none⟩ (.int .i64 d1)).setCell ⟨w6.heap.size, 2, none⟩ (.int .i64 d2)).setCell ⟨w6.heap.size, 3, none⟩ (.int .i64 d3)) = V := ⟨_, rfl⟩
  rw [hV12] at hHB hZ hCU hR hQ hz
  have HB_12 : Hid (Below w.heap.size w w12) := hHB
  have Z_12 : Hid (X4 w12 w.heap.size (.int .i64 0) (.int .i64 0) (.int .i64 0) (.int .i64 0)) := hZ
  have CU_12 : Hid (Cur w12 w1.heap.size ao n c 28) := hCU
  have R_12 : Hid (X4 w12 (w6.heap.size) (.int .i64 d0) (.int .i64 d1) (.int .i64 d2) (.int .i64 d3)) := hR
  have Q_12 : Hid (X4 w12 w10.heap.size (.int .i64 d0) (.int .i64 d1) (.int .i64 d2) (.int .i64 d3)) := hQ
  have z12 : w11.heap.size ≤ w12.heap.size := hz
  obtain ⟨⟨oR0, oR1, oR2, oR3⟩, oRf⟩ := id (R_11.out)
  have oRf0 := oRf 0
  have oRf1 := oRf 1
  have oRf2 := oRf 2
  have oRf3 := oRf 3
  clear oRf hgr hz hHB hZ hCU hR hQ HB_11 Z_11 CU_11 Q_11
  go_wp2_with fail
  clear hV11 hV12 R_11 oR0 oR1 oR2 oR3 oRf0 oRf1 oRf2 oRf3 Qq0 Qq1 Qq2 Qq3
  refine (pick_c (w1.heap.size) ao n c 28 6 _ (by omega) (by omega) CU_12.out).mono ?_
  rintro e w13 ⟨v, rfl, hv0, hv1, hc, hg⟩
  have hg9 : GB (w1.heap.size) w12 w13 := hg
  have z13 : w12.heap.size ≤ w13.heap.size := hg9.size
  have HB_13 : Hid (Below w.heap.size w w13) := HB_12.out.trans (hg9.below HB_12.out.size (by have := HB_12.out.size; omega))
  have Z_13 : Hid (X4 w13 w.heap.size (.int .i64 0) (.int .i64 0) (.int .i64 0) (.int .i64 0)) := Z_12.out.grown hg9 (fun e => by have e2 := Option.some.inj e; omega)
  have R_13 : Hid (X4 w13 (w6.heap.size) (.int .i64 d0) (.int .i64 d1) (.int .i64 d2) (.int .i64 d3)) := R_12.out.grown hg9 (fun e => by have e2 := Option.some.inj e; omega)
  have Q_13 : Hid (X4 w13 w10.heap.size (.int .i64 d0) (.int .i64 d1) (.int .i64 d2) (.int .i64 d3)) := Q_12.out.grown hg9 (fun e => by have e2 := Option.some.inj e; omega)
  have CU_13 : Hid (Cur w13 w1.heap.size ao n c 30) := hc.mono (by omega)
  clear hc hg hg9 HB_12 Z_12 CU_12 R_12 Q_12
  by_cases v0 : v = 0
  · have v0b : (v == 0) = true := by simpa using v0
    clear v0
    have hlit := lit_cells (fun _ => True) w13 #[.int .i64 (-1), .int .i64 0, .int .i64 1498, .int .i64 1499] 3 4 rfl ⟨trivial, trivial, trivial, trivial, trivial⟩
    go_wp2_with fail
    refine (among_p (fun _ => True) (w1.heap.size) ao n c 30 w13.heap.size 4 _ (by omega) (by omega) hlit (by omega) (CU_13.out.alloc _)).mono ?_
    rintro e w14 ⟨t, rfl, _, hc, hg⟩
    have hg9 : GB (w1.heap.size) (w13.alloc (.cells #[.int .i64 (-1), .int .i64 0, .int .i64 1498, .int .i64 1499] 3)) w14 := hg
    have z14 : w13.heap.size ≤ w14.heap.size := Nat.le_trans (by simp) hg9.size
    have HB_14 : Hid (Below w.heap.size w w14) := (HB_13.out.alloc HB_13.out.size _).trans (hg9.below (HB_13.out.alloc HB_13.out.size _).size (by have := HB_13.out.size; omega))
    have Z_14 : Hid (X4 w14 w.heap.size (.int .i64 0) (.int .i64 0) (.int .i64 0) (.int .i64 0)) := (Z_13.out.later (balloc w13 (.cells #[.int .i64 (-1), .int .i64 0, .int .i64 1498, .int .i64 1499] 3))).grown hg9 (fun e => by have e2 := Option.some.inj e; omega)
    have R_14 : Hid (X4 w14 (w6.heap.size) (.int .i64 d0) (.int .i64 d1) (.int .i64 d2) (.int .i64 d3)) := (R_13.out.later (balloc w13 (.cells #[.int .i64 (-1), .int .i64 0, .int .i64 1498, .int .i64 1499] 3))).grown hg9 (fun e => by have e2 := Option.some.inj e; omega)
    have Q_14 : Hid (X4 w14 w10.heap.size (.int .i64 d0) (.int .i64 d1) (.int .i64 d2) (.int .i64 d3)) := (Q_13.out.later (balloc w13 (.cells #[.int .i64 (-1), .int .i64 0, .int .i64 1498, .int .i64 1499] 3))).grown hg9 (fun e => by have e2 := Option.some.inj e; omega)
    have CU_14 : Hid (Cur w14 w1.heap.size ao n c 32) := hc.mono (by omega)
    clear hc hg hg9 HB_13 Z_13 CU_13 R_13 Q_13
    clear hlit
    have hgr : w14.grownBy (w14.setCell ⟨w6.heap.size, 3, none⟩ (.int .i64 t)) (some (w6.heap.size)) := grown_setCell (w14) (w6.heap.size) 3 (.int .i64 t)
    have hR := (R_14.out.set3 (.int .i64 t))
    have hHB : Below w.heap.size w (w14.setCell ⟨w6.heap.size, 3, none⟩ (.int .i64 t)) := (HB_14.out.setCell (by show w.heap.size ≤ w6.heap.size; have := HB_14.out.size; omega) (.int .i64 t))
    have hZ := Z_14.out.grown hgr (fun e => by have e2 := Option.some.inj e; omega)
    have hCU := CU_14.out.grown (B := w2.heap.size) hgr (fun k e => by have e2 := Option.some.inj e; omega) (by omega) (old_mono HOld.out (by omega))
    have hQ := Q_14.out.grown hgr (fun e => by have e2 := Option.some.inj e; omega)
    have hz := hgr.size
    obtain ⟨w15, hV15⟩ : ∃ V, (w14.setCell ⟨w6.heap.size, 3, none⟩ (.int .i64 t)) = V := ⟨_, rfl⟩
    rw [hV15] at hHB hZ hCU hR hQ hz
    have HB_15 : Hid (Below w.heap.size w w15) := hHB
    have Z_15 : Hid (X4 w15 w.heap.size (.int .i64 0) (.int .i64 0) (.int .i64 0) (.int .i64 0)) := hZ
    have CU_15 : Hid (Cur w15 w1.heap.size ao n c 32) := hCU
    have R_15 : Hid (X4 w15 (w6.heap.size) (.int .i64 d0) (.int .i64 d1) (.int .i64 d2) (.int .i64 t)) := hR
    have Q_15 : Hid (X4 w15 w10.heap.size (.int .i64 d0) (.int .i64 d1) (.int .i64 d2) (.int .i64 d3)) := hQ
    have z15 : w14.heap.size ≤ w15.heap.size := hz
    obtain ⟨⟨oR0, oR1, oR2, oR3⟩, oRf⟩ := id (R_14.out)
    have oRf3 := oRf 3
    clear oRf hgr hz hHB hZ hCU hR hQ HB_14 Z_14 CU_14 Q_14
    obtain ⟨⟨Rq0, Rq1, Rq2, Rq3⟩, Rf⟩ := id (R_15.out)
    clear Rf
    obtain ⟨⟨Zq0, Zq1, Zq2, Zq3⟩, Zf⟩ := id (Z_15.out)
    clear Zf
    have hZ9 := (((Z_15.out.set0 (.int .i64 d0)).set1 (.int .i64 d1)).set2 (.int .i64 d2)).set3 (.int .i64 t)
    obtain ⟨⟨y0, y1, y2, y3⟩, _⟩ := hZ9
    obtain ⟨_, zf⟩ := id (Z_15.out)
    have zf0 := zf 0
    have zf1 := zf 1
    have zf2 := zf 2
    have zf3 := zf 3
    clear zf
    go_wp2
    go_region_with fail
    all_goals go_wp2
    all_goals refine bodyPost_ret (v := .tuple #[.int .i64 pv, .agg #[.int .i64 d0, .int .i64 d1, .int .i64 d2, .int .i64 t]]) (by simp [results, Tryd.results28, go_sem, y0, y1, y2, y3]; try rfl) rfl ?_
    all_goals exact ⟨pv, _, _, _, _, rfl, by first | exact ((((HB_15.out.setCell (Nat.le_refl _) _).setCell (Nat.le_refl _) _).setCell (Nat.le_refl _) _).setCell (Nat.le_refl _) _) | exact ((((HB_15.out.setCell (Nat.le_refl _) _).setCell (Nat.le_refl _) _).setCell (Nat.le_refl _) _).setCell (Nat.le_refl _) _).drew | exact ((((HB_15.out.drew.setCell (Nat.le_refl _) _).setCell (Nat.le_refl _) _).setCell (Nat.le_refl _) _).setCell (Nat.le_refl _) _)⟩
  have v0b : (v == 0) = false := by simpa using v0
  clear v0
  by_cases v1 : v = 1
  · have v1b : (v == 1) = true := by simpa using v1
    clear v1
    have hgr : w13.grownBy (w13.setCell ⟨w6.heap.size, 2, none⟩ (.int .i64 (d2 + 1))) (some (w6.heap.size)) := grown_setCell (w13) (w6.heap.size) 2 (.int .i64 (d2 + 1))
    have hR := (R_13.out.set2 (.int .i64 (d2 + 1)))
    have hHB : Below w.heap.size w (w13.setCell ⟨w6.heap.size, 2, none⟩ (.int .i64 (d2 + 1))) := (HB_13.out.setCell (by show w.heap.size ≤ w6.heap.size; have := HB_13.out.size; omega) (.int .i64 (d2 + 1)))
    have hZ := Z_13.out.grown hgr (fun e => by have e2 := Option.some.inj e; omega)
    have hCU := CU_13.out.grown (B := w2.heap.size) hgr (fun k e => by have e2 := Option.some.inj e; omega) (by omega) (old_mono HOld.out (by omega))
    have hQ := Q_13.out.grown hgr (fun e => by have e2 := Option.some.inj e; omega)
    have hz := hgr.size
    obtain ⟨w14, hV14⟩ : ∃ V, (w13.setCell ⟨w6.heap.size, 2, none⟩ (.int .i64 (d2 + 1))) = V := ⟨_, rfl⟩
    rw [hV14] at hHB hZ hCU hR hQ hz
    have HB_14 : Hid (Below w.heap.size w w14) := hHB
    have Z_14 : Hid (X4 w14 w.heap.size (.int .i64 0) (.int .i64 0) (.int .i64 0) (.int .i64 0)) := hZ
    have CU_14 : Hid (Cur w14 w1.heap.size ao n c 30) := hCU
    have R_14 : Hid (X4 w14 (w6.heap.size) (.int .i64 d0) (.int .i64 d1) (.int .i64 (d2 + 1)) (.int .i64 d3)) := hR
    have Q_14 : Hid (X4 w14 w10.heap.size (.int .i64 d0) (.int .i64 d1) (.int .i64 d2) (.int .i64 d3)) := hQ
    have z14 : w13.heap.size ≤ w14.heap.size := hz
    obtain ⟨⟨oR0, oR1, oR2, oR3⟩, oRf⟩ := id (R_13.out)
    have oRf2 := oRf 2
    clear oRf hgr hz hHB hZ hCU hR hQ HB_13 Z_13 CU_13 Q_13
    obtain ⟨⟨Rq0, Rq1, Rq2, Rq3⟩, Rf⟩ := id (R_14.out)
    clear Rf
    obtain ⟨⟨Zq0, Zq1, Zq2, Zq3⟩, Zf⟩ := id (Z_14.out)
    clear Zf
    have hZ9 := (((Z_14.out.set0 (.int .i64 d0)).set1 (.int .i64 d1)).set2 (.int .i64 (d2 + 1))).set3 (.int .i64 d3)
    obtain ⟨⟨y0, y1, y2, y3⟩, _⟩ := hZ9
    obtain ⟨_, zf⟩ := id (Z_14.out)
    have zf0 := zf 0
    have zf1 := zf 1
    have zf2 := zf 2
    have zf3 := zf 3
    clear zf
    go_wp2
    go_region_with fail
    all_goals go_wp2
    all_goals refine bodyPost_ret (v := .tuple #[.int .i64 pv, .agg #[.int .i64 d0, .int .i64 d1, .int .i64 (d2 + 1), .int .i64 d3]]) (by simp [results, Tryd.results28, go_sem, y0, y1, y2, y3]; try rfl) rfl ?_
    all_goals exact ⟨pv, _, _, _, _, rfl, by first | exact ((((HB_14.out.setCell (Nat.le_refl _) _).setCell (Nat.le_refl _) _).setCell (Nat.le_refl _) _).setCell (Nat.le_refl _) _) | exact ((((HB_14.out.setCell (Nat.le_refl _) _).setCell (Nat.le_refl _) _).setCell (Nat.le_refl _) _).setCell (Nat.le_refl _) _).drew | exact ((((HB_14.out.drew.setCell (Nat.le_refl _) _).setCell (Nat.le_refl _) _).setCell (Nat.le_refl _) _).setCell (Nat.le_refl _) _)⟩
  have v1b : (v == 1) = false := by simpa using v1
  clear v1
  obtain ⟨⟨Rq0, Rq1, Rq2, Rq3⟩, Rf⟩ := id (R_13.out)
  clear Rf
  obtain ⟨⟨Zq0, Zq1, Zq2, Zq3⟩, Zf⟩ := id (Z_13.out)
  clear Zf
  have hZ9 := (((Z_13.out.set0 (.int .i64 d0)).set1 (.int .i64 d1)).set2 (.int .i64 d2)).set3 (.int .i64 d3)
  obtain ⟨⟨y0, y1, y2, y3⟩, _⟩ := hZ9
  obtain ⟨_, zf⟩ := id (Z_13.out)
  have zf0 := zf 0
  have zf1 := zf 1
  have zf2 := zf 2
  have zf3 := zf 3
  clear zf
  go_wp2
  go_region_with fail
  all_goals go_wp2
  all_goals refine bodyPost_ret (v := .tuple #[.int .i64 pv, .agg #[.int .i64 d0, .int .i64 d1, .int .i64 d2, .int .i64 d3]]) (by simp [results, Tryd.results28, go_sem, y0, y1, y2, y3]; try rfl) rfl ?_
  all_goals exact ⟨pv, _, _, _, _, rfl, by first | exact ((((HB_13.out.setCell (Nat.le_refl _) _).setCell (Nat.le_refl _) _).setCell (Nat.le_refl _) _).setCell (Nat.le_refl _) _) | exact ((((HB_13.out.setCell (Nat.le_refl _) _).setCell (Nat.le_refl _) _).setCell (Nat.le_refl _) _).setCell (Nat.le_refl _) _).drew | exact ((((HB_13.out.drew.setCell (Nat.le_refl _) _).setCell (Nat.le_refl _) _).setCell (Nat.le_refl _) _).setCell (Nat.le_refl _) _)⟩

end Go.Proofs.YtdhnolafkgkliaaDoor
