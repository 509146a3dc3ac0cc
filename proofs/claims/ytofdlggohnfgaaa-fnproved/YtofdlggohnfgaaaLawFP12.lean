/- The law FnProved, walked: true at every two texts of bytes. -/
import Derived.Test.YtofdlggohnfgaaaD12Q
import Derived.Test.YtofdlggohnfgaaaSM12
import Derived.Test.YtofdlggohnfgaaaFP12P
import Derived.Test.YtofdlggohnfgaaaRC12
import Derived.Test.YtofdlggohnfgaaaRF12
import Derived.Test.YtofdlggohnfgaaaRI12
namespace Go.Proofs.Ytofdlggohnfgaaa
set_option linter.unusedVariables false
set_option maxRecDepth 1000000
set_option linter.unusedSimpArgs false
open Go.RowKit

theorem sameSt_b (ao bo : Option Addr) (n c d : Nat) (xs : List St) (w : World) (hx : xs.length = n) (hn : n ≤ 140737488355328) (hr : RdS w ao xs) (hs : RdS w bo xs) :
    Calls Try.prog 15 #[.slice ao n c, .slice bo n d] w fun e w' => e = .returned (.bool true) ∧ Below w.heap.size w w' := by
  refine (sameStatements_q ao bo n c d xs w hx hn hr hs).mono ?_
  rintro e w' ⟨rfl, q, rfl⟩
  exact ⟨rfl, below_drewN (Below.refl _ _) q⟩

set_option maxHeartbeats 16000000 in
theorem lawFnProved_c (ao : Option Addr) (n c : Nat) (bo : Option Addr) (m d : Nat) (w : World) (hn : n ≤ 9223372036854775807) (h1 : CodeOk w w.heap.size ao n) (hm : m ≤ 9223372036854775807) (h2 : CodeOk w w.heap.size bo m) :
    Calls Try.prog 3 #[.slice ao n c, .slice bo m d] w fun e w' => e = .returned (.bool true) ∧ Below w.heap.size w w' := by
  by_cases hl : 1048576 < wrap64 ((n : Int) + (m : Int))
  · clear h1 h2
    go_enter Try.func3, Try.ntmps3
    go_wp2
    go_ret
    exact ⟨rfl, Below.refl _ _⟩
  have HN : Hid (CodeOk w w.heap.size ao n) := h1
  have HM : Hid (CodeOk w w.heap.size bo m) := h2
  clear h1 h2
  have HB_0 : Hid (Below w.heap.size w w) := Below.refl _ _
  go_enter Try.func3, Try.ntmps3
  go_wp2_with fail
  refine (drawRun_c ao n c _ hn HN.out).mono ?_
  rintro e w1 ⟨hand, a1, q1, c1, ws, x, y, z, rfl, hq8, ho, hb⟩
  have hB : Below w.heap.size w w1 := hb
  have HB_1 : Hid (Below w.heap.size w w1) := HB_0.out.trans (hB.mono HB_0.out.size)
  have z1 : w.heap.size ≤ w1.heap.size := hB.size
  have B1_1 : Hid (OwnB w1 w.heap.size (Value.slice a1 q1 c1) (ws)) := ho
  clear hb hB HB_0 ho
  have hHB := HB_1.out.alloc HB_1.out.size (.cells #[.int .i64 x, .int .i64 y, .int .i64 z] 25)
  have hB1 := B1_1.out.later (balloc w1 (.cells #[.int .i64 x, .int .i64 y, .int .i64 z] 25))
  have hK := x3_new w1 (.int .i64 x) (.int .i64 y) (.int .i64 z) 25 w1.heap.size rfl
  have hz : (w1.alloc (.cells #[.int .i64 x, .int .i64 y, .int .i64 z] 25)).heap.size = w1.heap.size + 1 := by simp
  obtain ⟨w2, hV2⟩ : ∃ V, w1.alloc (.cells #[.int .i64 x, .int .i64 y, .int .i64 z] 25) = V := ⟨_, rfl⟩
  rw [hV2] at hHB hB1 hK hz
  have HB_2 : Hid (Below w.heap.size w w2) := hHB
  have B1_2 : Hid (OwnB w2 w.heap.size (Value.slice a1 q1 c1) (ws)) := hB1
  have K_2 : Hid (X3 w2 w1.heap.size (.int .i64 x) (.int .i64 y) (.int .i64 z)) := hK
  have z2 : w1.heap.size + 1 ≤ w2.heap.size := by omega
  clear HB_1 B1_1 hHB hB1 hK hz
  have hwl : ws.length = q1 := B1_2.out.rd'.1
  obtain ⟨l, hl0⟩ : ∃ l, runV hand ws (x, y, z) = l := ⟨_, rfl⟩
  obtain ⟨fb, hF⟩ : ∃ fb, runB ws (x, y, z) = fb := ⟨_, rfl⟩
  obtain ⟨q, hq⟩ : ∃ q, l.length = q := ⟨_, rfl⟩
  have hq7 : q ≤ 7 := by
    rw [← hq, ← hl0]
    unfold runV
    split
    · rename_i h; rw [runL_length]; unfold runB at h; rw [Bool.and_eq_true] at h; exact of_decide_eq_true h.1
    · simp
  have RI : Hid (∀ wx, RdB wx a1 ws → Calls Try.prog 13 #[.bool hand, .slice a1 q1 c1, .agg #[.int .i64 x, .int .i64 y, .int .i64 z]] wx fun e w' => ∃ a' c', e = .returned (.tuple #[.slice a' q c', .bool fb]) ∧ OwnS w' wx.heap.size (.slice a' q c') l ∧ Below wx.heap.size wx w') := fun wx h => by have := implRun_c hand a1 q1 c1 ws x y z wx hwl (by omega) h q (by rw [hl0]; exact hq); rw [hl0, hF] at this; exact this
  have RS : Hid (∀ wx, RdB wx a1 ws → Calls Try.prog 14 #[.bool hand, .slice a1 q1 c1, .agg #[.int .i64 x, .int .i64 y, .int .i64 z]] wx fun e w' => ∃ a' c', e = .returned (.tuple #[.slice a' q c', .bool fb]) ∧ OwnS w' wx.heap.size (.slice a' q c') l ∧ Below wx.heap.size wx w') := fun wx h => by have := specRun_c hand a1 q1 c1 ws x y z wx hwl (by omega) h q (by rw [hl0]; exact hq); rw [hl0, hF] at this; exact this
  have HL : Hid (l.length = q) := hq
  have HW : Hid (ws.length = q1) := hwl
  have HV : Hid (runV hand ws (x, y, z) = l) := hl0
  have HF : Hid (runB ws (x, y, z) = fb) := hF
  have QI : Hid (∀ wx, Calls Try.prog 16 #[.agg #[.int .i64 x, .int .i64 y, .int .i64 z]] wx fun e w' => e = .returned (.bool (clB (x, y, z))) ∧ Below wx.heap.size wx w') := fun wx => implGood_c x y z wx
  have QS : Hid (∀ wx, Calls Try.prog 17 #[.agg #[.int .i64 x, .int .i64 y, .int .i64 z]] wx fun e w' => e = .returned (.bool (clB (x, y, z))) ∧ Below wx.heap.size wx w') := fun wx => specGood_c x y z wx
  generalize clB (x, y, z) = gb at QI QS
  have hgb : (gb != gb) = false := by simp
  have hfb : (fb != fb) = false := by simp
  clear hwl hl0 hF hq
  obtain ⟨⟨Kq0, Kq1, Kq2⟩, Kf⟩ := id (K_2.out)
  clear Kf
  go_wp2_with fail
  clear hV2
  refine (RI.out _ B1_2.out.rd'.2).mono ?_
  clear Kq0 Kq1 Kq2
  rintro e w3 ⟨ga, gc, rfl, ho, hb⟩
  have hB : Below w2.heap.size w2 w3 := hb
  have HB_3 : Hid (Below w.heap.size w w3) := HB_2.out.trans (hB.mono HB_2.out.size)
  have B1_3 : Hid (OwnB w3 w.heap.size (Value.slice a1 q1 c1) (ws)) := B1_2.out.later hB
  have K_3 : Hid (X3 w3 w1.heap.size (.int .i64 x) (.int .i64 y) (.int .i64 z)) := K_2.out.later hB
  have z3 : w2.heap.size ≤ w3.heap.size := hB.size
  have G_3 : Hid (OwnS w3 w2.heap.size (Value.slice ga q gc) (l)) := ho
  clear hb hB HB_2 B1_2 K_2 ho
  obtain ⟨⟨Kq0, Kq1, Kq2⟩, Kf⟩ := id (K_3.out)
  clear Kf
  go_wp2_with fail
  refine (RS.out _ B1_3.out.rd'.2).mono ?_
  clear Kq0 Kq1 Kq2
  rintro e w4 ⟨va, vc, rfl, ho, hb⟩
  have hB : Below w3.heap.size w3 w4 := hb
  have HB_4 : Hid (Below w.heap.size w w4) := HB_3.out.trans (hB.mono HB_3.out.size)
  have B1_4 : Hid (OwnB w4 w.heap.size (Value.slice a1 q1 c1) (ws)) := B1_3.out.later hB
  have K_4 : Hid (X3 w4 w1.heap.size (.int .i64 x) (.int .i64 y) (.int .i64 z)) := K_3.out.later hB
  have G_4 : Hid (OwnS w4 w2.heap.size (Value.slice ga q gc) (l)) := G_3.out.later hB
  have z4 : w3.heap.size ≤ w4.heap.size := hB.size
  have V_4 : Hid (OwnS w4 w3.heap.size (Value.slice va q vc) (l)) := ho
  clear hb hB HB_3 B1_3 K_3 G_3 ho
  clear RI RS
  obtain ⟨⟨Kq0, Kq1, Kq2⟩, Kf⟩ := id (K_4.out)
  clear Kf
  go_wp2
  go_region_with (first | (go_at_call 15; (first | refine (sameSt_b ga va q gc vc l _ HL.out (by omega) (G_4.out).rd'.2 (V_4.out).rd'.2).mono ?_ | refine (sameSt_b ga va q gc vc l _ HL.out (by omega) ((G_4.out.later (Below.refl _ _).drew)).rd'.2 ((V_4.out.later (Below.refl _ _).drew)).rd'.2).mono ?_); rintro e w5 ⟨rfl, hb⟩; have hB : Below w4.heap.size w4 w5 := (by first | exact hb | exact ((Below.refl w4.heap.size w4).drew).trans hb); have HB_5 : Hid (Below w.heap.size w w5) := HB_4.out.trans (hB.mono HB_4.out.size); have B1_5 : Hid (OwnB w5 w.heap.size (Value.slice a1 q1 c1) (ws)) := B1_4.out.later hB; have K_5 : Hid (X3 w5 w1.heap.size (.int .i64 x) (.int .i64 y) (.int .i64 z)) := K_4.out.later hB; have G_5 : Hid (OwnS w5 w2.heap.size (Value.slice ga q gc) (l)) := G_4.out.later hB; have V_5 : Hid (OwnS w5 w3.heap.size (Value.slice va q vc) (l)) := V_4.out.later hB; have z5 : w4.heap.size ≤ w5.heap.size := hB.size; obtain ⟨⟨eK0_5, eK1_5, eK2_5⟩, _⟩ := id (K_5.out); clear hb hB) | (go_at_call 16; (first | refine (QI.out _).mono ?_ | refine (QI.out _).mono ?_); rintro e w6 ⟨rfl, hb⟩; have hB : Below w5.heap.size w5 w6 := (by first | exact hb | exact ((Below.refl w5.heap.size w5).drew).trans hb); have HB_6 : Hid (Below w.heap.size w w6) := HB_5.out.trans (hB.mono HB_5.out.size); have B1_6 : Hid (OwnB w6 w.heap.size (Value.slice a1 q1 c1) (ws)) := B1_5.out.later hB; have K_6 : Hid (X3 w6 w1.heap.size (.int .i64 x) (.int .i64 y) (.int .i64 z)) := K_5.out.later hB; have G_6 : Hid (OwnS w6 w2.heap.size (Value.slice ga q gc) (l)) := G_5.out.later hB; have V_6 : Hid (OwnS w6 w3.heap.size (Value.slice va q vc) (l)) := V_5.out.later hB; have z6 : w5.heap.size ≤ w6.heap.size := hB.size; obtain ⟨⟨eK0_6, eK1_6, eK2_6⟩, _⟩ := id (K_6.out); clear hb hB) | (go_at_call 17; (first | refine (QS.out _).mono ?_ | refine (QS.out _).mono ?_); rintro e w7 ⟨rfl, hb⟩; have hB : Below w6.heap.size w6 w7 := (by first | exact hb | exact ((Below.refl w6.heap.size w6).drew).trans hb); have HB_7 : Hid (Below w.heap.size w w7) := HB_6.out.trans (hB.mono HB_6.out.size); have B1_7 : Hid (OwnB w7 w.heap.size (Value.slice a1 q1 c1) (ws)) := B1_6.out.later hB; have K_7 : Hid (X3 w7 w1.heap.size (.int .i64 x) (.int .i64 y) (.int .i64 z)) := K_6.out.later hB; have G_7 : Hid (OwnS w7 w2.heap.size (Value.slice ga q gc) (l)) := G_6.out.later hB; have V_7 : Hid (OwnS w7 w3.heap.size (Value.slice va q vc) (l)) := V_6.out.later hB; have z7 : w6.heap.size ≤ w7.heap.size := hB.size; obtain ⟨⟨eK0_7, eK1_7, eK2_7⟩, _⟩ := id (K_7.out); clear hb hB))
  all_goals (
    clear HB_4 B1_4 K_4 G_4 V_4 HB_5 B1_5 K_5 G_5 V_5 HB_6 B1_6 K_6 G_6 V_6 Kq0 Kq1 Kq2 eK0_5 eK1_5 eK2_5 eK0_6 eK1_6 eK2_6 eK0_7 eK1_7 eK2_7
    clear hgb QI QS
    cases fb
    case false =>
      clear B1_7
      clear K_7
      clear G_7
      clear V_7
      go_wp2_with fail
      refine (drawProved_c bo m d _ hm (HM.out.later HB_7.out HB_7.out.size)).mono ?_
      rintro e w8 ⟨ff, sa, sp, sc, ss, x2, y2, z2, rfl, hsp, ho, hb⟩
      have hB : Below w7.heap.size w7 w8 := hb
      have HB_8 : Hid (Below w.heap.size w w8) := HB_7.out.trans (hB.mono HB_7.out.size)
      have z8 : w7.heap.size ≤ w8.heap.size := hB.size
      have S_8 : Hid (OwnS w8 w7.heap.size (Value.slice sa sp sc) (ss)) := ho
      clear hb hB HB_7 ho
      have hHB := HB_8.out.alloc HB_8.out.size (.cells #[.int .i64 x2, .int .i64 y2, .int .i64 z2] 25)
      have hS := S_8.out.later (balloc w8 (.cells #[.int .i64 x2, .int .i64 y2, .int .i64 z2] 25))
      have hL := x3_new w8 (.int .i64 x2) (.int .i64 y2) (.int .i64 z2) 25 w8.heap.size rfl
      have hz : (w8.alloc (.cells #[.int .i64 x2, .int .i64 y2, .int .i64 z2] 25)).heap.size = w8.heap.size + 1 := by simp
      obtain ⟨w9, hV9⟩ : ∃ V, w8.alloc (.cells #[.int .i64 x2, .int .i64 y2, .int .i64 z2] 25) = V := ⟨_, rfl⟩
      rw [hV9] at hHB hS hL hz
      have HB_9 : Hid (Below w.heap.size w w9) := hHB
      have S_9 : Hid (OwnS w9 w7.heap.size (Value.slice sa sp sc) (ss)) := hS
      have L_9 : Hid (X3 w9 w8.heap.size (.int .i64 x2) (.int .i64 y2) (.int .i64 z2)) := hL
      have z9 : w8.heap.size + 1 ≤ w9.heap.size := by omega
      clear HB_8 S_8 hHB hS hL hz
      have hsl : ss.length = sp := S_9.out.rd'.1
      obtain ⟨pv, hpv⟩ : ∃ z, provedV ff ss (x2, y2, z2) = z := ⟨_, rfl⟩
      obtain ⟨pk, hpk⟩ : ∃ z, provedOk ff ss (x2, y2, z2) = z := ⟨_, rfl⟩
      have TI : Hid (∀ wx, RdS wx sa ss → Calls Try.prog 18 #[.int .i64 ff, .slice sa sp sc, .agg #[.int .i64 x2, .int .i64 y2, .int .i64 z2]] wx fun e w' => e = .returned (.tuple #[.bool pv, .bool pk]) ∧ Below wx.heap.size wx w') := fun wx h => by have := implProved_c ff sa sp sc ss x2 y2 z2 wx hsl (by omega) h; rw [hpv, hpk] at this; exact this
      have TS : Hid (∀ wx, RdS wx sa ss → Calls Try.prog 20 #[.int .i64 ff, .slice sa sp sc, .agg #[.int .i64 x2, .int .i64 y2, .int .i64 z2]] wx fun e w' => e = .returned (.tuple #[.bool pv, .bool pk]) ∧ Below wx.heap.size wx w') := fun wx h => by have := specProved_c ff sa sp sc ss x2 y2 z2 wx hsl (by omega) h (by omega); rw [hpv, hpk] at this; exact this
      have e1 : (pk == pk) = true := by simp
      have e2 : (pv == pv) = true := by simp
      clear hsl hpv hpk
      obtain ⟨⟨Lq0, Lq1, Lq2⟩, Lf⟩ := id (L_9.out)
      clear Lf
      go_wp2_with fail
      clear hV9
      refine (TI.out _ S_9.out.rd'.2).mono ?_
      clear Lq0 Lq1 Lq2
      rintro e w10 ⟨rfl, hb⟩
      have hB : Below w9.heap.size w9 w10 := hb
      have HB_10 : Hid (Below w.heap.size w w10) := HB_9.out.trans (hB.mono HB_9.out.size)
      have S_10 : Hid (OwnS w10 w7.heap.size (Value.slice sa sp sc) (ss)) := S_9.out.later hB
      have L_10 : Hid (X3 w10 w8.heap.size (.int .i64 x2) (.int .i64 y2) (.int .i64 z2)) := L_9.out.later hB
      have z10 : w9.heap.size ≤ w10.heap.size := hB.size
      clear hb hB HB_9 S_9 L_9 
      obtain ⟨⟨Lq0, Lq1, Lq2⟩, Lf⟩ := id (L_10.out)
      clear Lf
      go_wp2_with fail
      refine (TS.out _ S_10.out.rd'.2).mono ?_
      clear Lq0 Lq1 Lq2
      rintro e w11 ⟨rfl, hb⟩
      have hB : Below w10.heap.size w10 w11 := hb
      have HB_11 : Hid (Below w.heap.size w w11) := HB_10.out.trans (hB.mono HB_10.out.size)
      have z11 : w10.heap.size ≤ w11.heap.size := hB.size
      clear hb hB HB_10 S_10 L_10 
      clear TI TS
      go_wp2_with fail
      refine (drawRefused_c bo m d _ hm (HM.out.later HB_11.out HB_11.out.size)).mono ?_
      rintro e w12 ⟨ta, tp, tc, ts, x3, y3, z3, rfl, htp, ho, hb⟩
      have hB : Below w11.heap.size w11 w12 := hb
      have HB_12 : Hid (Below w.heap.size w w12) := HB_11.out.trans (hB.mono HB_11.out.size)
      have z12 : w11.heap.size ≤ w12.heap.size := hB.size
      have R_12 : Hid (OwnS w12 w11.heap.size (Value.slice ta tp tc) (ts)) := ho
      clear hb hB HB_11 ho
      have hHB := HB_12.out.alloc HB_12.out.size (.cells #[.int .i64 x3, .int .i64 y3, .int .i64 z3] 25)
      have hR := R_12.out.later (balloc w12 (.cells #[.int .i64 x3, .int .i64 y3, .int .i64 z3] 25))
      have hN := x3_new w12 (.int .i64 x3) (.int .i64 y3) (.int .i64 z3) 25 w12.heap.size rfl
      have hz : (w12.alloc (.cells #[.int .i64 x3, .int .i64 y3, .int .i64 z3] 25)).heap.size = w12.heap.size + 1 := by simp
      obtain ⟨w13, hV13⟩ : ∃ V, w12.alloc (.cells #[.int .i64 x3, .int .i64 y3, .int .i64 z3] 25) = V := ⟨_, rfl⟩
      rw [hV13] at hHB hR hN hz
      have HB_13 : Hid (Below w.heap.size w w13) := hHB
      have R_13 : Hid (OwnS w13 w11.heap.size (Value.slice ta tp tc) (ts)) := hR
      have N_13 : Hid (X3 w13 w12.heap.size (.int .i64 x3) (.int .i64 y3) (.int .i64 z3)) := hN
      have z13 : w12.heap.size + 1 ≤ w13.heap.size := by omega
      clear HB_12 R_12 hHB hR hN hz
      have htl : ts.length = tp := R_13.out.rd'.1
      obtain ⟨rl, hrl⟩ : ∃ z, refV ts (x3, y3, z3) = z := ⟨_, rfl⟩
      obtain ⟨rk, hrk⟩ : ∃ z, refOk ts (x3, y3, z3) = z := ⟨_, rfl⟩
      obtain ⟨rq, hrq⟩ : ∃ z, rl.length = z := ⟨_, rfl⟩
      have hrq7 : rq ≤ 7 := by
        rw [← hrq, ← hrl]
        unfold refV
        split
        · exact refTo_length _ _ 7
        · simp
      have UI : Hid (∀ wx, RdS wx ta ts → Calls Try.prog 22 #[.slice ta tp tc, .agg #[.int .i64 x3, .int .i64 y3, .int .i64 z3]] wx fun e w' => ∃ a' c', e = .returned (.tuple #[.slice a' rq c', .bool rk]) ∧ Own w' wx.heap.size (.slice a' rq c') rl ∧ Below wx.heap.size wx w') := fun wx h => by have := implRefused_c ta tp tc ts x3 y3 z3 wx htl (by omega) h rq (by rw [hrl]; exact hrq); rw [hrl, hrk] at this; exact this
      have US : Hid (∀ wx, RdS wx ta ts → Calls Try.prog 23 #[.slice ta tp tc, .agg #[.int .i64 x3, .int .i64 y3, .int .i64 z3]] wx fun e w' => ∃ a' c', e = .returned (.tuple #[.slice a' rq c', .bool rk]) ∧ Own w' wx.heap.size (.slice a' rq c') rl ∧ Below wx.heap.size wx w') := fun wx h => by have := specRefused_c ta tp tc ts x3 y3 z3 wx htl (by omega) h rq (by rw [hrl]; exact hrq); rw [hrl, hrk] at this; exact this
      have HRQ : Hid (rl.length = rq) := hrq
      have e3 : (rk == rk) = true := by simp
      clear htl hrl hrk hrq
      obtain ⟨⟨Nq0, Nq1, Nq2⟩, Nf⟩ := id (N_13.out)
      clear Nf
      go_wp2_with fail
      clear hV13
      refine (UI.out _ R_13.out.rd'.2).mono ?_
      clear Nq0 Nq1 Nq2
      rintro e w14 ⟨g1, gc1, rfl, ho, hb⟩
      have hB : Below w13.heap.size w13 w14 := hb
      have HB_14 : Hid (Below w.heap.size w w14) := HB_13.out.trans (hB.mono HB_13.out.size)
      have R_14 : Hid (OwnS w14 w11.heap.size (Value.slice ta tp tc) (ts)) := R_13.out.later hB
      have N_14 : Hid (X3 w14 w12.heap.size (.int .i64 x3) (.int .i64 y3) (.int .i64 z3)) := N_13.out.later hB
      have z14 : w13.heap.size ≤ w14.heap.size := hB.size
      have G1_14 : Hid (Own w14 w13.heap.size (Value.slice g1 rq gc1) (rl)) := ho
      clear hb hB HB_13 R_13 N_13 ho
      obtain ⟨⟨Nq0, Nq1, Nq2⟩, Nf⟩ := id (N_14.out)
      clear Nf
      go_wp2_with fail
      refine (US.out _ R_14.out.rd'.2).mono ?_
      clear Nq0 Nq1 Nq2
      rintro e w15 ⟨g2, gc2, rfl, ho, hb⟩
      have hB : Below w14.heap.size w14 w15 := hb
      have HB_15 : Hid (Below w.heap.size w w15) := HB_14.out.trans (hB.mono HB_14.out.size)
      have G1_15 : Hid (Own w15 w13.heap.size (Value.slice g1 rq gc1) (rl)) := G1_14.out.later hB
      have z15 : w14.heap.size ≤ w15.heap.size := hB.size
      have G2_15 : Hid (Own w15 w14.heap.size (Value.slice g2 rq gc2) (rl)) := ho
      clear hb hB HB_14 R_14 N_14 G1_14 ho
      clear UI US
      go_wp2_with fail
      refine (sameInts_b g1 g2 rq gc1 gc2 rl _ HRQ.out (by omega) G1_15.out.rd'.2 G2_15.out.rd'.2).mono ?_
      rintro e w16 ⟨rfl, hb⟩
      have hB : Below w15.heap.size w15 w16 := hb
      have HB_16 : Hid (Below w.heap.size w w16) := HB_15.out.trans (hB.mono HB_15.out.size)
      have G1_16 : Hid (Own w16 w13.heap.size (Value.slice g1 rq gc1) (rl)) := G1_15.out.later hB
      have G2_16 : Hid (Own w16 w14.heap.size (Value.slice g2 rq gc2) (rl)) := G2_15.out.later hB
      have z16 : w15.heap.size ≤ w16.heap.size := hB.size
      clear hb hB HB_15 G1_15 G2_15 
      go_wp2
      go_ret
      exact ⟨rfl, HB_16.out⟩
    case true =>
      have HR : Hid (runB ws (x, y, z) = true) := HF.out
      have HRL : Hid (runL hand ws (x, y, z) = l) := by have := HV.out; unfold runV at this; rw [if_pos HR.out] at this; exact this
      have hon8 := honN_le ws ws.length
      clear V_7
      go_wp2
      go_loopw [12, 77] (fun hv iv wr => ∃ j : Nat, j ≤ q1 ∧ iv = .int .i64 j ∧ hv = .int .i64 (honN ws j : Nat) ∧ Hid (Below w7.heap.size w7 wr)) (fun _ iv _ => q1 - iv12 iv)
      case atStart => exact ⟨0, Nat.zero_le _, rfl, by simp [honN], Below.refl _ _⟩
      case round =>
        obtain ⟨j, hj, rfl, rfl, HBj⟩ := hrel
        by_cases hjt : j < q1
        · have hjl : j < ws.length := by rw [HW.out]; exact hjt
          obtain ⟨b0, o0, rfl, g0⟩ := (B1_7.out.rd'.2.later HBj.out).get hjl
          have hsu := honN_succ hjl
          have hle := honN_le ws j
          generalize honN ws j = hh at hsu hle ⊢
          have HSU : Hid (honN ws (j + 1) = hh + (if ws.getD j false = true then 1 else 0)) := hsu
          clear hsu hjl
          have k0 : (0 : Int) ≤ (j : Int) := by omega
          have k1 : (j : Int) < (q1 : Int) := by omega
          cases hbv : ws.getD j false
          · rw [hbv] at g0
            have HS2 : Hid (honN ws (j + 1) = hh) := by have := HSU.out; rw [hbv] at this; exact this
            clear HSU hbv
            go_wp2
            go_roundw
            case rel => exact ⟨j + 1, by omega, by go_num, by rw [HS2.out], HBj⟩
            case measure => simp [iv12]; omega
          · rw [hbv] at g0
            have HS2 : Hid (honN ws (j + 1) = hh + 1) := by have := HSU.out; rw [hbv] at this; exact this
            clear HSU hbv
            go_wp2
            go_roundw
            case rel => exact ⟨j + 1, by omega, by go_num, by rw [HS2.out]; go_num, HBj⟩
            case measure => simp [iv12]; omega
        · skip
          obtain rfl : q1 = j := by omega
          have hjj : ¬ (q1 : Int) < (q1 : Int) := by omega
          obtain ⟨w8, rfl⟩ : ∃ V, V = wr := ⟨_, rfl⟩
          have hB : Below w7.heap.size w7 w8 := HBj.out
          have HB_8 : Hid (Below w.heap.size w w8) := HB_7.out.trans (hB.mono HB_7.out.size)
          have B1_8 : Hid (OwnB w8 w.heap.size (Value.slice a1 q1 c1) (ws)) := B1_7.out.later hB
          have K_8 : Hid (X3 w8 w1.heap.size (.int .i64 x) (.int .i64 y) (.int .i64 z)) := K_7.out.later hB
          have G_8 : Hid (OwnS w8 w2.heap.size (Value.slice ga q gc) (l)) := G_7.out.later hB
          have z8 : w7.heap.size ≤ w8.heap.size := hB.size
          clear hB HBj HB_7 B1_7 K_7 G_7
          obtain ⟨hon, hho⟩ : ∃ h, honN ws q1 = h := ⟨_, rfl⟩
          have hole : hon ≤ q1 := by rw [← hho]; exact honN_le ws q1
          obtain ⟨lia, hli⟩ : ∃ z : Nat, q1 - hon = z := ⟨_, rfl⟩
          have HLI : Hid ((q1 : Int) - (hon : Int) = (lia : Int)) := by show _ = _; omega
          have HPV : Hid (∀ (f : Nat) wx, f ≤ 2 → RdS wx ga l → Calls Try.prog 18 #[.int .i64 (f : Int), .slice ga q gc, .agg #[.int .i64 x, .int .i64 y, .int .i64 z]] wx fun e w' => e = .returned (.tuple #[.bool (decide ((f : Int) < (if hand then (lia : Int) else (hon : Int)))), .bool true]) ∧ Below wx.heap.size wx w') := fun f wx h1 h2 => by have := implProved_c (f : Int) ga q gc l x y z wx HL.out (by omega) h2; have hp := proved_run (hand := hand) HR.out f h1; rw [HRL.out, HW.out, hho, hli] at hp; rw [hp.1, hp.2] at this; exact this
          rw [hho]
          clear hho hon8
          have hsub := HLI.out
          go_wp2
          clear hsub
          go_loopw [16] (fun fv wr => ∃ f : Nat, f ≤ 3 ∧ fv = .int .i64 f ∧ Hid (Below w8.heap.size w8 wr)) (fun fv _ => 3 - iv12 fv)
          case atStart => exact ⟨0, by omega, rfl, Below.refl _ _⟩
          case round =>
            obtain ⟨f, hf3, rfl, HBf⟩ := hrel
            by_cases hft : f ≤ 2
            · skip
              have hfi : (f : Int) ≤ 2 := by omega
              have HBF_8 : Hid (Below w8.heap.size w8 w8) := Below.refl _ _
              obtain ⟨w9, rfl⟩ : ∃ V, V = wr := ⟨_, rfl⟩
              have hB : Below w8.heap.size w8 w9 := HBf.out
              have HB_9 : Hid (Below w.heap.size w w9) := HB_8.out.trans (hB.mono HB_8.out.size)
              have B1_9 : Hid (OwnB w9 w.heap.size (Value.slice a1 q1 c1) (ws)) := B1_8.out.later hB
              have K_9 : Hid (X3 w9 w1.heap.size (.int .i64 x) (.int .i64 y) (.int .i64 z)) := K_8.out.later hB
              have G_9 : Hid (OwnS w9 w2.heap.size (Value.slice ga q gc) (l)) := G_8.out.later hB
              have HBF_9 : Hid (Below w8.heap.size w8 w9) := HBF_8.out.trans (hB.mono HBF_8.out.size)
              have z9 : w8.heap.size ≤ w9.heap.size := hB.size
              clear hB HBf HB_8 B1_8 K_8 G_8 HBF_8
              obtain ⟨⟨Kq0, Kq1, Kq2⟩, Kf⟩ := id (K_9.out)
              clear Kf
              go_wp2_with fail
              refine (HPV.out f _ hft G_9.out.rd'.2).mono ?_
              clear Kq0 Kq1 Kq2
              rintro e w10 ⟨rfl, hb⟩
              have hB : Below w9.heap.size w9 w10 := hb
              have HB_10 : Hid (Below w.heap.size w w10) := HB_9.out.trans (hB.mono HB_9.out.size)
              have B1_10 : Hid (OwnB w10 w.heap.size (Value.slice a1 q1 c1) (ws)) := B1_9.out.later hB
              have K_10 : Hid (X3 w10 w1.heap.size (.int .i64 x) (.int .i64 y) (.int .i64 z)) := K_9.out.later hB
              have G_10 : Hid (OwnS w10 w2.heap.size (Value.slice ga q gc) (l)) := G_9.out.later hB
              have HBF_10 : Hid (Below w8.heap.size w8 w10) := HBF_9.out.trans (hB.mono HBF_9.out.size)
              have z10 : w9.heap.size ≤ w10.heap.size := hB.size
              clear hb hB HB_9 B1_9 K_9 G_9 HBF_9 
              cases hand
              · by_cases hfh : (f : Int) < (hon : Int)
                · have hd : decide ((f : Int) < (hon : Int)) = true := decide_eq_true hfh
                  go_wp2
                  go_roundw
                  case rel => exact ⟨f + 1, by omega, by go_num, HBF_10⟩
                  case measure => simp [iv12]; omega
                · have hd : decide ((f : Int) < (hon : Int)) = false := decide_eq_false hfh
                  go_wp2
                  go_roundw
                  case rel => exact ⟨f + 1, by omega, by go_num, HBF_10⟩
                  case measure => simp [iv12]; omega
              · by_cases hfh : (f : Int) < (lia : Int)
                · have hd : decide ((f : Int) < (lia : Int)) = true := decide_eq_true hfh
                  have hle2 : ¬ (lia : Int) ≤ (f : Int) := by omega
                  go_wp2
                  go_roundw
                  case rel => exact ⟨f + 1, by omega, by go_num, HBF_10⟩
                  case measure => simp [iv12]; omega
                · have hd : decide ((f : Int) < (lia : Int)) = false := decide_eq_false hfh
                  have hle2 : (lia : Int) ≤ (f : Int) := by omega
                  go_wp2
                  go_roundw
                  case rel => exact ⟨f + 1, by omega, by go_num, HBF_10⟩
                  case measure => simp [iv12]; omega
            · skip
              obtain rfl : f = 3 := by omega
              obtain ⟨w9, rfl⟩ : ∃ V, V = wr := ⟨_, rfl⟩
              have hB : Below w8.heap.size w8 w9 := HBf.out
              have HB_9 : Hid (Below w.heap.size w w9) := HB_8.out.trans (hB.mono HB_8.out.size)
              have B1_9 : Hid (OwnB w9 w.heap.size (Value.slice a1 q1 c1) (ws)) := B1_8.out.later hB
              have K_9 : Hid (X3 w9 w1.heap.size (.int .i64 x) (.int .i64 y) (.int .i64 z)) := K_8.out.later hB
              have G_9 : Hid (OwnS w9 w2.heap.size (Value.slice ga q gc) (l)) := G_8.out.later hB
              have z9 : w8.heap.size ≤ w9.heap.size := hB.size
              clear hB HBf HB_8 B1_8 K_8 G_8
              clear HPV
              clear B1_9
              clear K_9
              clear G_9
              go_wp2_with fail
              refine (drawProved_c bo m d _ hm (HM.out.later HB_9.out HB_9.out.size)).mono ?_
              rintro e w10 ⟨ff, sa, sp, sc, ss, x2, y2, z2, rfl, hsp, ho, hb⟩
              have hB : Below w9.heap.size w9 w10 := hb
              have HB_10 : Hid (Below w.heap.size w w10) := HB_9.out.trans (hB.mono HB_9.out.size)
              have z10 : w9.heap.size ≤ w10.heap.size := hB.size
              have S_10 : Hid (OwnS w10 w9.heap.size (Value.slice sa sp sc) (ss)) := ho
              clear hb hB HB_9 ho
              have hHB := HB_10.out.alloc HB_10.out.size (.cells #[.int .i64 x2, .int .i64 y2, .int .i64 z2] 25)
              have hS := S_10.out.later (balloc w10 (.cells #[.int .i64 x2, .int .i64 y2, .int .i64 z2] 25))
              have hL := x3_new w10 (.int .i64 x2) (.int .i64 y2) (.int .i64 z2) 25 w10.heap.size rfl
              have hz : (w10.alloc (.cells #[.int .i64 x2, .int .i64 y2, .int .i64 z2] 25)).heap.size = w10.heap.size + 1 := by simp
              obtain ⟨w11, hV11⟩ : ∃ V, w10.alloc (.cells #[.int .i64 x2, .int .i64 y2, .int .i64 z2] 25) = V := ⟨_, rfl⟩
              rw [hV11] at hHB hS hL hz
              have HB_11 : Hid (Below w.heap.size w w11) := hHB
              have S_11 : Hid (OwnS w11 w9.heap.size (Value.slice sa sp sc) (ss)) := hS
              have L_11 : Hid (X3 w11 w10.heap.size (.int .i64 x2) (.int .i64 y2) (.int .i64 z2)) := hL
              have z11 : w10.heap.size + 1 ≤ w11.heap.size := by omega
              clear HB_10 S_10 hHB hS hL hz
              have hsl : ss.length = sp := S_11.out.rd'.1
              obtain ⟨pv, hpv⟩ : ∃ z, provedV ff ss (x2, y2, z2) = z := ⟨_, rfl⟩
              obtain ⟨pk, hpk⟩ : ∃ z, provedOk ff ss (x2, y2, z2) = z := ⟨_, rfl⟩
              have TI : Hid (∀ wx, RdS wx sa ss → Calls Try.prog 18 #[.int .i64 ff, .slice sa sp sc, .agg #[.int .i64 x2, .int .i64 y2, .int .i64 z2]] wx fun e w' => e = .returned (.tuple #[.bool pv, .bool pk]) ∧ Below wx.heap.size wx w') := fun wx h => by have := implProved_c ff sa sp sc ss x2 y2 z2 wx hsl (by omega) h; rw [hpv, hpk] at this; exact this
              have TS : Hid (∀ wx, RdS wx sa ss → Calls Try.prog 20 #[.int .i64 ff, .slice sa sp sc, .agg #[.int .i64 x2, .int .i64 y2, .int .i64 z2]] wx fun e w' => e = .returned (.tuple #[.bool pv, .bool pk]) ∧ Below wx.heap.size wx w') := fun wx h => by have := specProved_c ff sa sp sc ss x2 y2 z2 wx hsl (by omega) h (by omega); rw [hpv, hpk] at this; exact this
              have e1 : (pk == pk) = true := by simp
              have e2 : (pv == pv) = true := by simp
              clear hsl hpv hpk
              obtain ⟨⟨Lq0, Lq1, Lq2⟩, Lf⟩ := id (L_11.out)
              clear Lf
              go_wp2_with fail
              clear hV11
              refine (TI.out _ S_11.out.rd'.2).mono ?_
              clear Lq0 Lq1 Lq2
              rintro e w12 ⟨rfl, hb⟩
              have hB : Below w11.heap.size w11 w12 := hb
              have HB_12 : Hid (Below w.heap.size w w12) := HB_11.out.trans (hB.mono HB_11.out.size)
              have S_12 : Hid (OwnS w12 w9.heap.size (Value.slice sa sp sc) (ss)) := S_11.out.later hB
              have L_12 : Hid (X3 w12 w10.heap.size (.int .i64 x2) (.int .i64 y2) (.int .i64 z2)) := L_11.out.later hB
              have z12 : w11.heap.size ≤ w12.heap.size := hB.size
              clear hb hB HB_11 S_11 L_11 
              obtain ⟨⟨Lq0, Lq1, Lq2⟩, Lf⟩ := id (L_12.out)
              clear Lf
              go_wp2_with fail
              refine (TS.out _ S_12.out.rd'.2).mono ?_
              clear Lq0 Lq1 Lq2
              rintro e w13 ⟨rfl, hb⟩
              have hB : Below w12.heap.size w12 w13 := hb
              have HB_13 : Hid (Below w.heap.size w w13) := HB_12.out.trans (hB.mono HB_12.out.size)
              have z13 : w12.heap.size ≤ w13.heap.size := hB.size
              clear hb hB HB_12 S_12 L_12 
              clear TI TS
              go_wp2_with fail
              refine (drawRefused_c bo m d _ hm (HM.out.later HB_13.out HB_13.out.size)).mono ?_
              rintro e w14 ⟨ta, tp, tc, ts, x3, y3, z3, rfl, htp, ho, hb⟩
              have hB : Below w13.heap.size w13 w14 := hb
              have HB_14 : Hid (Below w.heap.size w w14) := HB_13.out.trans (hB.mono HB_13.out.size)
              have z14 : w13.heap.size ≤ w14.heap.size := hB.size
              have R_14 : Hid (OwnS w14 w13.heap.size (Value.slice ta tp tc) (ts)) := ho
              clear hb hB HB_13 ho
              have hHB := HB_14.out.alloc HB_14.out.size (.cells #[.int .i64 x3, .int .i64 y3, .int .i64 z3] 25)
              have hR := R_14.out.later (balloc w14 (.cells #[.int .i64 x3, .int .i64 y3, .int .i64 z3] 25))
              have hN := x3_new w14 (.int .i64 x3) (.int .i64 y3) (.int .i64 z3) 25 w14.heap.size rfl
              have hz : (w14.alloc (.cells #[.int .i64 x3, .int .i64 y3, .int .i64 z3] 25)).heap.size = w14.heap.size + 1 := by simp
              obtain ⟨w15, hV15⟩ : ∃ V, w14.alloc (.cells #[.int .i64 x3, .int .i64 y3, .int .i64 z3] 25) = V := ⟨_, rfl⟩
              rw [hV15] at hHB hR hN hz
              have HB_15 : Hid (Below w.heap.size w w15) := hHB
              have R_15 : Hid (OwnS w15 w13.heap.size (Value.slice ta tp tc) (ts)) := hR
              have N_15 : Hid (X3 w15 w14.heap.size (.int .i64 x3) (.int .i64 y3) (.int .i64 z3)) := hN
              have z15 : w14.heap.size + 1 ≤ w15.heap.size := by omega
              clear HB_14 R_14 hHB hR hN hz
              have htl : ts.length = tp := R_15.out.rd'.1
              obtain ⟨rl, hrl⟩ : ∃ z, refV ts (x3, y3, z3) = z := ⟨_, rfl⟩
              obtain ⟨rk, hrk⟩ : ∃ z, refOk ts (x3, y3, z3) = z := ⟨_, rfl⟩
              obtain ⟨rq, hrq⟩ : ∃ z, rl.length = z := ⟨_, rfl⟩
              have hrq7 : rq ≤ 7 := by
                rw [← hrq, ← hrl]
                unfold refV
                split
                · exact refTo_length _ _ 7
                · simp
              have UI : Hid (∀ wx, RdS wx ta ts → Calls Try.prog 22 #[.slice ta tp tc, .agg #[.int .i64 x3, .int .i64 y3, .int .i64 z3]] wx fun e w' => ∃ a' c', e = .returned (.tuple #[.slice a' rq c', .bool rk]) ∧ Own w' wx.heap.size (.slice a' rq c') rl ∧ Below wx.heap.size wx w') := fun wx h => by have := implRefused_c ta tp tc ts x3 y3 z3 wx htl (by omega) h rq (by rw [hrl]; exact hrq); rw [hrl, hrk] at this; exact this
              have US : Hid (∀ wx, RdS wx ta ts → Calls Try.prog 23 #[.slice ta tp tc, .agg #[.int .i64 x3, .int .i64 y3, .int .i64 z3]] wx fun e w' => ∃ a' c', e = .returned (.tuple #[.slice a' rq c', .bool rk]) ∧ Own w' wx.heap.size (.slice a' rq c') rl ∧ Below wx.heap.size wx w') := fun wx h => by have := specRefused_c ta tp tc ts x3 y3 z3 wx htl (by omega) h rq (by rw [hrl]; exact hrq); rw [hrl, hrk] at this; exact this
              have HRQ : Hid (rl.length = rq) := hrq
              have e3 : (rk == rk) = true := by simp
              clear htl hrl hrk hrq
              obtain ⟨⟨Nq0, Nq1, Nq2⟩, Nf⟩ := id (N_15.out)
              clear Nf
              go_wp2_with fail
              clear hV15
              refine (UI.out _ R_15.out.rd'.2).mono ?_
              clear Nq0 Nq1 Nq2
              rintro e w16 ⟨g1, gc1, rfl, ho, hb⟩
              have hB : Below w15.heap.size w15 w16 := hb
              have HB_16 : Hid (Below w.heap.size w w16) := HB_15.out.trans (hB.mono HB_15.out.size)
              have R_16 : Hid (OwnS w16 w13.heap.size (Value.slice ta tp tc) (ts)) := R_15.out.later hB
              have N_16 : Hid (X3 w16 w14.heap.size (.int .i64 x3) (.int .i64 y3) (.int .i64 z3)) := N_15.out.later hB
              have z16 : w15.heap.size ≤ w16.heap.size := hB.size
              have G1_16 : Hid (Own w16 w15.heap.size (Value.slice g1 rq gc1) (rl)) := ho
              clear hb hB HB_15 R_15 N_15 ho
              obtain ⟨⟨Nq0, Nq1, Nq2⟩, Nf⟩ := id (N_16.out)
              clear Nf
              go_wp2_with fail
              refine (US.out _ R_16.out.rd'.2).mono ?_
              clear Nq0 Nq1 Nq2
              rintro e w17 ⟨g2, gc2, rfl, ho, hb⟩
              have hB : Below w16.heap.size w16 w17 := hb
              have HB_17 : Hid (Below w.heap.size w w17) := HB_16.out.trans (hB.mono HB_16.out.size)
              have G1_17 : Hid (Own w17 w15.heap.size (Value.slice g1 rq gc1) (rl)) := G1_16.out.later hB
              have z17 : w16.heap.size ≤ w17.heap.size := hB.size
              have G2_17 : Hid (Own w17 w16.heap.size (Value.slice g2 rq gc2) (rl)) := ho
              clear hb hB HB_16 R_16 N_16 G1_16 ho
              clear UI US
              go_wp2_with fail
              refine (sameInts_b g1 g2 rq gc1 gc2 rl _ HRQ.out (by omega) G1_17.out.rd'.2 G2_17.out.rd'.2).mono ?_
              rintro e w18 ⟨rfl, hb⟩
              have hB : Below w17.heap.size w17 w18 := hb
              have HB_18 : Hid (Below w.heap.size w w18) := HB_17.out.trans (hB.mono HB_17.out.size)
              have G1_18 : Hid (Own w18 w15.heap.size (Value.slice g1 rq gc1) (rl)) := G1_17.out.later hB
              have G2_18 : Hid (Own w18 w16.heap.size (Value.slice g2 rq gc2) (rl)) := G2_17.out.later hB
              have z18 : w17.heap.size ≤ w18.heap.size := hB.size
              clear hb hB HB_17 G1_17 G2_17 
              go_wp2
              go_ret
              exact ⟨rfl, HB_18.out⟩)

end Go.Proofs.Ytofdlggohnfgaaa
