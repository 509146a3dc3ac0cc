/- FnBoard, walked: it answers true at every argument and turns nothing that was there. -/
import Derived.Test.YtaokmjbhgkfnfaaD13Pp
import Derived.Test.YtaokmjbhgkfnfaaCQ13p
import Derived.Test.YtaokmjbhgkfnfaaLawPB13p
namespace Go.Proofs.Ytaokmjbhgkfnfaa
set_option linter.unusedVariables false
set_option maxRecDepth 1000000
set_option linter.unusedSimpArgs false
open Go.RowKit

theorem pbV_fine (f : Int) (li : List Int) (l : List (Int × Int × Int)) : pbOk f li l.length = true → goodBd (pbV f li l).1 = true := fun h => by
  unfold pbV
  rw [if_pos h]
  unfold pbOk at h
  rw [Bool.and_eq_true] at h
  exact playP_good (by rw [good_newB]; exact h.1) l
theorem good_epoch {f e : Int} {sg : List (List Int)} {li ls : List Int} (h : goodBd ⟨f, e, sg, li, ls⟩ = true) : 0 ≤ e ∧ e ≤ 20 := ⟨(good_is h).e0, (good_is h).e2⟩

set_option maxHeartbeats 16000000 in
theorem lawFnBoard_c (ao : Option Addr) (n c : Nat) (w : World) (hn : n ≤ 9223372036854775807) (hco : CodeOk w w.heap.size ao n) :
    Calls Try.prog 3 #[.slice ao n c] w fun e w' => e = .returned (.bool true) ∧ Below w.heap.size w w' := by
  have HCO : Hid (CodeOk w w.heap.size ao n) := hco
  clear hco
  have HB_0 : Hid (Below w.heap.size w w) := Below.refl _ _
  go_enter Try.func3, Try.ntmps3
  by_cases hsz : 1048576 < n
  · have hsz2 : (1048576 : Int) < (n : Int) := by omega
    go_wp2
    go_ret
    exact ⟨rfl, HB_0.out⟩
  have hsz2 : ¬ (1048576 : Int) < (n : Int) := by omega
  go_wp2_with fail
  refine (drawPlay_c ao n c _ hn HCO.out).mono ?_
  rintro e w1 ⟨f, pa, pn, pc, qi, lo, q, lc, l, rfl, hpn, hq, ho, hl, hb⟩
  have hB : Below w.heap.size w w1 := hb
  have HB_1 : Hid (Below w.heap.size w w1) := HB_0.out.trans (hB.mono HB_0.out.size)
  have z1 : w.heap.size ≤ w1.heap.size := hB.size
  have P_1 : Hid (Own w1 w.heap.size (Value.slice pa pn pc) (qi)) := ho
  have I_P : Hid (∀ k, (Value.slice pa pn pc).ownBlock = some k → w.heap.size ≤ k ∧ k < w1.heap.size) := World.ownsRow.lt P_1.out
  have LT_1 : Hid (OwnT w1 w.heap.size (Value.slice lo q lc) (l)) := hl
  have I_LT : Hid (∀ k, (Value.slice lo q lc).ownBlock = some k → w.heap.size ≤ k ∧ k < w1.heap.size) := World.ownsRow.lt LT_1.out
  clear hb hB HB_0 ho hl
  obtain ⟨⟨⟨nf, ne, sg, li, ls⟩, dd⟩, hpv⟩ : ∃ p, pbV f qi l = p := ⟨_, rfl⟩
  obtain ⟨fb, hF⟩ : ∃ fb, pbOk f qi l.length = fb := ⟨_, rfl⟩
  have hpg := pbV_good f qi l
  have hfg := pbV_fine f qi l
  rw [hpv] at hpg
  rw [hpv, hF] at hfg
  dsimp only at hpg hfg
  obtain ⟨ns, hn3⟩ : ∃ k, sg.length = k := ⟨_, rfl⟩
  obtain ⟨nl, hn4⟩ : ∃ k, li.length = k := ⟨_, rfl⟩
  obtain ⟨nt, hn5⟩ : ∃ k, ls.length = k := ⟨_, rfl⟩
  obtain ⟨nd, hn6⟩ : ∃ k, dd.length = k := ⟨_, rfl⟩
  have hnd : nd ≤ 60 := by rw [← hn6]; exact hpg.2
  have HSN : Hid (SmallBd ⟨nf, ne, sg, li, ls⟩) := by rcases hpg.1 with h | h; exact good_small h; rw [h]; exact zero_small
  have HGD : Hid (fb = true → goodBd ⟨nf, ne, sg, li, ls⟩ = true) := hfg
  have HQI : Hid (∀ wx, Own wx w.heap.size (.slice pa pn pc) qi → OwnT wx w.heap.size (.slice lo q lc) l → Calls Try.prog 13 #[.int .i64 f, .slice pa pn pc, .slice lo q lc] wx fun r w' => ∃ sa' sc' la' lc' ta' tc' da' dc', r = .returned (.tuple #[.agg #[.int .i64 nf, .int .i64 ne, .slice sa' ns sc', .slice la' nl lc', .slice ta' nt tc'], .slice da' nd dc', .bool fb]) ∧ OwnBd w' wx.heap.size w'.heap.size (.slice sa' ns sc') (.slice la' nl lc') (.slice ta' nt tc') ⟨nf, ne, sg, li, ls⟩ ∧ OwnB w' wx.heap.size (.slice da' nd dc') dd ∧ Below wx.heap.size wx w') := fun wx h h2 => by
    have := implPlay_c f pa pn pc lo q lc qi l wx h.rd'.1 (by omega) h2.rd'.1 (by omega) h.rd'.2 h.nil h2.rd'.2
    unfold PbOk at this
    rw [hpv, hF] at this
    dsimp only at this
    rw [hn3, hn4, hn5, hn6] at this
    exact this
  have HQS : Hid (∀ wx, Own wx w.heap.size (.slice pa pn pc) qi → OwnT wx w.heap.size (.slice lo q lc) l → Calls Try.prog 14 #[.int .i64 f, .slice pa pn pc, .slice lo q lc] wx fun r w' => ∃ sa' sc' la' lc' ta' tc' da' dc', r = .returned (.tuple #[.agg #[.int .i64 nf, .int .i64 ne, .slice sa' ns sc', .slice la' nl lc', .slice ta' nt tc'], .slice da' nd dc', .bool fb]) ∧ OwnBd w' wx.heap.size w'.heap.size (.slice sa' ns sc') (.slice la' nl lc') (.slice ta' nt tc') ⟨nf, ne, sg, li, ls⟩ ∧ OwnB w' wx.heap.size (.slice da' nd dc') dd ∧ Below wx.heap.size wx w') := fun wx h h2 => by
    have := specPlay_c f pa pn pc lo q lc qi l wx h.rd'.1 (by omega) h2.rd'.1 (by omega) h.rd'.2 h.nil h2.rd'.2
    unfold PbOk at this
    rw [hpv, hF] at this
    dsimp only at this
    rw [hn3, hn4, hn5, hn6] at this
    exact this
  have HD : Hid (dd.length = nd) := hn6
  have HN1 : Hid (sg.length = ns) := hn3
  have HN2 : Hid (li.length = nl) := hn4
  have HN3 : Hid (ls.length = nt) := hn5
  have hfb : (fb != fb) = false := by simp
  have hns : ns ≤ 1048576 := by have := HSN.out.s; simp only at this; omega
  have hnl : nl ≤ 1048576 := by have := HSN.out.l; simp only at this; omega
  have hnt : nt ≤ 1048576 := by have := HSN.out.t; simp only at this; omega
  clear hpv hF hpg hfg hn3 hn4 hn5 hn6
  go_wp2_with fail
  refine (HQI.out _ (P_1.out.mono (by omega)) (LT_1.out.mono (by omega))).mono ?_
  rintro e w2 ⟨sa1, sc1, la1, lc1, ta1, tc1, da1, dc1, rfl, ho, hd, hb⟩
  have hB : Below w1.heap.size w1 w2 := hb
  have HB_2 : Hid (Below w.heap.size w w2) := HB_1.out.trans (hB.mono HB_1.out.size)
  have P_2 : Hid (Own w2 w.heap.size (Value.slice pa pn pc) (qi)) := P_1.out.later hB
  have LT_2 : Hid (OwnT w2 w.heap.size (Value.slice lo q lc) (l)) := LT_1.out.later hB
  have z2 : w1.heap.size ≤ w2.heap.size := hB.size
  have BG_2 : Hid (OwnBd w2 w1.heap.size w2.heap.size (.slice sa1 ns sc1) (.slice la1 nl lc1) (.slice ta1 nt tc1) ⟨nf, ne, sg, li, ls⟩) := ho
  have BGD_2 : Hid (OwnB w2 w1.heap.size (Value.slice da1 nd dc1) (dd)) := hd
  have I_BGD : Hid (∀ k, (Value.slice da1 nd dc1).ownBlock = some k → w1.heap.size ≤ k ∧ k < w2.heap.size) := World.ownsRow.lt BGD_2.out
  clear hb hB HB_1 P_1 LT_1 ho hd
  have hHB := HB_2.out.alloc HB_2.out.size (.cells #[.int .i64 nf, .int .i64 ne, .slice sa1 ns sc1, .slice la1 nl lc1, .slice ta1 nt tc1] 29)
  have hP := P_2.out.later (balloc w2 (.cells #[.int .i64 nf, .int .i64 ne, .slice sa1 ns sc1, .slice la1 nl lc1, .slice ta1 nt tc1] 29))
  have hLT := LT_2.out.later (balloc w2 (.cells #[.int .i64 nf, .int .i64 ne, .slice sa1 ns sc1, .slice la1 nl lc1, .slice ta1 nt tc1] 29))
  have hBG := BG_2.out.later (balloc w2 (.cells #[.int .i64 nf, .int .i64 ne, .slice sa1 ns sc1, .slice la1 nl lc1, .slice ta1 nt tc1] 29))
  have hBGD := BGD_2.out.later (balloc w2 (.cells #[.int .i64 nf, .int .i64 ne, .slice sa1 ns sc1, .slice la1 nl lc1, .slice ta1 nt tc1] 29))
  have hX := x5_new w2 (.int .i64 nf) (.int .i64 ne) (.slice sa1 ns sc1) (.slice la1 nl lc1) (.slice ta1 nt tc1) 29 w2.heap.size rfl
  have hz : (w2.alloc (.cells #[.int .i64 nf, .int .i64 ne, .slice sa1 ns sc1, .slice la1 nl lc1, .slice ta1 nt tc1] 29)).heap.size = w2.heap.size + 1 := by simp
  obtain ⟨w3, hV3⟩ : ∃ V, w2.alloc (.cells #[.int .i64 nf, .int .i64 ne, .slice sa1 ns sc1, .slice la1 nl lc1, .slice ta1 nt tc1] 29) = V := ⟨_, rfl⟩
  rw [hV3] at hHB hP hLT hBG hBGD hX hz
  have HB_3 : Hid (Below w.heap.size w w3) := hHB
  have P_3 : Hid (Own w3 w.heap.size (Value.slice pa pn pc) (qi)) := hP
  have LT_3 : Hid (OwnT w3 w.heap.size (Value.slice lo q lc) (l)) := hLT
  have BG_3 : Hid (OwnBd w3 w1.heap.size w2.heap.size (.slice sa1 ns sc1) (.slice la1 nl lc1) (.slice ta1 nt tc1) ⟨nf, ne, sg, li, ls⟩) := hBG
  have BGD_3 : Hid (OwnB w3 w1.heap.size (Value.slice da1 nd dc1) (dd)) := hBGD
  have X_3 : Hid (X5 w3 w2.heap.size (.int .i64 nf) (.int .i64 ne) (.slice sa1 ns sc1) (.slice la1 nl lc1) (.slice ta1 nt tc1)) := hX
  have z3 : w2.heap.size + 1 ≤ w3.heap.size := by omega
  clear HB_2 P_2 LT_2 BG_2 BGD_2 hHB hP hLT hBG hBGD hX hz
  go_wp2_with fail
  clear hV3
  refine (HQS.out _ (P_3.out.mono (by omega)) (LT_3.out.mono (by omega))).mono ?_
  rintro e w4 ⟨sa2, sc2, la2, lc2, ta2, tc2, da2, dc2, rfl, ho, hd, hb⟩
  have hB : Below w3.heap.size w3 w4 := hb
  have HB_4 : Hid (Below w.heap.size w w4) := HB_3.out.trans (hB.mono HB_3.out.size)
  have BG_4 : Hid (OwnBd w4 w1.heap.size w2.heap.size (.slice sa1 ns sc1) (.slice la1 nl lc1) (.slice ta1 nt tc1) ⟨nf, ne, sg, li, ls⟩) := BG_3.out.later hB
  have BGD_4 : Hid (OwnB w4 w1.heap.size (Value.slice da1 nd dc1) (dd)) := BGD_3.out.later hB
  have X_4 : Hid (X5 w4 w2.heap.size (.int .i64 nf) (.int .i64 ne) (.slice sa1 ns sc1) (.slice la1 nl lc1) (.slice ta1 nt tc1)) := X_3.out.later hB
  have z4 : w3.heap.size ≤ w4.heap.size := hB.size
  have BW_4 : Hid (OwnBd w4 w3.heap.size w4.heap.size (.slice sa2 ns sc2) (.slice la2 nl lc2) (.slice ta2 nt tc2) ⟨nf, ne, sg, li, ls⟩) := ho
  have BWD_4 : Hid (OwnB w4 w3.heap.size (Value.slice da2 nd dc2) (dd)) := hd
  have I_BWD : Hid (∀ k, (Value.slice da2 nd dc2).ownBlock = some k → w3.heap.size ≤ k ∧ k < w4.heap.size) := World.ownsRow.lt BWD_4.out
  clear hb hB HB_3 P_3 LT_3 BG_3 BGD_3 X_3 ho hd
  have hHB := HB_4.out.alloc HB_4.out.size (.cells #[.int .i64 nf, .int .i64 ne, .slice sa2 ns sc2, .slice la2 nl lc2, .slice ta2 nt tc2] 29)
  have hBG := BG_4.out.later (balloc w4 (.cells #[.int .i64 nf, .int .i64 ne, .slice sa2 ns sc2, .slice la2 nl lc2, .slice ta2 nt tc2] 29))
  have hBGD := BGD_4.out.later (balloc w4 (.cells #[.int .i64 nf, .int .i64 ne, .slice sa2 ns sc2, .slice la2 nl lc2, .slice ta2 nt tc2] 29))
  have hX := X_4.out.later (balloc w4 (.cells #[.int .i64 nf, .int .i64 ne, .slice sa2 ns sc2, .slice la2 nl lc2, .slice ta2 nt tc2] 29))
  have hBW := BW_4.out.later (balloc w4 (.cells #[.int .i64 nf, .int .i64 ne, .slice sa2 ns sc2, .slice la2 nl lc2, .slice ta2 nt tc2] 29))
  have hBWD := BWD_4.out.later (balloc w4 (.cells #[.int .i64 nf, .int .i64 ne, .slice sa2 ns sc2, .slice la2 nl lc2, .slice ta2 nt tc2] 29))
  have hY := x5_new w4 (.int .i64 nf) (.int .i64 ne) (.slice sa2 ns sc2) (.slice la2 nl lc2) (.slice ta2 nt tc2) 29 w4.heap.size rfl
  have hz : (w4.alloc (.cells #[.int .i64 nf, .int .i64 ne, .slice sa2 ns sc2, .slice la2 nl lc2, .slice ta2 nt tc2] 29)).heap.size = w4.heap.size + 1 := by simp
  obtain ⟨w5, hV5⟩ : ∃ V, w4.alloc (.cells #[.int .i64 nf, .int .i64 ne, .slice sa2 ns sc2, .slice la2 nl lc2, .slice ta2 nt tc2] 29) = V := ⟨_, rfl⟩
  rw [hV5] at hHB hBG hBGD hX hBW hBWD hY hz
  have HB_5 : Hid (Below w.heap.size w w5) := hHB
  have BG_5 : Hid (OwnBd w5 w1.heap.size w2.heap.size (.slice sa1 ns sc1) (.slice la1 nl lc1) (.slice ta1 nt tc1) ⟨nf, ne, sg, li, ls⟩) := hBG
  have BGD_5 : Hid (OwnB w5 w1.heap.size (Value.slice da1 nd dc1) (dd)) := hBGD
  have X_5 : Hid (X5 w5 w2.heap.size (.int .i64 nf) (.int .i64 ne) (.slice sa1 ns sc1) (.slice la1 nl lc1) (.slice ta1 nt tc1)) := hX
  have BW_5 : Hid (OwnBd w5 w3.heap.size w4.heap.size (.slice sa2 ns sc2) (.slice la2 nl lc2) (.slice ta2 nt tc2) ⟨nf, ne, sg, li, ls⟩) := hBW
  have BWD_5 : Hid (OwnB w5 w3.heap.size (Value.slice da2 nd dc2) (dd)) := hBWD
  have Y_5 : Hid (X5 w5 w4.heap.size (.int .i64 nf) (.int .i64 ne) (.slice sa2 ns sc2) (.slice la2 nl lc2) (.slice ta2 nt tc2)) := hY
  have z5 : w4.heap.size + 1 ≤ w5.heap.size := by omega
  clear HB_4 BG_4 BGD_4 X_4 BW_4 BWD_4 hHB hBG hBGD hX hBW hBWD hY hz
  go_wp2_with fail
  clear hV5
  refine (sameBools_w da1 da2 nd dc1 dc2 dd _ HD.out (by omega) BGD_5.out.rd'.2 BWD_5.out.rd'.2).mono ?_
  rintro e w6 ⟨rfl, hb⟩
  have hB : Below w5.heap.size w5 w6 := hb
  have HB_6 : Hid (Below w.heap.size w w6) := HB_5.out.trans (hB.mono HB_5.out.size)
  have BG_6 : Hid (OwnBd w6 w1.heap.size w2.heap.size (.slice sa1 ns sc1) (.slice la1 nl lc1) (.slice ta1 nt tc1) ⟨nf, ne, sg, li, ls⟩) := BG_5.out.later hB
  have BGD_6 : Hid (OwnB w6 w1.heap.size (Value.slice da1 nd dc1) (dd)) := BGD_5.out.later hB
  have X_6 : Hid (X5 w6 w2.heap.size (.int .i64 nf) (.int .i64 ne) (.slice sa1 ns sc1) (.slice la1 nl lc1) (.slice ta1 nt tc1)) := X_5.out.later hB
  have BW_6 : Hid (OwnBd w6 w3.heap.size w4.heap.size (.slice sa2 ns sc2) (.slice la2 nl lc2) (.slice ta2 nt tc2) ⟨nf, ne, sg, li, ls⟩) := BW_5.out.later hB
  have BWD_6 : Hid (OwnB w6 w3.heap.size (Value.slice da2 nd dc2) (dd)) := BWD_5.out.later hB
  have Y_6 : Hid (X5 w6 w4.heap.size (.int .i64 nf) (.int .i64 ne) (.slice sa2 ns sc2) (.slice la2 nl lc2) (.slice ta2 nt tc2)) := Y_5.out.later hB
  have z6 : w5.heap.size ≤ w6.heap.size := hB.size
  clear hb hB HB_5 BG_5 BGD_5 X_5 BW_5 BWD_5 Y_5 
  obtain ⟨⟨Xq0, Xq1, Xq2, Xq3, Xq4⟩, Xf⟩ := id (X_6.out)
  clear Xf
  obtain ⟨⟨Yq0, Yq1, Yq2, Yq3, Yq4⟩, Yf⟩ := id (Y_6.out)
  clear Yf
  go_wp2_with fail
  refine (sameBoard_c nf ne sa1 ns sc1 la1 nl lc1 ta1 nt tc1 sa2 sc2 la2 lc2 ta2 tc2 ⟨nf, ne, sg, li, ls⟩ _ HSN.out BG_6.out.rd BW_6.out.rd).mono ?_
  clear Xq0 Xq1 Xq2 Xq3 Xq4
  clear Yq0 Yq1 Yq2 Yq3 Yq4
  rintro e w7 ⟨rfl, hb⟩
  have hB : Below w6.heap.size w6 w7 := hb
  have HB_7 : Hid (Below w.heap.size w w7) := HB_6.out.trans (hB.mono HB_6.out.size)
  have BG_7 : Hid (OwnBd w7 w1.heap.size w2.heap.size (.slice sa1 ns sc1) (.slice la1 nl lc1) (.slice ta1 nt tc1) ⟨nf, ne, sg, li, ls⟩) := BG_6.out.later hB
  have BGD_7 : Hid (OwnB w7 w1.heap.size (Value.slice da1 nd dc1) (dd)) := BGD_6.out.later hB
  have X_7 : Hid (X5 w7 w2.heap.size (.int .i64 nf) (.int .i64 ne) (.slice sa1 ns sc1) (.slice la1 nl lc1) (.slice ta1 nt tc1)) := X_6.out.later hB
  have BW_7 : Hid (OwnBd w7 w3.heap.size w4.heap.size (.slice sa2 ns sc2) (.slice la2 nl lc2) (.slice ta2 nt tc2) ⟨nf, ne, sg, li, ls⟩) := BW_6.out.later hB
  have BWD_7 : Hid (OwnB w7 w3.heap.size (Value.slice da2 nd dc2) (dd)) := BWD_6.out.later hB
  have Y_7 : Hid (X5 w7 w4.heap.size (.int .i64 nf) (.int .i64 ne) (.slice sa2 ns sc2) (.slice la2 nl lc2) (.slice ta2 nt tc2)) := Y_6.out.later hB
  have z7 : w6.heap.size ≤ w7.heap.size := hB.size
  clear hb hB HB_6 BG_6 BGD_6 X_6 BW_6 BWD_6 Y_6 
  cases fb
  · go_wp2
    go_ret
    exact ⟨rfl, HB_7.out⟩
  have HG2 : Hid (goodBd ⟨nf, ne, sg, li, ls⟩ = true) := HGD.out rfl
  clear HGD
  obtain ⟨⟨Xq0, Xq1, Xq2, Xq3, Xq4⟩, Xf⟩ := id (X_7.out)
  clear Xf
  go_wp2_with fail
  refine (implGood_c nf ne sa1 ns sc1 la1 nl lc1 ta1 nt tc1 sg li ls _ HN1.out hns HN2.out hnl HN3.out hnt BG_7.out.rd.s BG_7.out.rd.l BG_7.out.rd.t).mono ?_
  rw [HG2.out]
  clear Xq0 Xq1 Xq2 Xq3 Xq4
  rintro e w8 ⟨rfl, hb⟩
  have hB : Below w7.heap.size w7 w8 := hb
  have HB_8 : Hid (Below w.heap.size w w8) := HB_7.out.trans (hB.mono HB_7.out.size)
  have BG_8 : Hid (OwnBd w8 w1.heap.size w2.heap.size (.slice sa1 ns sc1) (.slice la1 nl lc1) (.slice ta1 nt tc1) ⟨nf, ne, sg, li, ls⟩) := BG_7.out.later hB
  have BGD_8 : Hid (OwnB w8 w1.heap.size (Value.slice da1 nd dc1) (dd)) := BGD_7.out.later hB
  have X_8 : Hid (X5 w8 w2.heap.size (.int .i64 nf) (.int .i64 ne) (.slice sa1 ns sc1) (.slice la1 nl lc1) (.slice ta1 nt tc1)) := X_7.out.later hB
  have BW_8 : Hid (OwnBd w8 w3.heap.size w4.heap.size (.slice sa2 ns sc2) (.slice la2 nl lc2) (.slice ta2 nt tc2) ⟨nf, ne, sg, li, ls⟩) := BW_7.out.later hB
  have BWD_8 : Hid (OwnB w8 w3.heap.size (Value.slice da2 nd dc2) (dd)) := BWD_7.out.later hB
  have Y_8 : Hid (X5 w8 w4.heap.size (.int .i64 nf) (.int .i64 ne) (.slice sa2 ns sc2) (.slice la2 nl lc2) (.slice ta2 nt tc2)) := Y_7.out.later hB
  have z8 : w7.heap.size ≤ w8.heap.size := hB.size
  clear hb hB HB_7 BG_7 BGD_7 X_7 BW_7 BWD_7 Y_7 
  go_wp2
  have HRB : Hid (RdBd w8 sa1 ns sc1 la1 nl lc1 ta1 nt tc1 ⟨nf, ne, sg, li, ls⟩) := BG_8.out.rd
  have hne : 0 ≤ ne ∧ ne ≤ 20 := good_epoch (HG2.out)
  obtain ⟨hne0, hne1⟩ := hne
  go_loopw [12] (fun iv wr => ∃ (k : Nat), k ≤ 21 ∧ iv = .int .i64 k ∧ Hid (X5 wr w2.heap.size (.int .i64 nf) (.int .i64 ne) (.slice sa1 ns sc1) (.slice la1 nl lc1) (.slice ta1 nt tc1)) ∧ Hid (RdBd wr sa1 ns sc1 la1 nl lc1 ta1 nt tc1 ⟨nf, ne, sg, li, ls⟩) ∧ Hid (Below w.heap.size w wr)) (fun iv _ => 21 - (intOf iv).toNat)
  case atStart => exact ⟨0, by omega, rfl, X_8.out, HRB, HB_8.out⟩
  case round =>
    clear HRB HB_8 BG_8 BGD_8 X_8 BW_8 BWD_8 Y_8
    obtain ⟨k, hk, rfl, HX, HR, HB⟩ := hrel
    obtain ⟨⟨x0, x1, x2, x3, x4⟩, _⟩ := id HX.out
    by_cases hlt : (k : Int) ≤ ne
    case neg =>
      go_wp2
      go_ret
      exact ⟨rfl, HB.out⟩
    have hk0 : (0 : Int) ≤ (k : Int) := by omega
    have hqc := implCert_c nf ne sa1 ns sc1 la1 nl lc1 ta1 nt tc1 sg li ls (k : Int) wr HN1.out hns HN2.out hnl HN3.out hnt HR.out.s HR.out.l HR.out.t
    have hcb : certB ⟨nf, ne, sg, li, ls⟩ (k : Int) = true := by unfold certB; rw [HG2.out]; simp [inB]; omega
    rw [hcb] at hqc
    go_wp2_with fail
    refine hqc.mono ?_
    clear hqc hcb x0 x1 x2 x3 x4
    rintro e w9 ⟨a9, n9, c9, rfl, ho, hb⟩
    have hn9 : n9 ≤ 1 := by rw [← ho.rd'.1]; exact certV_one _
    have hn91 : ¬ (1 : Int) < (n9 : Int) := by omega
    have HX9 : Hid (X5 w9 w2.heap.size (.int .i64 nf) (.int .i64 ne) (.slice sa1 ns sc1) (.slice la1 nl lc1) (.slice ta1 nt tc1)) := HX.out.later hb
    have HR9 : Hid (RdBd w9 sa1 ns sc1 la1 nl lc1 ta1 nt tc1 ⟨nf, ne, sg, li, ls⟩) := HR.out.later hb
    have HB9 : Hid (Below w.heap.size w w9) := HB.out.trans (hb.mono HB.out.size)
    clear ho hb HX HR HB
    go_wp2
    go_roundw
    case rel => exact ⟨k + 1, by omega, by go_num, HX9, HR9, HB9⟩
    case measure => simp [intOf]; omega

end Go.Proofs.Ytaokmjbhgkfnfaa
