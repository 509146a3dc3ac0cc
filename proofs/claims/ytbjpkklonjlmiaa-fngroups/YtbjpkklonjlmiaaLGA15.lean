/- Chapter 15: the law that words said at once add up, and that ways lead within groups alone. -/
import Derived.Test.YtbjpkklonjlmiaaDZ15
import Derived.Test.YtbjpkklonjlmiaaSM15
import Derived.Test.YtbjpkklonjlmiaaP15L
import Derived.Test.YtbjpkklonjlmiaaHA15
import Derived.Test.YtbjpkklonjlmiaaSWB15
import Derived.Test.YtbjpkklonjlmiaaSS15B
import Derived.Test.YtbjpkklonjlmiaaGS15
namespace Go.Proofs.Ytbjpkklonjlmiaa
set_option linter.unusedVariables false
set_option maxRecDepth 1000000
set_option linter.unusedSimpArgs false
open Go.RowKit Go.Sort

set_option maxHeartbeats 8000000 in
theorem lawFnGroups_c (ao : Option Addr) (n c : Nat) (bo : Option Addr) (m d : Nat) (w : World) (hn : n ≤ 9223372036854775807) (h1 : CodeOk w w.heap.size ao n) (hm : m ≤ 9223372036854775807) (h2 : CodeOk w w.heap.size bo m) :
    Calls Try.prog 4 #[.slice ao n c, .slice bo m d] w fun e w' => e = .returned (.bool true) ∧ Below w.heap.size w w' := by
  by_cases hl : 1048576 < wrap64 ((n : Int) + (m : Int))
  · clear h1 h2
    go_enter Try.func4, Try.ntmps4
    go_wp2
    go_ret
    exact ⟨rfl, Below.refl _ _⟩
  have HN : Hid (CodeOk w w.heap.size ao n) := h1
  have HM : Hid (CodeOk w w.heap.size bo m) := h2
  clear h1 h2
  have B_0 : Hid (Below w.heap.size w w) := Below.refl _ _
  go_enter Try.func4, Try.ntmps4
  go_wp2_with fail
  refine (drawTog_c ao n c _ hn HN.out).mono ?_
  rintro e w1 ⟨t, sa, sc, la, lc, ws, wo, wc, rfl, hts, hrd, hsm, hw8, ho, hb⟩
  have z0 : w.heap.size ≤ w1.heap.size := hb.size
  have B_1 : Hid (Below w.heap.size w w1) := B_0.out.trans (hb.mono B_0.out.size)
  clear B_0 hb
  have RT_1 : Hid (RdT w1 sa t.ps.length sc la t.cs.length lc t) := hrd
  have WS_1 : Hid (Rd w1 wo ws) := ho.rd'.2
  have HWN : Hid (wo = none → ws.length = 0 ∧ wc = 0) := ho.nil
  clear hts hrd hsm ho
  obtain ⟨nw0, hnw0⟩ : ∃ k, ws.length = k := ⟨_, rfl⟩
  have HWL : Hid (ws.length = nw0) := hnw0
  rw [hnw0] at hw8 HWN ⊢
  clear hnw0
  obtain ⟨V, hV⟩ : ∃ V, togV t ws = V := ⟨_, rfl⟩
  obtain ⟨nv, hnv⟩ : ∃ k, V.length = k := ⟨_, rfl⟩
  have hnv7 : nv ≤ 7 := by
    rw [← hnv, ← hV]
    cases h9 : togB t ws
    · unfold togV; rw [if_neg (by rw [h9]; decide)]; simp
    · have g := goodTb_iff t (by unfold togB at h9; rw [Bool.and_eq_true] at h9; exact h9.1); unfold togV; rw [if_pos h9, sayL_length]; have := g.s6; omega
  cases hok : togB t ws
  · have QI : Hid (∀ wx, (RdT wx sa t.ps.length sc la t.cs.length lc t ∧ Rd wx wo ws) → Calls Try.prog 21 #[.agg #[.int .i64 t.s, .slice sa t.ps.length sc, .slice la t.cs.length lc], .slice wo nw0 wc] wx fun e w' => ∃ a' c', e = .returned (.tuple #[.slice a' nv c', .bool false]) ∧ Own w' wx.heap.size (.slice a' nv c') V ∧ Below wx.heap.size wx w') := fun wx h => by
      have q := implTog_c sa _ sc la _ lc t wo nw0 wc ws wx h.1 HWL.out (by omega) h.2 HWN.out
      unfold TellI at q
      rw [hV, hnv, hok] at q
      exact q
    have QS : Hid (∀ wx, (RdT wx sa t.ps.length sc la t.cs.length lc t ∧ Rd wx wo ws) → Calls Try.prog 22 #[.agg #[.int .i64 t.s, .slice sa t.ps.length sc, .slice la t.cs.length lc], .slice wo nw0 wc] wx fun e w' => ∃ a' c', e = .returned (.tuple #[.slice a' nv c', .bool false]) ∧ Own w' wx.heap.size (.slice a' nv c') V ∧ Below wx.heap.size wx w') := fun wx h => by
      have q := specTog_c sa _ sc la _ lc t wo nw0 wc ws wx h.1 HWL.out (by omega) h.2
      unfold TellI at q
      rw [hV, hnv, hok] at q
      exact q
    have HVl : Hid (V.length = nv) := hnv
    clear hnv hV hok
    obtain ⟨w2, hA1⟩ : ∃ X, w1.alloc (.cells #[.int .i64 t.s, .slice sa t.ps.length sc, .slice la t.cs.length lc] 26) = X := ⟨_, rfl⟩
    have hb : Below w1.heap.size w1 w2 := by rw [← hA1]; exact balloc w1 _
    have B_2 : Hid (Below w.heap.size w w2) := B_1.out.trans (hb.mono B_1.out.size)
    have RT_2 : Hid (RdT w2 sa t.ps.length sc la t.cs.length lc t) := RT_1.out.later hb
    have WS_2 : Hid (Rd w2 wo ws) := WS_1.out.later hb
    have z1 : w1.heap.size ≤ w2.heap.size := hb.size
    clear B_1 RT_1 WS_1
    clear hb
    have X5_2 : Hid (X3 w2 w1.heap.size (.int .i64 t.s) (.slice sa t.ps.length sc) (.slice la t.cs.length lc)) := by rw [← hA1]; exact x3_new w1 _ _ _ _ _ rfl
    obtain ⟨⟨uX50, uX51, uX52⟩, uX5z⟩ := id X5_2.out
    go_wp2_with fail
    clear uX50 uX51 uX52 uX5z
    clear hA1
    refine (QI.out _ ⟨RT_2.out, WS_2.out⟩).mono ?_
    rintro e w3 ⟨a1, c1, rfl, ho, hb⟩
    have z2 : w2.heap.size ≤ w3.heap.size := hb.size
    have B_3 : Hid (Below w.heap.size w w3) := B_2.out.trans (hb.mono B_2.out.size)
    have RT_3 : Hid (RdT w3 sa t.ps.length sc la t.cs.length lc t) := RT_2.out.later hb
    have WS_3 : Hid (Rd w3 wo ws) := WS_2.out.later hb
    have X5_3 : Hid (X3 w3 w1.heap.size (.int .i64 t.s) (.slice sa t.ps.length sc) (.slice la t.cs.length lc)) := X5_2.out.later hb
    have V1_3 : Hid (Rd w3 a1 V) := ho.rd'.2
    clear B_2 RT_2 WS_2 X5_2 hb
    clear ho
    obtain ⟨⟨uX50, uX51, uX52⟩, uX5z⟩ := id X5_3.out
    go_wp2_with fail
    clear uX50 uX51 uX52 uX5z
    refine (QS.out _ ⟨RT_3.out, WS_3.out⟩).mono ?_
    rintro e w4 ⟨a2, c2, rfl, ho, hb⟩
    have z3 : w3.heap.size ≤ w4.heap.size := hb.size
    have B_4 : Hid (Below w.heap.size w w4) := B_3.out.trans (hb.mono B_3.out.size)
    have RT_4 : Hid (RdT w4 sa t.ps.length sc la t.cs.length lc t) := RT_3.out.later hb
    have WS_4 : Hid (Rd w4 wo ws) := WS_3.out.later hb
    have X5_4 : Hid (X3 w4 w1.heap.size (.int .i64 t.s) (.slice sa t.ps.length sc) (.slice la t.cs.length lc)) := X5_3.out.later hb
    have V1_4 : Hid (Rd w4 a1 V) := V1_3.out.later hb
    have V2_4 : Hid (Rd w4 a2 V) := ho.rd'.2
    clear B_3 RT_3 WS_3 X5_3 V1_3 hb
    clear ho
    clear RT_4
    clear X5_4
    go_wp2_with fail
    refine (sameInts_c a1 a2 nv nv c1 c2 V V _ HVl.out HVl.out (by omega) (by omega) V1_4.out V2_4.out).mono ?_
    rw [decide_eq_true rfl]
    rintro e w5 ⟨rfl, hb⟩
    have z4 : w4.heap.size ≤ w5.heap.size := hb.size
    have B_5 : Hid (Below w.heap.size w w5) := B_4.out.trans (hb.mono B_4.out.size)
    have WS_5 : Hid (Rd w5 wo ws) := WS_4.out.later hb
    have V1_5 : Hid (Rd w5 a1 V) := V1_4.out.later hb
    clear B_4 WS_4 V1_4 V2_4 hb
    clear V1_5
    clear WS_5
    clear QI QS
    go_wp2_with fail
    refine (drawWay_c bo m d _ hm (HM.out.later B_5.out B_5.out.size)).mono ?_
    rintro e w6 ⟨⟨f, ps, cs⟩, sb, sd, lb, ld, ga, gb, rfl, hts, hrd, hsm, hb⟩
    have z5 : w5.heap.size ≤ w6.heap.size := hb.size
    have B_6 : Hid (Below w.heap.size w w6) := B_5.out.trans (hb.mono B_5.out.size)
    clear B_5 hb
    obtain ⟨sU, hsU⟩ : ∃ k : Nat, f = k := ⟨f.toNat, by have h9 : (0 : Int) ≤ f := hts.1; omega⟩
    subst hsU
    have hs7 : sU ≤ 7 := by have h9 : (sU : Int) ≤ 7 := hts.2; omega
    have RU_6 : Hid (RdT w6 sb ps.length sd lb cs.length ld ⟨(sU : Int), ps, cs⟩) := hrd
    clear hts hrd hsm
    obtain ⟨WV, hWV⟩ : ∃ V, wayV ⟨(sU : Int), ps, cs⟩ ga gb = V := ⟨_, rfl⟩
    obtain ⟨nw, hnw⟩ : ∃ k, WV.length = k := ⟨_, rfl⟩
    have hnw1 : nw ≤ 1000 := by rw [← hnw, ← hWV]; exact wayV_short _ _ _
    obtain ⟨one, hone⟩ : ∃ b, wayB ⟨(sU : Int), ps, cs⟩ ga gb = b := ⟨_, rfl⟩
    obtain ⟨G, hG⟩ : ∃ G, grpV ⟨(sU : Int), ps, cs⟩ = G := ⟨_, rfl⟩
    obtain ⟨ng, hng⟩ : ∃ k, G.length = k := ⟨_, rfl⟩
    have hone2 : one = true → nw < sU := fun e => by
      rw [← hone] at e
      have h9 : ((wayV ⟨(sU : Int), ps, cs⟩ ga gb).length : Int) < (sU : Int) := way_less e
      rw [hWV, hnw] at h9
      omega
    have hG6 : ng ≤ 6 ∧ ∀ l ∈ G, l.length ≤ 6 := by
      rw [← hng, ← hG]
      cases h9 : goodTb ⟨(sU : Int), ps, cs⟩
      · unfold grpV; rw [if_neg (by rw [h9]; decide)]; exact ⟨by simp, fun l hl => absurd hl (by simp)⟩
      · have h8 := grp_told h9; exact ⟨h8.1, h8.2.1⟩
    have QWI : Hid (∀ wx, RdT wx sb ps.length sd lb cs.length ld ⟨(sU : Int), ps, cs⟩ → Calls Try.prog 14 #[.agg #[.int .i64 sU, .slice sb ps.length sd, .slice lb cs.length ld], .int .i64 ga, .int .i64 gb] wx fun e w' => ∃ a' c', e = .returned (.tuple #[.slice a' nw c', .bool one]) ∧ Own w' wx.heap.size (.slice a' nw c') WV ∧ Below wx.heap.size wx w') := fun wx h => by
      have q := implWay_c sb _ sd lb _ ld ⟨(sU : Int), ps, cs⟩ ga gb wx h
      unfold TellI at q
      rw [hWV, hnw, hone] at q
      exact q
    have QWS : Hid (∀ wx, RdT wx sb ps.length sd lb cs.length ld ⟨(sU : Int), ps, cs⟩ → Calls Try.prog 24 #[.agg #[.int .i64 sU, .slice sb ps.length sd, .slice lb cs.length ld], .int .i64 ga, .int .i64 gb] wx fun e w' => ∃ a' c', e = .returned (.tuple #[.slice a' nw c', .bool one]) ∧ Own w' wx.heap.size (.slice a' nw c') WV ∧ Below wx.heap.size wx w') := fun wx h => by
      have q := specWay_c sb _ sd lb _ ld ⟨(sU : Int), ps, cs⟩ ga gb wx h
      unfold TellI at q
      rw [hWV, hnw, hone] at q
      exact q
    cases h3 : goodTb ⟨(sU : Int), ps, cs⟩
    · have QGI : Hid (∀ wx, RdT wx sb ps.length sd lb cs.length ld ⟨(sU : Int), ps, cs⟩ → Calls Try.prog 25 #[.agg #[.int .i64 sU, .slice sb ps.length sd, .slice lb cs.length ld]] wx fun e w' => ∃ a' c', e = .returned (.tuple #[.slice a' ng c', .bool false]) ∧ RdNN w' a' G ∧ Below wx.heap.size wx w') := fun wx h => by
        have q := implGroups_c sb _ sd lb _ ld ⟨(sU : Int), ps, cs⟩ wx h
        unfold TellII at q
        rw [hG, hng, h3] at q
        refine q.mono ?_
        rintro e w' ⟨a', c', h1, h2, h3⟩
        exact ⟨a', c', h1, h2.nn, h3⟩
      have QGS : Hid (∀ wx, RdT wx sb ps.length sd lb cs.length ld ⟨(sU : Int), ps, cs⟩ → Calls Try.prog 26 #[.agg #[.int .i64 sU, .slice sb ps.length sd, .slice lb cs.length ld]] wx fun e w' => ∃ a' c', e = .returned (.tuple #[.slice a' ng c', .bool false]) ∧ RdNN w' a' G ∧ Below wx.heap.size wx w') := fun wx h => by
        have q := specGroups_c sb _ sd lb _ ld ⟨(sU : Int), ps, cs⟩ wx h
        unfold TellII at q
        rw [hG, hng, h3] at q
        refine q.mono ?_
        rintro e w' ⟨a', c', h1, h2, h3⟩
        exact ⟨a', c', h1, h2.nn, h3⟩
      have HWV : Hid (WV.length = nw) := hnw
      have HGl : Hid (G.length = ng) := hng
      have HGr : Hid (∀ l ∈ G, l.length ≤ 6) := hG6.2
      have hng6 := hG6.1
      have hoo : (one != one) = false := by simp
      clear hone2 hG6 hWV hnw hone hG hng h3
      obtain ⟨w7, hA6⟩ : ∃ X, w6.alloc (.cells #[.int .i64 sU, .slice sb ps.length sd, .slice lb cs.length ld] 26) = X := ⟨_, rfl⟩
      have hb : Below w6.heap.size w6 w7 := by rw [← hA6]; exact balloc w6 _
      have B_7 : Hid (Below w.heap.size w w7) := B_6.out.trans (hb.mono B_6.out.size)
      have RU_7 : Hid (RdT w7 sb ps.length sd lb cs.length ld ⟨(sU : Int), ps, cs⟩) := RU_6.out.later hb
      have z6 : w6.heap.size ≤ w7.heap.size := hb.size
      clear B_6 RU_6
      clear hb
      have X15_7 : Hid (X3 w7 w6.heap.size (.int .i64 sU) (.slice sb ps.length sd) (.slice lb cs.length ld)) := by rw [← hA6]; exact x3_new w6 _ _ _ _ _ rfl
      obtain ⟨⟨uX150, uX151, uX152⟩, uX15z⟩ := id X15_7.out
      go_wp2_with fail
      clear uX150 uX151 uX152 uX15z
      clear hA6
      refine (QWI.out _ RU_7.out).mono ?_
      rintro e w8 ⟨a3, c3, rfl, ho, hb⟩
      have z7 : w7.heap.size ≤ w8.heap.size := hb.size
      have B_8 : Hid (Below w.heap.size w w8) := B_7.out.trans (hb.mono B_7.out.size)
      have RU_8 : Hid (RdT w8 sb ps.length sd lb cs.length ld ⟨(sU : Int), ps, cs⟩) := RU_7.out.later hb
      have X15_8 : Hid (X3 w8 w6.heap.size (.int .i64 sU) (.slice sb ps.length sd) (.slice lb cs.length ld)) := X15_7.out.later hb
      have W3_8 : Hid (Rd w8 a3 WV) := ho.rd'.2
      clear B_7 RU_7 X15_7 hb
      clear ho
      obtain ⟨⟨uX150, uX151, uX152⟩, uX15z⟩ := id X15_8.out
      go_wp2_with fail
      clear uX150 uX151 uX152 uX15z
      refine (QWS.out _ RU_8.out).mono ?_
      rintro e w9 ⟨a4, c4, rfl, ho, hb⟩
      have z8 : w8.heap.size ≤ w9.heap.size := hb.size
      have B_9 : Hid (Below w.heap.size w w9) := B_8.out.trans (hb.mono B_8.out.size)
      have RU_9 : Hid (RdT w9 sb ps.length sd lb cs.length ld ⟨(sU : Int), ps, cs⟩) := RU_8.out.later hb
      have X15_9 : Hid (X3 w9 w6.heap.size (.int .i64 sU) (.slice sb ps.length sd) (.slice lb cs.length ld)) := X15_8.out.later hb
      have W3_9 : Hid (Rd w9 a3 WV) := W3_8.out.later hb
      have W4_9 : Hid (Rd w9 a4 WV) := ho.rd'.2
      clear B_8 RU_8 X15_8 W3_8 hb
      clear ho
      obtain ⟨⟨uX150, uX151, uX152⟩, uX15z⟩ := id X15_9.out
      go_wp2_with fail
      clear uX150 uX151 uX152 uX15z
      refine (QGI.out _ RU_9.out).mono ?_
      rintro e w10 ⟨a5, c5, rfl, ho, hb⟩
      have z9 : w9.heap.size ≤ w10.heap.size := hb.size
      have B_10 : Hid (Below w.heap.size w w10) := B_9.out.trans (hb.mono B_9.out.size)
      have RU_10 : Hid (RdT w10 sb ps.length sd lb cs.length ld ⟨(sU : Int), ps, cs⟩) := RU_9.out.later hb
      have X15_10 : Hid (X3 w10 w6.heap.size (.int .i64 sU) (.slice sb ps.length sd) (.slice lb cs.length ld)) := X15_9.out.later hb
      have W3_10 : Hid (Rd w10 a3 WV) := W3_9.out.later hb
      have W4_10 : Hid (Rd w10 a4 WV) := W4_9.out.later hb
      have G5_10 : Hid (RdNN w10 a5 G) := ho
      clear B_9 RU_9 X15_9 W3_9 W4_9 hb
      clear ho
      obtain ⟨⟨uX150, uX151, uX152⟩, uX15z⟩ := id X15_10.out
      go_wp2_with fail
      clear uX150 uX151 uX152 uX15z
      refine (QGS.out _ RU_10.out).mono ?_
      rintro e w11 ⟨a6, c6, rfl, ho, hb⟩
      have z10 : w10.heap.size ≤ w11.heap.size := hb.size
      have B_11 : Hid (Below w.heap.size w w11) := B_10.out.trans (hb.mono B_10.out.size)
      have RU_11 : Hid (RdT w11 sb ps.length sd lb cs.length ld ⟨(sU : Int), ps, cs⟩) := RU_10.out.later hb
      have X15_11 : Hid (X3 w11 w6.heap.size (.int .i64 sU) (.slice sb ps.length sd) (.slice lb cs.length ld)) := X15_10.out.later hb
      have W3_11 : Hid (Rd w11 a3 WV) := W3_10.out.later hb
      have W4_11 : Hid (Rd w11 a4 WV) := W4_10.out.later hb
      have G5_11 : Hid (RdNN w11 a5 G) := G5_10.out.later hb
      have G6_11 : Hid (RdNN w11 a6 G) := ho
      clear B_10 RU_10 X15_10 W3_10 W4_10 G5_10 hb
      clear ho
      clear RU_11
      go_wp2_with fail
      refine (sameInts_c a3 a4 nw nw c3 c4 WV WV _ HWV.out HWV.out (by omega) (by omega) W3_11.out W4_11.out).mono ?_
      rw [decide_eq_true rfl]
      rintro e w12 ⟨rfl, hb⟩
      have z11 : w11.heap.size ≤ w12.heap.size := hb.size
      have B_12 : Hid (Below w.heap.size w w12) := B_11.out.trans (hb.mono B_11.out.size)
      have X15_12 : Hid (X3 w12 w6.heap.size (.int .i64 sU) (.slice sb ps.length sd) (.slice lb cs.length ld)) := X15_11.out.later hb
      have G5_12 : Hid (RdNN w12 a5 G) := G5_11.out.later hb
      have G6_12 : Hid (RdNN w12 a6 G) := G6_11.out.later hb
      clear B_11 X15_11 W3_11 W4_11 G5_11 G6_11 hb
      go_wp2_with fail
      refine (sameRows_c a5 a6 ng c5 c6 G _ HGl.out (by omega) (fun l hl => by have := HGr.out l hl; omega) G5_12.out.ii G6_12.out.ii).mono ?_
      rintro e w13 ⟨rfl, hb⟩
      have z12 : w12.heap.size ≤ w13.heap.size := hb.size
      have B_13 : Hid (Below w.heap.size w w13) := B_12.out.trans (hb.mono B_12.out.size)
      have X15_13 : Hid (X3 w13 w6.heap.size (.int .i64 sU) (.slice sb ps.length sd) (.slice lb cs.length ld)) := X15_12.out.later hb
      have G5_13 : Hid (RdNN w13 a5 G) := G5_12.out.later hb
      clear B_12 X15_12 G5_12 G6_12 hb
      clear QWI QWS QGI QGS
      clear G5_13
      clear X15_13
      go_wp2_with fail
      refine (drawSum_c bo m d _ hm (HM.out.later B_13.out B_13.out.size)).mono ?_
      rintro e w14 ⟨l3, a9, c9, rfl, hl8, ho, hb⟩
      have z13 : w13.heap.size ≤ w14.heap.size := hb.size
      have B_14 : Hid (Below w.heap.size w w14) := B_13.out.trans (hb.mono B_13.out.size)
      have L3_14 : Hid (Rd w14 a9 l3) := ho.rd'.2
      clear B_13 hb
      clear ho
      obtain ⟨n3, hn3⟩ : ∃ k, l3.length = k := ⟨_, rfl⟩
      have HL3 : Hid (l3.length = n3) := hn3
      obtain ⟨p3, hp3⟩ : ∃ p, sumF l3 = p := ⟨_, rfl⟩
      obtain ⟨r3, b3⟩ := p3
      rw [hn3] at hl8 ⊢
      clear hn3
      have RI : Hid (∀ wx, Rd wx a9 l3 → Calls Try.prog 11 #[.slice a9 n3 c9] wx fun e w' => e = .returned (.tuple #[.int .i64 r3, .bool b3]) ∧ Below wx.heap.size wx w') := fun wx h => by
        have q := implSumF_c a9 n3 c9 l3 wx HL3.out (by omega) h r3 b3 hp3
        exact q
      have RS : Hid (∀ wx, Rd wx a9 l3 → Calls Try.prog 30 #[.slice a9 n3 c9] wx fun e w' => e = .returned (.tuple #[.int .i64 r3, .bool b3]) ∧ Below wx.heap.size wx w') := fun wx h => by
        have q := specSumF_c a9 n3 c9 l3 wx HL3.out (by omega) h r3 b3 hp3
        exact q
      clear hp3
      have h3r : (r3 == r3) = true := by simp
      have h3b : (b3 == b3) = true := by simp
      go_wp2_with fail
      refine (RI.out _ L3_14.out).mono ?_
      rintro e w15 ⟨rfl, hb⟩
      have z14 : w14.heap.size ≤ w15.heap.size := hb.size
      have B_15 : Hid (Below w.heap.size w w15) := B_14.out.trans (hb.mono B_14.out.size)
      have L3_15 : Hid (Rd w15 a9 l3) := L3_14.out.later hb
      clear B_14 L3_14 hb
      go_wp2_with fail
      refine (RS.out _ L3_15.out).mono ?_
      rintro e w16 ⟨rfl, hb⟩
      have z15 : w15.heap.size ≤ w16.heap.size := hb.size
      have B_16 : Hid (Below w.heap.size w w16) := B_15.out.trans (hb.mono B_15.out.size)
      have L3_16 : Hid (Rd w16 a9 l3) := L3_15.out.later hb
      clear B_15 L3_15 hb
      go_wp2
      go_ret
      exact ⟨rfl, B_16.out⟩
    · have QGI : Hid (∀ wx, RdT wx sb ps.length sd lb cs.length ld ⟨(sU : Int), ps, cs⟩ → Calls Try.prog 25 #[.agg #[.int .i64 sU, .slice sb ps.length sd, .slice lb cs.length ld]] wx fun e w' => ∃ a' c', e = .returned (.tuple #[.slice a' ng c', .bool true]) ∧ RdNN w' a' G ∧ Below wx.heap.size wx w') := fun wx h => by
        have q := implGroups_c sb _ sd lb _ ld ⟨(sU : Int), ps, cs⟩ wx h
        unfold TellII at q
        rw [hG, hng, h3] at q
        refine q.mono ?_
        rintro e w' ⟨a', c', h1, h2, h3⟩
        exact ⟨a', c', h1, h2.nn, h3⟩
      have QGS : Hid (∀ wx, RdT wx sb ps.length sd lb cs.length ld ⟨(sU : Int), ps, cs⟩ → Calls Try.prog 26 #[.agg #[.int .i64 sU, .slice sb ps.length sd, .slice lb cs.length ld]] wx fun e w' => ∃ a' c', e = .returned (.tuple #[.slice a' ng c', .bool true]) ∧ RdNN w' a' G ∧ Below wx.heap.size wx w') := fun wx h => by
        have q := specGroups_c sb _ sd lb _ ld ⟨(sU : Int), ps, cs⟩ wx h
        unfold TellII at q
        rw [hG, hng, h3] at q
        refine q.mono ?_
        rintro e w' ⟨a', c', h1, h2, h3⟩
        exact ⟨a', c', h1, h2.nn, h3⟩
      have HWV : Hid (WV.length = nw) := hnw
      have HGl : Hid (G.length = ng) := hng
      have HGr : Hid (∀ l ∈ G, l.length ≤ 6) := hG6.2
      have hng6 := hG6.1
      have hoo : (one != one) = false := by simp
      obtain ⟨_, _, ht3, ht4⟩ := grp_told h3
      rw [hG] at ht3 ht4
      rw [hng] at ht3 ht4
      have HS : Hid (((sumLen G ng : Nat) : Int) = (sU : Int)) := ht3
      have HT : Hid (∀ k, k < ng → ga ∈ G.getD k [] → 0 ≤ gb → gb < (sU : Int) → decide (gb ∈ G.getD k []) = one) := fun k hk ha hb0 hb1 => by rw [← hone]; exact ht4 k hk ga gb ha hb0 hb1
      have HON : Hid (one = true → nw < sU) := hone2
      clear ht3 ht4
      clear hone2 hG6 hWV hnw hone hG hng h3
      obtain ⟨w7, hA6⟩ : ∃ X, w6.alloc (.cells #[.int .i64 sU, .slice sb ps.length sd, .slice lb cs.length ld] 26) = X := ⟨_, rfl⟩
      have hb : Below w6.heap.size w6 w7 := by rw [← hA6]; exact balloc w6 _
      have B_7 : Hid (Below w.heap.size w w7) := B_6.out.trans (hb.mono B_6.out.size)
      have RU_7 : Hid (RdT w7 sb ps.length sd lb cs.length ld ⟨(sU : Int), ps, cs⟩) := RU_6.out.later hb
      have z6 : w6.heap.size ≤ w7.heap.size := hb.size
      clear B_6 RU_6
      clear hb
      have X15_7 : Hid (X3 w7 w6.heap.size (.int .i64 sU) (.slice sb ps.length sd) (.slice lb cs.length ld)) := by rw [← hA6]; exact x3_new w6 _ _ _ _ _ rfl
      obtain ⟨⟨uX150, uX151, uX152⟩, uX15z⟩ := id X15_7.out
      go_wp2_with fail
      clear uX150 uX151 uX152 uX15z
      clear hA6
      refine (QWI.out _ RU_7.out).mono ?_
      rintro e w8 ⟨a3, c3, rfl, ho, hb⟩
      have z7 : w7.heap.size ≤ w8.heap.size := hb.size
      have B_8 : Hid (Below w.heap.size w w8) := B_7.out.trans (hb.mono B_7.out.size)
      have RU_8 : Hid (RdT w8 sb ps.length sd lb cs.length ld ⟨(sU : Int), ps, cs⟩) := RU_7.out.later hb
      have X15_8 : Hid (X3 w8 w6.heap.size (.int .i64 sU) (.slice sb ps.length sd) (.slice lb cs.length ld)) := X15_7.out.later hb
      have W3_8 : Hid (Rd w8 a3 WV) := ho.rd'.2
      clear B_7 RU_7 X15_7 hb
      clear ho
      obtain ⟨⟨uX150, uX151, uX152⟩, uX15z⟩ := id X15_8.out
      go_wp2_with fail
      clear uX150 uX151 uX152 uX15z
      refine (QWS.out _ RU_8.out).mono ?_
      rintro e w9 ⟨a4, c4, rfl, ho, hb⟩
      have z8 : w8.heap.size ≤ w9.heap.size := hb.size
      have B_9 : Hid (Below w.heap.size w w9) := B_8.out.trans (hb.mono B_8.out.size)
      have RU_9 : Hid (RdT w9 sb ps.length sd lb cs.length ld ⟨(sU : Int), ps, cs⟩) := RU_8.out.later hb
      have X15_9 : Hid (X3 w9 w6.heap.size (.int .i64 sU) (.slice sb ps.length sd) (.slice lb cs.length ld)) := X15_8.out.later hb
      have W3_9 : Hid (Rd w9 a3 WV) := W3_8.out.later hb
      have W4_9 : Hid (Rd w9 a4 WV) := ho.rd'.2
      clear B_8 RU_8 X15_8 W3_8 hb
      clear ho
      obtain ⟨⟨uX150, uX151, uX152⟩, uX15z⟩ := id X15_9.out
      go_wp2_with fail
      clear uX150 uX151 uX152 uX15z
      refine (QGI.out _ RU_9.out).mono ?_
      rintro e w10 ⟨a5, c5, rfl, ho, hb⟩
      have z9 : w9.heap.size ≤ w10.heap.size := hb.size
      have B_10 : Hid (Below w.heap.size w w10) := B_9.out.trans (hb.mono B_9.out.size)
      have RU_10 : Hid (RdT w10 sb ps.length sd lb cs.length ld ⟨(sU : Int), ps, cs⟩) := RU_9.out.later hb
      have X15_10 : Hid (X3 w10 w6.heap.size (.int .i64 sU) (.slice sb ps.length sd) (.slice lb cs.length ld)) := X15_9.out.later hb
      have W3_10 : Hid (Rd w10 a3 WV) := W3_9.out.later hb
      have W4_10 : Hid (Rd w10 a4 WV) := W4_9.out.later hb
      have G5_10 : Hid (RdNN w10 a5 G) := ho
      clear B_9 RU_9 X15_9 W3_9 W4_9 hb
      clear ho
      obtain ⟨⟨uX150, uX151, uX152⟩, uX15z⟩ := id X15_10.out
      go_wp2_with fail
      clear uX150 uX151 uX152 uX15z
      refine (QGS.out _ RU_10.out).mono ?_
      rintro e w11 ⟨a6, c6, rfl, ho, hb⟩
      have z10 : w10.heap.size ≤ w11.heap.size := hb.size
      have B_11 : Hid (Below w.heap.size w w11) := B_10.out.trans (hb.mono B_10.out.size)
      have RU_11 : Hid (RdT w11 sb ps.length sd lb cs.length ld ⟨(sU : Int), ps, cs⟩) := RU_10.out.later hb
      have X15_11 : Hid (X3 w11 w6.heap.size (.int .i64 sU) (.slice sb ps.length sd) (.slice lb cs.length ld)) := X15_10.out.later hb
      have W3_11 : Hid (Rd w11 a3 WV) := W3_10.out.later hb
      have W4_11 : Hid (Rd w11 a4 WV) := W4_10.out.later hb
      have G5_11 : Hid (RdNN w11 a5 G) := G5_10.out.later hb
      have G6_11 : Hid (RdNN w11 a6 G) := ho
      clear B_10 RU_10 X15_10 W3_10 W4_10 G5_10 hb
      clear ho
      clear RU_11
      go_wp2_with fail
      refine (sameInts_c a3 a4 nw nw c3 c4 WV WV _ HWV.out HWV.out (by omega) (by omega) W3_11.out W4_11.out).mono ?_
      rw [decide_eq_true rfl]
      rintro e w12 ⟨rfl, hb⟩
      have z11 : w11.heap.size ≤ w12.heap.size := hb.size
      have B_12 : Hid (Below w.heap.size w w12) := B_11.out.trans (hb.mono B_11.out.size)
      have X15_12 : Hid (X3 w12 w6.heap.size (.int .i64 sU) (.slice sb ps.length sd) (.slice lb cs.length ld)) := X15_11.out.later hb
      have G5_12 : Hid (RdNN w12 a5 G) := G5_11.out.later hb
      have G6_12 : Hid (RdNN w12 a6 G) := G6_11.out.later hb
      clear B_11 X15_11 W3_11 W4_11 G5_11 G6_11 hb
      go_wp2_with fail
      refine (sameRows_c a5 a6 ng c5 c6 G _ HGl.out (by omega) (fun l hl => by have := HGr.out l hl; omega) G5_12.out.ii G6_12.out.ii).mono ?_
      rintro e w13 ⟨rfl, hb⟩
      have z12 : w12.heap.size ≤ w13.heap.size := hb.size
      have B_13 : Hid (Below w.heap.size w w13) := B_12.out.trans (hb.mono B_12.out.size)
      have X15_13 : Hid (X3 w13 w6.heap.size (.int .i64 sU) (.slice sb ps.length sd) (.slice lb cs.length ld)) := X15_12.out.later hb
      have G5_13 : Hid (RdNN w13 a5 G) := G5_12.out.later hb
      clear B_12 X15_12 G5_12 G6_12 hb
      clear QWI QWS QGI QGS
      obtain ⟨⟨u0, u1, u2⟩, uz⟩ := id X15_13.out
      go_wp2
      go_loop [26, 141] (fun nv iv => ∃ k : Nat, k ≤ ng ∧ iv = .int .i64 k ∧ nv = .int .i64 ((sumLen G k : Nat) : Int) ∧ sumLen G k ≤ 6 * k) (fun _ iv => ng - (intOf iv).toNat)
      case atStart => exact ⟨0, Nat.zero_le _, rfl, by rw [sumLen_zero]; rfl, by rw [sumLen_zero]; omega⟩
      case round =>
        obtain ⟨k, hk, rfl, rfl, hsl⟩ := hrel
        by_cases hlt : k < ng
        · have k0 : (0 : Int) ≤ (k : Int) := by omega
          have k1 : (k : Int) < (ng : Int) := by omega
          have hkl : k < G.length := by rw [HGl.out]; exact hlt
          obtain ⟨b1, o1, ro, rc, rfl, g1, hro, _⟩ := G5_13.out.get hkl
          have hsu := sumLen_succ hkl
          have hrl := HGr.out _ (mem_getD [] hkl)
          have hT := HT.out k hlt
          generalize G.getD k [] = row at g1 hro hsu hrl hT
          obtain ⟨rn, hrn⟩ : ∃ k, row.length = k := ⟨_, rfl⟩
          have HRN : Hid (row.length = rn) := hrn
          rw [hrn] at g1 hsu hrl
          have HRO : Hid (Rd w13 ro row) := hro
          have HSU : Hid (sumLen G (k + 1) = sumLen G k + rn) := hsu
          have hlim : sumLen G k + rn ≤ 60 := by omega
          have hsl2 : sumLen G (k + 1) ≤ 6 * (k + 1) := by omega
          clear hro hrn hsu hkl
          by_cases hA : ga ∈ row
          · have HA : Hid (ga ∈ row) := hA
            go_wp2_with fail
            refine (lhas_c ro rn rc ga row _ HRN.out (by omega) HRO.out).mono ?_
            rw [decide_eq_true HA.out]
            rintro e wz ⟨rfl, hz⟩
            subst wz
            by_cases hgb : 0 ≤ gb ∧ gb < (sU : Int)
            · have hq := hT hA hgb.1 hgb.2
              clear hA hT
              go_wp2_with fail
              refine (lhas_c ro rn rc gb row _ HRN.out (by omega) HRO.out).mono ?_
              rw [hq]
              rintro e wz ⟨rfl, hz⟩
              subst wz
              clear hq
              go_wp2
              go_round
              case rel => exact ⟨k + 1, by omega, by go_num, by rw [HSU.out]; go_num, hsl2⟩
              case measure => simp [intOf]; omega
            · clear hA hT
              go_wp2_with fail
              refine (lhas_c ro rn rc gb row _ HRN.out (by omega) HRO.out).mono ?_
              generalize decide (gb ∈ row) = qq
              rintro e wz ⟨rfl, hz⟩
              subst wz
              have hgb2 : ¬ (0 ≤ gb) ∨ (0 ≤ gb ∧ ¬ gb < (sU : Int)) := by omega
              clear hgb HT HON hoo
              rcases hgb2 with hgb2 | ⟨hgb2, hgb3⟩ <;> cases qq <;> cases one
              · go_wp2
                go_round
                case rel => exact ⟨k + 1, by omega, by go_num, by rw [HSU.out]; go_num, hsl2⟩
                case measure => simp [intOf]; omega
              · go_wp2
                go_round
                case rel => exact ⟨k + 1, by omega, by go_num, by rw [HSU.out]; go_num, hsl2⟩
                case measure => simp [intOf]; omega
              · go_wp2
                go_round
                case rel => exact ⟨k + 1, by omega, by go_num, by rw [HSU.out]; go_num, hsl2⟩
                case measure => simp [intOf]; omega
              · go_wp2
                go_round
                case rel => exact ⟨k + 1, by omega, by go_num, by rw [HSU.out]; go_num, hsl2⟩
                case measure => simp [intOf]; omega
              · go_wp2
                go_round
                case rel => exact ⟨k + 1, by omega, by go_num, by rw [HSU.out]; go_num, hsl2⟩
                case measure => simp [intOf]; omega
              · go_wp2
                go_round
                case rel => exact ⟨k + 1, by omega, by go_num, by rw [HSU.out]; go_num, hsl2⟩
                case measure => simp [intOf]; omega
              · go_wp2
                go_round
                case rel => exact ⟨k + 1, by omega, by go_num, by rw [HSU.out]; go_num, hsl2⟩
                case measure => simp [intOf]; omega
              · go_wp2
                go_round
                case rel => exact ⟨k + 1, by omega, by go_num, by rw [HSU.out]; go_num, hsl2⟩
                case measure => simp [intOf]; omega
          · have HA : Hid (¬ ga ∈ row) := hA
            clear hA hT
            go_wp2_with fail
            refine (lhas_c ro rn rc ga row _ HRN.out (by omega) HRO.out).mono ?_
            rw [decide_eq_false HA.out]
            rintro e wz ⟨rfl, hz⟩
            subst wz
            go_wp2
            go_round
            case rel => exact ⟨k + 1, by omega, by go_num, by rw [HSU.out]; go_num, hsl2⟩
            case measure => simp [intOf]; omega
        · obtain rfl : k = ng := by omega
          have hkk : ¬ (k : Int) < (k : Int) := by omega
          rw [HS.out]
          have huu : ((sU : Int) != (sU : Int)) = false := by simp
          cases one
          · go_wp2_with fail
            clear u0 u1 u2 uz HT HON HS
            clear G5_13
            clear X15_13
            refine (drawSum_c bo m d _ hm (HM.out.later B_13.out B_13.out.size)).mono ?_
            rintro e w14 ⟨l3, a9, c9, rfl, hl8, ho, hb⟩
            have z13 : w13.heap.size ≤ w14.heap.size := hb.size
            have B_14 : Hid (Below w.heap.size w w14) := B_13.out.trans (hb.mono B_13.out.size)
            have L3_14 : Hid (Rd w14 a9 l3) := ho.rd'.2
            clear B_13 hb
            clear ho
            obtain ⟨n3, hn3⟩ : ∃ k, l3.length = k := ⟨_, rfl⟩
            have HL3 : Hid (l3.length = n3) := hn3
            obtain ⟨p3, hp3⟩ : ∃ p, sumF l3 = p := ⟨_, rfl⟩
            obtain ⟨r3, b3⟩ := p3
            rw [hn3] at hl8 ⊢
            clear hn3
            have RI : Hid (∀ wx, Rd wx a9 l3 → Calls Try.prog 11 #[.slice a9 n3 c9] wx fun e w' => e = .returned (.tuple #[.int .i64 r3, .bool b3]) ∧ Below wx.heap.size wx w') := fun wx h => by
              have q := implSumF_c a9 n3 c9 l3 wx HL3.out (by omega) h r3 b3 hp3
              exact q
            have RS : Hid (∀ wx, Rd wx a9 l3 → Calls Try.prog 30 #[.slice a9 n3 c9] wx fun e w' => e = .returned (.tuple #[.int .i64 r3, .bool b3]) ∧ Below wx.heap.size wx w') := fun wx h => by
              have q := specSumF_c a9 n3 c9 l3 wx HL3.out (by omega) h r3 b3 hp3
              exact q
            clear hp3
            have h3r : (r3 == r3) = true := by simp
            have h3b : (b3 == b3) = true := by simp
            go_wp2_with fail
            refine (RI.out _ L3_14.out).mono ?_
            rintro e w15 ⟨rfl, hb⟩
            have z14 : w14.heap.size ≤ w15.heap.size := hb.size
            have B_15 : Hid (Below w.heap.size w w15) := B_14.out.trans (hb.mono B_14.out.size)
            have L3_15 : Hid (Rd w15 a9 l3) := L3_14.out.later hb
            clear B_14 L3_14 hb
            go_wp2_with fail
            refine (RS.out _ L3_15.out).mono ?_
            rintro e w16 ⟨rfl, hb⟩
            have z15 : w15.heap.size ≤ w16.heap.size := hb.size
            have B_16 : Hid (Below w.heap.size w w16) := B_15.out.trans (hb.mono B_15.out.size)
            have L3_16 : Hid (Rd w16 a9 l3) := L3_15.out.later hb
            clear B_15 L3_15 hb
            go_wp2
            go_ret
            exact ⟨rfl, B_16.out⟩
          · have hlt9 := HON.out rfl
            have hge : ¬ (sU : Int) ≤ (nw : Int) := by omega
            go_wp2_with fail
            clear u0 u1 u2 uz HT HON HS
            clear G5_13
            clear X15_13
            refine (drawSum_c bo m d _ hm (HM.out.later B_13.out B_13.out.size)).mono ?_
            rintro e w14 ⟨l3, a9, c9, rfl, hl8, ho, hb⟩
            have z13 : w13.heap.size ≤ w14.heap.size := hb.size
            have B_14 : Hid (Below w.heap.size w w14) := B_13.out.trans (hb.mono B_13.out.size)
            have L3_14 : Hid (Rd w14 a9 l3) := ho.rd'.2
            clear B_13 hb
            clear ho
            obtain ⟨n3, hn3⟩ : ∃ k, l3.length = k := ⟨_, rfl⟩
            have HL3 : Hid (l3.length = n3) := hn3
            obtain ⟨p3, hp3⟩ : ∃ p, sumF l3 = p := ⟨_, rfl⟩
            obtain ⟨r3, b3⟩ := p3
            rw [hn3] at hl8 ⊢
            clear hn3
            have RI : Hid (∀ wx, Rd wx a9 l3 → Calls Try.prog 11 #[.slice a9 n3 c9] wx fun e w' => e = .returned (.tuple #[.int .i64 r3, .bool b3]) ∧ Below wx.heap.size wx w') := fun wx h => by
              have q := implSumF_c a9 n3 c9 l3 wx HL3.out (by omega) h r3 b3 hp3
              exact q
            have RS : Hid (∀ wx, Rd wx a9 l3 → Calls Try.prog 30 #[.slice a9 n3 c9] wx fun e w' => e = .returned (.tuple #[.int .i64 r3, .bool b3]) ∧ Below wx.heap.size wx w') := fun wx h => by
              have q := specSumF_c a9 n3 c9 l3 wx HL3.out (by omega) h r3 b3 hp3
              exact q
            clear hp3
            have h3r : (r3 == r3) = true := by simp
            have h3b : (b3 == b3) = true := by simp
            go_wp2_with fail
            refine (RI.out _ L3_14.out).mono ?_
            rintro e w15 ⟨rfl, hb⟩
            have z14 : w14.heap.size ≤ w15.heap.size := hb.size
            have B_15 : Hid (Below w.heap.size w w15) := B_14.out.trans (hb.mono B_14.out.size)
            have L3_15 : Hid (Rd w15 a9 l3) := L3_14.out.later hb
            clear B_14 L3_14 hb
            go_wp2_with fail
            refine (RS.out _ L3_15.out).mono ?_
            rintro e w16 ⟨rfl, hb⟩
            have z15 : w15.heap.size ≤ w16.heap.size := hb.size
            have B_16 : Hid (Below w.heap.size w w16) := B_15.out.trans (hb.mono B_15.out.size)
            have L3_16 : Hid (Rd w16 a9 l3) := L3_15.out.later hb
            clear B_15 L3_15 hb
            go_wp2
            go_ret
            exact ⟨rfl, B_16.out⟩
  · have QI : Hid (∀ wx, (RdT wx sa t.ps.length sc la t.cs.length lc t ∧ Rd wx wo ws) → Calls Try.prog 21 #[.agg #[.int .i64 t.s, .slice sa t.ps.length sc, .slice la t.cs.length lc], .slice wo nw0 wc] wx fun e w' => ∃ a' c', e = .returned (.tuple #[.slice a' nv c', .bool true]) ∧ Own w' wx.heap.size (.slice a' nv c') V ∧ Below wx.heap.size wx w') := fun wx h => by
      have q := implTog_c sa _ sc la _ lc t wo nw0 wc ws wx h.1 HWL.out (by omega) h.2 HWN.out
      unfold TellI at q
      rw [hV, hnv, hok] at q
      exact q
    have QS : Hid (∀ wx, (RdT wx sa t.ps.length sc la t.cs.length lc t ∧ Rd wx wo ws) → Calls Try.prog 22 #[.agg #[.int .i64 t.s, .slice sa t.ps.length sc, .slice la t.cs.length lc], .slice wo nw0 wc] wx fun e w' => ∃ a' c', e = .returned (.tuple #[.slice a' nv c', .bool true]) ∧ Own w' wx.heap.size (.slice a' nv c') V ∧ Below wx.heap.size wx w') := fun wx h => by
      have q := specTog_c sa _ sc la _ lc t wo nw0 wc ws wx h.1 HWL.out (by omega) h.2
      unfold TellI at q
      rw [hV, hnv, hok] at q
      exact q
    have HVl : Hid (V.length = nv) := hnv
    obtain ⟨hu1, hu2⟩ := tog_told hok
    rw [hV] at hu1
    obtain ⟨r, hr⟩ : ∃ r, sumX ws = r := ⟨_, rfl⟩
    rw [hr] at hu1 hu2
    have QU1 : Hid (∀ ax cx wx, Rd wx ax V → Calls Try.prog 11 #[.slice ax nv cx] wx fun e w' => e = .returned (.tuple #[.int .i64 r, .bool true]) ∧ Below wx.heap.size wx w') := fun ax cx wx h => by
      have q := implSumF_c ax nv cx V wx HVl.out (by omega) h r true hu1
      exact q
    have QU2 : Hid (∀ ax cx wx, Rd wx ax ws → Calls Try.prog 11 #[.slice ax nw0 cx] wx fun e w' => e = .returned (.tuple #[.int .i64 r, .bool true]) ∧ Below wx.heap.size wx w') := fun ax cx wx h => by
      have q := implSumF_c ax nw0 cx ws wx HWL.out (by omega) h r true hu2
      exact q
    clear hu1 hu2 hr
    clear hnv hV hok
    obtain ⟨w2, hA1⟩ : ∃ X, w1.alloc (.cells #[.int .i64 t.s, .slice sa t.ps.length sc, .slice la t.cs.length lc] 26) = X := ⟨_, rfl⟩
    have hb : Below w1.heap.size w1 w2 := by rw [← hA1]; exact balloc w1 _
    have B_2 : Hid (Below w.heap.size w w2) := B_1.out.trans (hb.mono B_1.out.size)
    have RT_2 : Hid (RdT w2 sa t.ps.length sc la t.cs.length lc t) := RT_1.out.later hb
    have WS_2 : Hid (Rd w2 wo ws) := WS_1.out.later hb
    have z1 : w1.heap.size ≤ w2.heap.size := hb.size
    clear B_1 RT_1 WS_1
    clear hb
    have X5_2 : Hid (X3 w2 w1.heap.size (.int .i64 t.s) (.slice sa t.ps.length sc) (.slice la t.cs.length lc)) := by rw [← hA1]; exact x3_new w1 _ _ _ _ _ rfl
    obtain ⟨⟨uX50, uX51, uX52⟩, uX5z⟩ := id X5_2.out
    go_wp2_with fail
    clear uX50 uX51 uX52 uX5z
    clear hA1
    refine (QI.out _ ⟨RT_2.out, WS_2.out⟩).mono ?_
    rintro e w3 ⟨a1, c1, rfl, ho, hb⟩
    have z2 : w2.heap.size ≤ w3.heap.size := hb.size
    have B_3 : Hid (Below w.heap.size w w3) := B_2.out.trans (hb.mono B_2.out.size)
    have RT_3 : Hid (RdT w3 sa t.ps.length sc la t.cs.length lc t) := RT_2.out.later hb
    have WS_3 : Hid (Rd w3 wo ws) := WS_2.out.later hb
    have X5_3 : Hid (X3 w3 w1.heap.size (.int .i64 t.s) (.slice sa t.ps.length sc) (.slice la t.cs.length lc)) := X5_2.out.later hb
    have V1_3 : Hid (Rd w3 a1 V) := ho.rd'.2
    clear B_2 RT_2 WS_2 X5_2 hb
    clear ho
    obtain ⟨⟨uX50, uX51, uX52⟩, uX5z⟩ := id X5_3.out
    go_wp2_with fail
    clear uX50 uX51 uX52 uX5z
    refine (QS.out _ ⟨RT_3.out, WS_3.out⟩).mono ?_
    rintro e w4 ⟨a2, c2, rfl, ho, hb⟩
    have z3 : w3.heap.size ≤ w4.heap.size := hb.size
    have B_4 : Hid (Below w.heap.size w w4) := B_3.out.trans (hb.mono B_3.out.size)
    have RT_4 : Hid (RdT w4 sa t.ps.length sc la t.cs.length lc t) := RT_3.out.later hb
    have WS_4 : Hid (Rd w4 wo ws) := WS_3.out.later hb
    have X5_4 : Hid (X3 w4 w1.heap.size (.int .i64 t.s) (.slice sa t.ps.length sc) (.slice la t.cs.length lc)) := X5_3.out.later hb
    have V1_4 : Hid (Rd w4 a1 V) := V1_3.out.later hb
    have V2_4 : Hid (Rd w4 a2 V) := ho.rd'.2
    clear B_3 RT_3 WS_3 X5_3 V1_3 hb
    clear ho
    clear RT_4
    clear X5_4
    go_wp2_with fail
    refine (sameInts_c a1 a2 nv nv c1 c2 V V _ HVl.out HVl.out (by omega) (by omega) V1_4.out V2_4.out).mono ?_
    rw [decide_eq_true rfl]
    rintro e w5 ⟨rfl, hb⟩
    have z4 : w4.heap.size ≤ w5.heap.size := hb.size
    have B_5 : Hid (Below w.heap.size w w5) := B_4.out.trans (hb.mono B_4.out.size)
    have WS_5 : Hid (Rd w5 wo ws) := WS_4.out.later hb
    have V1_5 : Hid (Rd w5 a1 V) := V1_4.out.later hb
    clear B_4 WS_4 V1_4 V2_4 hb
    have hrr : (r != r) = false := by simp
    go_wp2_with fail
    refine (QU1.out _ _ _ V1_5.out).mono ?_
    rintro e w6 ⟨rfl, hb⟩
    have z5 : w5.heap.size ≤ w6.heap.size := hb.size
    have B_6 : Hid (Below w.heap.size w w6) := B_5.out.trans (hb.mono B_5.out.size)
    have WS_6 : Hid (Rd w6 wo ws) := WS_5.out.later hb
    clear B_5 WS_5 V1_5 hb
    go_wp2_with fail
    refine (QU2.out _ _ _ WS_6.out).mono ?_
    rintro e w7 ⟨rfl, hb⟩
    have z6 : w6.heap.size ≤ w7.heap.size := hb.size
    have B_7 : Hid (Below w.heap.size w w7) := B_6.out.trans (hb.mono B_6.out.size)
    clear B_6 WS_6 hb
    clear QI QS QU1 QU2
    go_wp2_with fail
    refine (drawWay_c bo m d _ hm (HM.out.later B_7.out B_7.out.size)).mono ?_
    rintro e w8 ⟨⟨f, ps, cs⟩, sb, sd, lb, ld, ga, gb, rfl, hts, hrd, hsm, hb⟩
    have z7 : w7.heap.size ≤ w8.heap.size := hb.size
    have B_8 : Hid (Below w.heap.size w w8) := B_7.out.trans (hb.mono B_7.out.size)
    clear B_7 hb
    obtain ⟨sU, hsU⟩ : ∃ k : Nat, f = k := ⟨f.toNat, by have h9 : (0 : Int) ≤ f := hts.1; omega⟩
    subst hsU
    have hs7 : sU ≤ 7 := by have h9 : (sU : Int) ≤ 7 := hts.2; omega
    have RU_8 : Hid (RdT w8 sb ps.length sd lb cs.length ld ⟨(sU : Int), ps, cs⟩) := hrd
    clear hts hrd hsm
    obtain ⟨WV, hWV⟩ : ∃ V, wayV ⟨(sU : Int), ps, cs⟩ ga gb = V := ⟨_, rfl⟩
    obtain ⟨nw, hnw⟩ : ∃ k, WV.length = k := ⟨_, rfl⟩
    have hnw1 : nw ≤ 1000 := by rw [← hnw, ← hWV]; exact wayV_short _ _ _
    obtain ⟨one, hone⟩ : ∃ b, wayB ⟨(sU : Int), ps, cs⟩ ga gb = b := ⟨_, rfl⟩
    obtain ⟨G, hG⟩ : ∃ G, grpV ⟨(sU : Int), ps, cs⟩ = G := ⟨_, rfl⟩
    obtain ⟨ng, hng⟩ : ∃ k, G.length = k := ⟨_, rfl⟩
    have hone2 : one = true → nw < sU := fun e => by
      rw [← hone] at e
      have h9 : ((wayV ⟨(sU : Int), ps, cs⟩ ga gb).length : Int) < (sU : Int) := way_less e
      rw [hWV, hnw] at h9
      omega
    have hG6 : ng ≤ 6 ∧ ∀ l ∈ G, l.length ≤ 6 := by
      rw [← hng, ← hG]
      cases h9 : goodTb ⟨(sU : Int), ps, cs⟩
      · unfold grpV; rw [if_neg (by rw [h9]; decide)]; exact ⟨by simp, fun l hl => absurd hl (by simp)⟩
      · have h8 := grp_told h9; exact ⟨h8.1, h8.2.1⟩
    have QWI : Hid (∀ wx, RdT wx sb ps.length sd lb cs.length ld ⟨(sU : Int), ps, cs⟩ → Calls Try.prog 14 #[.agg #[.int .i64 sU, .slice sb ps.length sd, .slice lb cs.length ld], .int .i64 ga, .int .i64 gb] wx fun e w' => ∃ a' c', e = .returned (.tuple #[.slice a' nw c', .bool one]) ∧ Own w' wx.heap.size (.slice a' nw c') WV ∧ Below wx.heap.size wx w') := fun wx h => by
      have q := implWay_c sb _ sd lb _ ld ⟨(sU : Int), ps, cs⟩ ga gb wx h
      unfold TellI at q
      rw [hWV, hnw, hone] at q
      exact q
    have QWS : Hid (∀ wx, RdT wx sb ps.length sd lb cs.length ld ⟨(sU : Int), ps, cs⟩ → Calls Try.prog 24 #[.agg #[.int .i64 sU, .slice sb ps.length sd, .slice lb cs.length ld], .int .i64 ga, .int .i64 gb] wx fun e w' => ∃ a' c', e = .returned (.tuple #[.slice a' nw c', .bool one]) ∧ Own w' wx.heap.size (.slice a' nw c') WV ∧ Below wx.heap.size wx w') := fun wx h => by
      have q := specWay_c sb _ sd lb _ ld ⟨(sU : Int), ps, cs⟩ ga gb wx h
      unfold TellI at q
      rw [hWV, hnw, hone] at q
      exact q
    cases h3 : goodTb ⟨(sU : Int), ps, cs⟩
    · have QGI : Hid (∀ wx, RdT wx sb ps.length sd lb cs.length ld ⟨(sU : Int), ps, cs⟩ → Calls Try.prog 25 #[.agg #[.int .i64 sU, .slice sb ps.length sd, .slice lb cs.length ld]] wx fun e w' => ∃ a' c', e = .returned (.tuple #[.slice a' ng c', .bool false]) ∧ RdNN w' a' G ∧ Below wx.heap.size wx w') := fun wx h => by
        have q := implGroups_c sb _ sd lb _ ld ⟨(sU : Int), ps, cs⟩ wx h
        unfold TellII at q
        rw [hG, hng, h3] at q
        refine q.mono ?_
        rintro e w' ⟨a', c', h1, h2, h3⟩
        exact ⟨a', c', h1, h2.nn, h3⟩
      have QGS : Hid (∀ wx, RdT wx sb ps.length sd lb cs.length ld ⟨(sU : Int), ps, cs⟩ → Calls Try.prog 26 #[.agg #[.int .i64 sU, .slice sb ps.length sd, .slice lb cs.length ld]] wx fun e w' => ∃ a' c', e = .returned (.tuple #[.slice a' ng c', .bool false]) ∧ RdNN w' a' G ∧ Below wx.heap.size wx w') := fun wx h => by
        have q := specGroups_c sb _ sd lb _ ld ⟨(sU : Int), ps, cs⟩ wx h
        unfold TellII at q
        rw [hG, hng, h3] at q
        refine q.mono ?_
        rintro e w' ⟨a', c', h1, h2, h3⟩
        exact ⟨a', c', h1, h2.nn, h3⟩
      have HWV : Hid (WV.length = nw) := hnw
      have HGl : Hid (G.length = ng) := hng
      have HGr : Hid (∀ l ∈ G, l.length ≤ 6) := hG6.2
      have hng6 := hG6.1
      have hoo : (one != one) = false := by simp
      clear hone2 hG6 hWV hnw hone hG hng h3
      obtain ⟨w9, hA8⟩ : ∃ X, w8.alloc (.cells #[.int .i64 sU, .slice sb ps.length sd, .slice lb cs.length ld] 26) = X := ⟨_, rfl⟩
      have hb : Below w8.heap.size w8 w9 := by rw [← hA8]; exact balloc w8 _
      have B_9 : Hid (Below w.heap.size w w9) := B_8.out.trans (hb.mono B_8.out.size)
      have RU_9 : Hid (RdT w9 sb ps.length sd lb cs.length ld ⟨(sU : Int), ps, cs⟩) := RU_8.out.later hb
      have z8 : w8.heap.size ≤ w9.heap.size := hb.size
      clear B_8 RU_8
      clear hb
      have X15_9 : Hid (X3 w9 w8.heap.size (.int .i64 sU) (.slice sb ps.length sd) (.slice lb cs.length ld)) := by rw [← hA8]; exact x3_new w8 _ _ _ _ _ rfl
      obtain ⟨⟨uX150, uX151, uX152⟩, uX15z⟩ := id X15_9.out
      go_wp2_with fail
      clear uX150 uX151 uX152 uX15z
      clear hA8
      refine (QWI.out _ RU_9.out).mono ?_
      rintro e w10 ⟨a3, c3, rfl, ho, hb⟩
      have z9 : w9.heap.size ≤ w10.heap.size := hb.size
      have B_10 : Hid (Below w.heap.size w w10) := B_9.out.trans (hb.mono B_9.out.size)
      have RU_10 : Hid (RdT w10 sb ps.length sd lb cs.length ld ⟨(sU : Int), ps, cs⟩) := RU_9.out.later hb
      have X15_10 : Hid (X3 w10 w8.heap.size (.int .i64 sU) (.slice sb ps.length sd) (.slice lb cs.length ld)) := X15_9.out.later hb
      have W3_10 : Hid (Rd w10 a3 WV) := ho.rd'.2
      clear B_9 RU_9 X15_9 hb
      clear ho
      obtain ⟨⟨uX150, uX151, uX152⟩, uX15z⟩ := id X15_10.out
      go_wp2_with fail
      clear uX150 uX151 uX152 uX15z
      refine (QWS.out _ RU_10.out).mono ?_
      rintro e w11 ⟨a4, c4, rfl, ho, hb⟩
      have z10 : w10.heap.size ≤ w11.heap.size := hb.size
      have B_11 : Hid (Below w.heap.size w w11) := B_10.out.trans (hb.mono B_10.out.size)
      have RU_11 : Hid (RdT w11 sb ps.length sd lb cs.length ld ⟨(sU : Int), ps, cs⟩) := RU_10.out.later hb
      have X15_11 : Hid (X3 w11 w8.heap.size (.int .i64 sU) (.slice sb ps.length sd) (.slice lb cs.length ld)) := X15_10.out.later hb
      have W3_11 : Hid (Rd w11 a3 WV) := W3_10.out.later hb
      have W4_11 : Hid (Rd w11 a4 WV) := ho.rd'.2
      clear B_10 RU_10 X15_10 W3_10 hb
      clear ho
      obtain ⟨⟨uX150, uX151, uX152⟩, uX15z⟩ := id X15_11.out
      go_wp2_with fail
      clear uX150 uX151 uX152 uX15z
      refine (QGI.out _ RU_11.out).mono ?_
      rintro e w12 ⟨a5, c5, rfl, ho, hb⟩
      have z11 : w11.heap.size ≤ w12.heap.size := hb.size
      have B_12 : Hid (Below w.heap.size w w12) := B_11.out.trans (hb.mono B_11.out.size)
      have RU_12 : Hid (RdT w12 sb ps.length sd lb cs.length ld ⟨(sU : Int), ps, cs⟩) := RU_11.out.later hb
      have X15_12 : Hid (X3 w12 w8.heap.size (.int .i64 sU) (.slice sb ps.length sd) (.slice lb cs.length ld)) := X15_11.out.later hb
      have W3_12 : Hid (Rd w12 a3 WV) := W3_11.out.later hb
      have W4_12 : Hid (Rd w12 a4 WV) := W4_11.out.later hb
      have G5_12 : Hid (RdNN w12 a5 G) := ho
      clear B_11 RU_11 X15_11 W3_11 W4_11 hb
      clear ho
      obtain ⟨⟨uX150, uX151, uX152⟩, uX15z⟩ := id X15_12.out
      go_wp2_with fail
      clear uX150 uX151 uX152 uX15z
      refine (QGS.out _ RU_12.out).mono ?_
      rintro e w13 ⟨a6, c6, rfl, ho, hb⟩
      have z12 : w12.heap.size ≤ w13.heap.size := hb.size
      have B_13 : Hid (Below w.heap.size w w13) := B_12.out.trans (hb.mono B_12.out.size)
      have RU_13 : Hid (RdT w13 sb ps.length sd lb cs.length ld ⟨(sU : Int), ps, cs⟩) := RU_12.out.later hb
      have X15_13 : Hid (X3 w13 w8.heap.size (.int .i64 sU) (.slice sb ps.length sd) (.slice lb cs.length ld)) := X15_12.out.later hb
      have W3_13 : Hid (Rd w13 a3 WV) := W3_12.out.later hb
      have W4_13 : Hid (Rd w13 a4 WV) := W4_12.out.later hb
      have G5_13 : Hid (RdNN w13 a5 G) := G5_12.out.later hb
      have G6_13 : Hid (RdNN w13 a6 G) := ho
      clear B_12 RU_12 X15_12 W3_12 W4_12 G5_12 hb
      clear ho
      clear RU_13
      go_wp2_with fail
      refine (sameInts_c a3 a4 nw nw c3 c4 WV WV _ HWV.out HWV.out (by omega) (by omega) W3_13.out W4_13.out).mono ?_
      rw [decide_eq_true rfl]
      rintro e w14 ⟨rfl, hb⟩
      have z13 : w13.heap.size ≤ w14.heap.size := hb.size
      have B_14 : Hid (Below w.heap.size w w14) := B_13.out.trans (hb.mono B_13.out.size)
      have X15_14 : Hid (X3 w14 w8.heap.size (.int .i64 sU) (.slice sb ps.length sd) (.slice lb cs.length ld)) := X15_13.out.later hb
      have G5_14 : Hid (RdNN w14 a5 G) := G5_13.out.later hb
      have G6_14 : Hid (RdNN w14 a6 G) := G6_13.out.later hb
      clear B_13 X15_13 W3_13 W4_13 G5_13 G6_13 hb
      go_wp2_with fail
      refine (sameRows_c a5 a6 ng c5 c6 G _ HGl.out (by omega) (fun l hl => by have := HGr.out l hl; omega) G5_14.out.ii G6_14.out.ii).mono ?_
      rintro e w15 ⟨rfl, hb⟩
      have z14 : w14.heap.size ≤ w15.heap.size := hb.size
      have B_15 : Hid (Below w.heap.size w w15) := B_14.out.trans (hb.mono B_14.out.size)
      have X15_15 : Hid (X3 w15 w8.heap.size (.int .i64 sU) (.slice sb ps.length sd) (.slice lb cs.length ld)) := X15_14.out.later hb
      have G5_15 : Hid (RdNN w15 a5 G) := G5_14.out.later hb
      clear B_14 X15_14 G5_14 G6_14 hb
      clear QWI QWS QGI QGS
      clear G5_15
      clear X15_15
      go_wp2_with fail
      refine (drawSum_c bo m d _ hm (HM.out.later B_15.out B_15.out.size)).mono ?_
      rintro e w16 ⟨l3, a9, c9, rfl, hl8, ho, hb⟩
      have z15 : w15.heap.size ≤ w16.heap.size := hb.size
      have B_16 : Hid (Below w.heap.size w w16) := B_15.out.trans (hb.mono B_15.out.size)
      have L3_16 : Hid (Rd w16 a9 l3) := ho.rd'.2
      clear B_15 hb
      clear ho
      obtain ⟨n3, hn3⟩ : ∃ k, l3.length = k := ⟨_, rfl⟩
      have HL3 : Hid (l3.length = n3) := hn3
      obtain ⟨p3, hp3⟩ : ∃ p, sumF l3 = p := ⟨_, rfl⟩
      obtain ⟨r3, b3⟩ := p3
      rw [hn3] at hl8 ⊢
      clear hn3
      have RI : Hid (∀ wx, Rd wx a9 l3 → Calls Try.prog 11 #[.slice a9 n3 c9] wx fun e w' => e = .returned (.tuple #[.int .i64 r3, .bool b3]) ∧ Below wx.heap.size wx w') := fun wx h => by
        have q := implSumF_c a9 n3 c9 l3 wx HL3.out (by omega) h r3 b3 hp3
        exact q
      have RS : Hid (∀ wx, Rd wx a9 l3 → Calls Try.prog 30 #[.slice a9 n3 c9] wx fun e w' => e = .returned (.tuple #[.int .i64 r3, .bool b3]) ∧ Below wx.heap.size wx w') := fun wx h => by
        have q := specSumF_c a9 n3 c9 l3 wx HL3.out (by omega) h r3 b3 hp3
        exact q
      clear hp3
      have h3r : (r3 == r3) = true := by simp
      have h3b : (b3 == b3) = true := by simp
      go_wp2_with fail
      refine (RI.out _ L3_16.out).mono ?_
      rintro e w17 ⟨rfl, hb⟩
      have z16 : w16.heap.size ≤ w17.heap.size := hb.size
      have B_17 : Hid (Below w.heap.size w w17) := B_16.out.trans (hb.mono B_16.out.size)
      have L3_17 : Hid (Rd w17 a9 l3) := L3_16.out.later hb
      clear B_16 L3_16 hb
      go_wp2_with fail
      refine (RS.out _ L3_17.out).mono ?_
      rintro e w18 ⟨rfl, hb⟩
      have z17 : w17.heap.size ≤ w18.heap.size := hb.size
      have B_18 : Hid (Below w.heap.size w w18) := B_17.out.trans (hb.mono B_17.out.size)
      have L3_18 : Hid (Rd w18 a9 l3) := L3_17.out.later hb
      clear B_17 L3_17 hb
      go_wp2
      go_ret
      exact ⟨rfl, B_18.out⟩
    · have QGI : Hid (∀ wx, RdT wx sb ps.length sd lb cs.length ld ⟨(sU : Int), ps, cs⟩ → Calls Try.prog 25 #[.agg #[.int .i64 sU, .slice sb ps.length sd, .slice lb cs.length ld]] wx fun e w' => ∃ a' c', e = .returned (.tuple #[.slice a' ng c', .bool true]) ∧ RdNN w' a' G ∧ Below wx.heap.size wx w') := fun wx h => by
        have q := implGroups_c sb _ sd lb _ ld ⟨(sU : Int), ps, cs⟩ wx h
        unfold TellII at q
        rw [hG, hng, h3] at q
        refine q.mono ?_
        rintro e w' ⟨a', c', h1, h2, h3⟩
        exact ⟨a', c', h1, h2.nn, h3⟩
      have QGS : Hid (∀ wx, RdT wx sb ps.length sd lb cs.length ld ⟨(sU : Int), ps, cs⟩ → Calls Try.prog 26 #[.agg #[.int .i64 sU, .slice sb ps.length sd, .slice lb cs.length ld]] wx fun e w' => ∃ a' c', e = .returned (.tuple #[.slice a' ng c', .bool true]) ∧ RdNN w' a' G ∧ Below wx.heap.size wx w') := fun wx h => by
        have q := specGroups_c sb _ sd lb _ ld ⟨(sU : Int), ps, cs⟩ wx h
        unfold TellII at q
        rw [hG, hng, h3] at q
        refine q.mono ?_
        rintro e w' ⟨a', c', h1, h2, h3⟩
        exact ⟨a', c', h1, h2.nn, h3⟩
      have HWV : Hid (WV.length = nw) := hnw
      have HGl : Hid (G.length = ng) := hng
      have HGr : Hid (∀ l ∈ G, l.length ≤ 6) := hG6.2
      have hng6 := hG6.1
      have hoo : (one != one) = false := by simp
      obtain ⟨_, _, ht3, ht4⟩ := grp_told h3
      rw [hG] at ht3 ht4
      rw [hng] at ht3 ht4
      have HS : Hid (((sumLen G ng : Nat) : Int) = (sU : Int)) := ht3
      have HT : Hid (∀ k, k < ng → ga ∈ G.getD k [] → 0 ≤ gb → gb < (sU : Int) → decide (gb ∈ G.getD k []) = one) := fun k hk ha hb0 hb1 => by rw [← hone]; exact ht4 k hk ga gb ha hb0 hb1
      have HON : Hid (one = true → nw < sU) := hone2
      clear ht3 ht4
      clear hone2 hG6 hWV hnw hone hG hng h3
      obtain ⟨w9, hA8⟩ : ∃ X, w8.alloc (.cells #[.int .i64 sU, .slice sb ps.length sd, .slice lb cs.length ld] 26) = X := ⟨_, rfl⟩
      have hb : Below w8.heap.size w8 w9 := by rw [← hA8]; exact balloc w8 _
      have B_9 : Hid (Below w.heap.size w w9) := B_8.out.trans (hb.mono B_8.out.size)
      have RU_9 : Hid (RdT w9 sb ps.length sd lb cs.length ld ⟨(sU : Int), ps, cs⟩) := RU_8.out.later hb
      have z8 : w8.heap.size ≤ w9.heap.size := hb.size
      clear B_8 RU_8
      clear hb
      have X15_9 : Hid (X3 w9 w8.heap.size (.int .i64 sU) (.slice sb ps.length sd) (.slice lb cs.length ld)) := by rw [← hA8]; exact x3_new w8 _ _ _ _ _ rfl
      obtain ⟨⟨uX150, uX151, uX152⟩, uX15z⟩ := id X15_9.out
      go_wp2_with fail
      clear uX150 uX151 uX152 uX15z
      clear hA8
      refine (QWI.out _ RU_9.out).mono ?_
      rintro e w10 ⟨a3, c3, rfl, ho, hb⟩
      have z9 : w9.heap.size ≤ w10.heap.size := hb.size
      have B_10 : Hid (Below w.heap.size w w10) := B_9.out.trans (hb.mono B_9.out.size)
      have RU_10 : Hid (RdT w10 sb ps.length sd lb cs.length ld ⟨(sU : Int), ps, cs⟩) := RU_9.out.later hb
      have X15_10 : Hid (X3 w10 w8.heap.size (.int .i64 sU) (.slice sb ps.length sd) (.slice lb cs.length ld)) := X15_9.out.later hb
      have W3_10 : Hid (Rd w10 a3 WV) := ho.rd'.2
      clear B_9 RU_9 X15_9 hb
      clear ho
      obtain ⟨⟨uX150, uX151, uX152⟩, uX15z⟩ := id X15_10.out
      go_wp2_with fail
      clear uX150 uX151 uX152 uX15z
      refine (QWS.out _ RU_10.out).mono ?_
      rintro e w11 ⟨a4, c4, rfl, ho, hb⟩
      have z10 : w10.heap.size ≤ w11.heap.size := hb.size
      have B_11 : Hid (Below w.heap.size w w11) := B_10.out.trans (hb.mono B_10.out.size)
      have RU_11 : Hid (RdT w11 sb ps.length sd lb cs.length ld ⟨(sU : Int), ps, cs⟩) := RU_10.out.later hb
      have X15_11 : Hid (X3 w11 w8.heap.size (.int .i64 sU) (.slice sb ps.length sd) (.slice lb cs.length ld)) := X15_10.out.later hb
      have W3_11 : Hid (Rd w11 a3 WV) := W3_10.out.later hb
      have W4_11 : Hid (Rd w11 a4 WV) := ho.rd'.2
      clear B_10 RU_10 X15_10 W3_10 hb
      clear ho
      obtain ⟨⟨uX150, uX151, uX152⟩, uX15z⟩ := id X15_11.out
      go_wp2_with fail
      clear uX150 uX151 uX152 uX15z
      refine (QGI.out _ RU_11.out).mono ?_
      rintro e w12 ⟨a5, c5, rfl, ho, hb⟩
      have z11 : w11.heap.size ≤ w12.heap.size := hb.size
      have B_12 : Hid (Below w.heap.size w w12) := B_11.out.trans (hb.mono B_11.out.size)
      have RU_12 : Hid (RdT w12 sb ps.length sd lb cs.length ld ⟨(sU : Int), ps, cs⟩) := RU_11.out.later hb
      have X15_12 : Hid (X3 w12 w8.heap.size (.int .i64 sU) (.slice sb ps.length sd) (.slice lb cs.length ld)) := X15_11.out.later hb
      have W3_12 : Hid (Rd w12 a3 WV) := W3_11.out.later hb
      have W4_12 : Hid (Rd w12 a4 WV) := W4_11.out.later hb
      have G5_12 : Hid (RdNN w12 a5 G) := ho
      clear B_11 RU_11 X15_11 W3_11 W4_11 hb
      clear ho
      obtain ⟨⟨uX150, uX151, uX152⟩, uX15z⟩ := id X15_12.out
      go_wp2_with fail
      clear uX150 uX151 uX152 uX15z
      refine (QGS.out _ RU_12.out).mono ?_
      rintro e w13 ⟨a6, c6, rfl, ho, hb⟩
      have z12 : w12.heap.size ≤ w13.heap.size := hb.size
      have B_13 : Hid (Below w.heap.size w w13) := B_12.out.trans (hb.mono B_12.out.size)
      have RU_13 : Hid (RdT w13 sb ps.length sd lb cs.length ld ⟨(sU : Int), ps, cs⟩) := RU_12.out.later hb
      have X15_13 : Hid (X3 w13 w8.heap.size (.int .i64 sU) (.slice sb ps.length sd) (.slice lb cs.length ld)) := X15_12.out.later hb
      have W3_13 : Hid (Rd w13 a3 WV) := W3_12.out.later hb
      have W4_13 : Hid (Rd w13 a4 WV) := W4_12.out.later hb
      have G5_13 : Hid (RdNN w13 a5 G) := G5_12.out.later hb
      have G6_13 : Hid (RdNN w13 a6 G) := ho
      clear B_12 RU_12 X15_12 W3_12 W4_12 G5_12 hb
      clear ho
      clear RU_13
      go_wp2_with fail
      refine (sameInts_c a3 a4 nw nw c3 c4 WV WV _ HWV.out HWV.out (by omega) (by omega) W3_13.out W4_13.out).mono ?_
      rw [decide_eq_true rfl]
      rintro e w14 ⟨rfl, hb⟩
      have z13 : w13.heap.size ≤ w14.heap.size := hb.size
      have B_14 : Hid (Below w.heap.size w w14) := B_13.out.trans (hb.mono B_13.out.size)
      have X15_14 : Hid (X3 w14 w8.heap.size (.int .i64 sU) (.slice sb ps.length sd) (.slice lb cs.length ld)) := X15_13.out.later hb
      have G5_14 : Hid (RdNN w14 a5 G) := G5_13.out.later hb
      have G6_14 : Hid (RdNN w14 a6 G) := G6_13.out.later hb
      clear B_13 X15_13 W3_13 W4_13 G5_13 G6_13 hb
      go_wp2_with fail
      refine (sameRows_c a5 a6 ng c5 c6 G _ HGl.out (by omega) (fun l hl => by have := HGr.out l hl; omega) G5_14.out.ii G6_14.out.ii).mono ?_
      rintro e w15 ⟨rfl, hb⟩
      have z14 : w14.heap.size ≤ w15.heap.size := hb.size
      have B_15 : Hid (Below w.heap.size w w15) := B_14.out.trans (hb.mono B_14.out.size)
      have X15_15 : Hid (X3 w15 w8.heap.size (.int .i64 sU) (.slice sb ps.length sd) (.slice lb cs.length ld)) := X15_14.out.later hb
      have G5_15 : Hid (RdNN w15 a5 G) := G5_14.out.later hb
      clear B_14 X15_14 G5_14 G6_14 hb
      clear QWI QWS QGI QGS
      obtain ⟨⟨u0, u1, u2⟩, uz⟩ := id X15_15.out
      go_wp2
      go_loop [26, 141] (fun nv iv => ∃ k : Nat, k ≤ ng ∧ iv = .int .i64 k ∧ nv = .int .i64 ((sumLen G k : Nat) : Int) ∧ sumLen G k ≤ 6 * k) (fun _ iv => ng - (intOf iv).toNat)
      case atStart => exact ⟨0, Nat.zero_le _, rfl, by rw [sumLen_zero]; rfl, by rw [sumLen_zero]; omega⟩
      case round =>
        obtain ⟨k, hk, rfl, rfl, hsl⟩ := hrel
        by_cases hlt : k < ng
        · have k0 : (0 : Int) ≤ (k : Int) := by omega
          have k1 : (k : Int) < (ng : Int) := by omega
          have hkl : k < G.length := by rw [HGl.out]; exact hlt
          obtain ⟨b1, o1, ro, rc, rfl, g1, hro, _⟩ := G5_15.out.get hkl
          have hsu := sumLen_succ hkl
          have hrl := HGr.out _ (mem_getD [] hkl)
          have hT := HT.out k hlt
          generalize G.getD k [] = row at g1 hro hsu hrl hT
          obtain ⟨rn, hrn⟩ : ∃ k, row.length = k := ⟨_, rfl⟩
          have HRN : Hid (row.length = rn) := hrn
          rw [hrn] at g1 hsu hrl
          have HRO : Hid (Rd w15 ro row) := hro
          have HSU : Hid (sumLen G (k + 1) = sumLen G k + rn) := hsu
          have hlim : sumLen G k + rn ≤ 60 := by omega
          have hsl2 : sumLen G (k + 1) ≤ 6 * (k + 1) := by omega
          clear hro hrn hsu hkl
          by_cases hA : ga ∈ row
          · have HA : Hid (ga ∈ row) := hA
            go_wp2_with fail
            refine (lhas_c ro rn rc ga row _ HRN.out (by omega) HRO.out).mono ?_
            rw [decide_eq_true HA.out]
            rintro e wz ⟨rfl, hz⟩
            subst wz
            by_cases hgb : 0 ≤ gb ∧ gb < (sU : Int)
            · have hq := hT hA hgb.1 hgb.2
              clear hA hT
              go_wp2_with fail
              refine (lhas_c ro rn rc gb row _ HRN.out (by omega) HRO.out).mono ?_
              rw [hq]
              rintro e wz ⟨rfl, hz⟩
              subst wz
              clear hq
              go_wp2
              go_round
              case rel => exact ⟨k + 1, by omega, by go_num, by rw [HSU.out]; go_num, hsl2⟩
              case measure => simp [intOf]; omega
            · clear hA hT
              go_wp2_with fail
              refine (lhas_c ro rn rc gb row _ HRN.out (by omega) HRO.out).mono ?_
              generalize decide (gb ∈ row) = qq
              rintro e wz ⟨rfl, hz⟩
              subst wz
              have hgb2 : ¬ (0 ≤ gb) ∨ (0 ≤ gb ∧ ¬ gb < (sU : Int)) := by omega
              clear hgb HT HON hoo
              rcases hgb2 with hgb2 | ⟨hgb2, hgb3⟩ <;> cases qq <;> cases one
              · go_wp2
                go_round
                case rel => exact ⟨k + 1, by omega, by go_num, by rw [HSU.out]; go_num, hsl2⟩
                case measure => simp [intOf]; omega
              · go_wp2
                go_round
                case rel => exact ⟨k + 1, by omega, by go_num, by rw [HSU.out]; go_num, hsl2⟩
                case measure => simp [intOf]; omega
              · go_wp2
                go_round
                case rel => exact ⟨k + 1, by omega, by go_num, by rw [HSU.out]; go_num, hsl2⟩
                case measure => simp [intOf]; omega
              · go_wp2
                go_round
                case rel => exact ⟨k + 1, by omega, by go_num, by rw [HSU.out]; go_num, hsl2⟩
                case measure => simp [intOf]; omega
              · go_wp2
                go_round
                case rel => exact ⟨k + 1, by omega, by go_num, by rw [HSU.out]; go_num, hsl2⟩
                case measure => simp [intOf]; omega
              · go_wp2
                go_round
                case rel => exact ⟨k + 1, by omega, by go_num, by rw [HSU.out]; go_num, hsl2⟩
                case measure => simp [intOf]; omega
              · go_wp2
                go_round
                case rel => exact ⟨k + 1, by omega, by go_num, by rw [HSU.out]; go_num, hsl2⟩
                case measure => simp [intOf]; omega
              · go_wp2
                go_round
                case rel => exact ⟨k + 1, by omega, by go_num, by rw [HSU.out]; go_num, hsl2⟩
                case measure => simp [intOf]; omega
          · have HA : Hid (¬ ga ∈ row) := hA
            clear hA hT
            go_wp2_with fail
            refine (lhas_c ro rn rc ga row _ HRN.out (by omega) HRO.out).mono ?_
            rw [decide_eq_false HA.out]
            rintro e wz ⟨rfl, hz⟩
            subst wz
            go_wp2
            go_round
            case rel => exact ⟨k + 1, by omega, by go_num, by rw [HSU.out]; go_num, hsl2⟩
            case measure => simp [intOf]; omega
        · obtain rfl : k = ng := by omega
          have hkk : ¬ (k : Int) < (k : Int) := by omega
          rw [HS.out]
          have huu : ((sU : Int) != (sU : Int)) = false := by simp
          cases one
          · go_wp2_with fail
            clear u0 u1 u2 uz HT HON HS
            clear G5_15
            clear X15_15
            refine (drawSum_c bo m d _ hm (HM.out.later B_15.out B_15.out.size)).mono ?_
            rintro e w16 ⟨l3, a9, c9, rfl, hl8, ho, hb⟩
            have z15 : w15.heap.size ≤ w16.heap.size := hb.size
            have B_16 : Hid (Below w.heap.size w w16) := B_15.out.trans (hb.mono B_15.out.size)
            have L3_16 : Hid (Rd w16 a9 l3) := ho.rd'.2
            clear B_15 hb
            clear ho
            obtain ⟨n3, hn3⟩ : ∃ k, l3.length = k := ⟨_, rfl⟩
            have HL3 : Hid (l3.length = n3) := hn3
            obtain ⟨p3, hp3⟩ : ∃ p, sumF l3 = p := ⟨_, rfl⟩
            obtain ⟨r3, b3⟩ := p3
            rw [hn3] at hl8 ⊢
            clear hn3
            have RI : Hid (∀ wx, Rd wx a9 l3 → Calls Try.prog 11 #[.slice a9 n3 c9] wx fun e w' => e = .returned (.tuple #[.int .i64 r3, .bool b3]) ∧ Below wx.heap.size wx w') := fun wx h => by
              have q := implSumF_c a9 n3 c9 l3 wx HL3.out (by omega) h r3 b3 hp3
              exact q
            have RS : Hid (∀ wx, Rd wx a9 l3 → Calls Try.prog 30 #[.slice a9 n3 c9] wx fun e w' => e = .returned (.tuple #[.int .i64 r3, .bool b3]) ∧ Below wx.heap.size wx w') := fun wx h => by
              have q := specSumF_c a9 n3 c9 l3 wx HL3.out (by omega) h r3 b3 hp3
              exact q
            clear hp3
            have h3r : (r3 == r3) = true := by simp
            have h3b : (b3 == b3) = true := by simp
            go_wp2_with fail
            refine (RI.out _ L3_16.out).mono ?_
            rintro e w17 ⟨rfl, hb⟩
            have z16 : w16.heap.size ≤ w17.heap.size := hb.size
            have B_17 : Hid (Below w.heap.size w w17) := B_16.out.trans (hb.mono B_16.out.size)
            have L3_17 : Hid (Rd w17 a9 l3) := L3_16.out.later hb
            clear B_16 L3_16 hb
            go_wp2_with fail
            refine (RS.out _ L3_17.out).mono ?_
            rintro e w18 ⟨rfl, hb⟩
            have z17 : w17.heap.size ≤ w18.heap.size := hb.size
            have B_18 : Hid (Below w.heap.size w w18) := B_17.out.trans (hb.mono B_17.out.size)
            have L3_18 : Hid (Rd w18 a9 l3) := L3_17.out.later hb
            clear B_17 L3_17 hb
            go_wp2
            go_ret
            exact ⟨rfl, B_18.out⟩
          · have hlt9 := HON.out rfl
            have hge : ¬ (sU : Int) ≤ (nw : Int) := by omega
            go_wp2_with fail
            clear u0 u1 u2 uz HT HON HS
            clear G5_15
            clear X15_15
            refine (drawSum_c bo m d _ hm (HM.out.later B_15.out B_15.out.size)).mono ?_
            rintro e w16 ⟨l3, a9, c9, rfl, hl8, ho, hb⟩
            have z15 : w15.heap.size ≤ w16.heap.size := hb.size
            have B_16 : Hid (Below w.heap.size w w16) := B_15.out.trans (hb.mono B_15.out.size)
            have L3_16 : Hid (Rd w16 a9 l3) := ho.rd'.2
            clear B_15 hb
            clear ho
            obtain ⟨n3, hn3⟩ : ∃ k, l3.length = k := ⟨_, rfl⟩
            have HL3 : Hid (l3.length = n3) := hn3
            obtain ⟨p3, hp3⟩ : ∃ p, sumF l3 = p := ⟨_, rfl⟩
            obtain ⟨r3, b3⟩ := p3
            rw [hn3] at hl8 ⊢
            clear hn3
            have RI : Hid (∀ wx, Rd wx a9 l3 → Calls Try.prog 11 #[.slice a9 n3 c9] wx fun e w' => e = .returned (.tuple #[.int .i64 r3, .bool b3]) ∧ Below wx.heap.size wx w') := fun wx h => by
              have q := implSumF_c a9 n3 c9 l3 wx HL3.out (by omega) h r3 b3 hp3
              exact q
            have RS : Hid (∀ wx, Rd wx a9 l3 → Calls Try.prog 30 #[.slice a9 n3 c9] wx fun e w' => e = .returned (.tuple #[.int .i64 r3, .bool b3]) ∧ Below wx.heap.size wx w') := fun wx h => by
              have q := specSumF_c a9 n3 c9 l3 wx HL3.out (by omega) h r3 b3 hp3
              exact q
            clear hp3
            have h3r : (r3 == r3) = true := by simp
            have h3b : (b3 == b3) = true := by simp
            go_wp2_with fail
            refine (RI.out _ L3_16.out).mono ?_
            rintro e w17 ⟨rfl, hb⟩
            have z16 : w16.heap.size ≤ w17.heap.size := hb.size
            have B_17 : Hid (Below w.heap.size w w17) := B_16.out.trans (hb.mono B_16.out.size)
            have L3_17 : Hid (Rd w17 a9 l3) := L3_16.out.later hb
            clear B_16 L3_16 hb
            go_wp2_with fail
            refine (RS.out _ L3_17.out).mono ?_
            rintro e w18 ⟨rfl, hb⟩
            have z17 : w17.heap.size ≤ w18.heap.size := hb.size
            have B_18 : Hid (Below w.heap.size w w18) := B_17.out.trans (hb.mono B_17.out.size)
            have L3_18 : Hid (Rd w18 a9 l3) := L3_17.out.later hb
            clear B_17 L3_17 hb
            go_wp2
            go_ret
            exact ⟨rfl, B_18.out⟩

end Go.Proofs.Ytbjpkklonjlmiaa
