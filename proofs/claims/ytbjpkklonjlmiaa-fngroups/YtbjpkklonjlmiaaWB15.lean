/- Chapter 15: WayBetween of the program. -/
import Derived.Test.YtbjpkklonjlmiaaNW15B
import Derived.Test.YtbjpkklonjlmiaaTS15
namespace Go.Proofs.Ytbjpkklonjlmiaa
set_option linter.unusedVariables false
set_option maxRecDepth 1000000
set_option linter.unusedSimpArgs false
open Go.RowKit Go.Sort

theorem twoB_eq (t : TbV) (a b : Int) : twoB t a b = (goodTb t && (seatB t.s a && seatB t.s b)) := rfl

set_option maxHeartbeats 8000000 in
theorem implWay_c (sa : Option Addr) (sn sc : Nat) (la : Option Addr) (ln lc : Nat) (t : TbV) (a b : Int) (w : World) (h : RdT w sa sn sc la ln lc t) :
    Calls Try.prog 14 #[.agg #[.int .i64 t.s, .slice sa sn sc, .slice la ln lc], .int .i64 a, .int .i64 b] w fun e w' => TellI e w w' (wayV t a b) (wayB t a b) := by
  have HX0 : Hid (X3 (w.alloc (.cells #[.int .i64 t.s, .slice sa sn sc, .slice la ln lc] 26)) w.heap.size (.int .i64 t.s) (.slice sa sn sc) (.slice la ln lc)) := x3_new w _ _ _ _ _ rfl
  have HB0 : Hid (Below w.heap.size w (w.alloc (.cells #[.int .i64 t.s, .slice sa sn sc, .slice la ln lc] 26))) := balloc w _
  have HR : Hid (∀ wx, Below w.heap.size w wx → RdT wx sa sn sc la ln lc t) := fun wx hb => h.later hb
  have HQG : Hid (∀ wx, Below w.heap.size w wx → Calls Try.prog 9 #[.agg #[.int .i64 t.s, .slice sa sn sc, .slice la ln lc]] wx fun e w' => e = .returned (.bool (goodTb t)) ∧ Below wx.heap.size wx w') := fun wx hb => implGoodTb_c sa sn sc la ln lc t wx (HR.out wx hb)
  have HQH : Hid (∀ wx (x : Int), Calls Try.prog 34 #[.agg #[.int .i64 t.s, .slice sa sn sc, .slice la ln lc], .int .i64 x] wx fun e w' => e = .returned (.bool (seatB t.s x)) ∧ GrW wx w') := fun wx x => hasSeat_c t.s sa sn sc la ln lc x wx
  have HQO : Hid (∀ wx, Below w.heap.size w wx → GoodT t → Calls Try.prog 47 #[.agg #[.int .i64 t.s, .slice sa sn sc, .slice la ln lc]] wx fun e w' => ∃ a' c' ys, e = .returned (.slice a' (2 * sn) c') ∧ OwnQ w' wx.heap.size (.slice a' (2 * sn) c') ys ∧ ys.Perm (stT t.ps sn) ∧ RisT ys ∧ Below wx.heap.size wx w') := fun wx hb hg => stepsOver_c sa sn sc la ln lc t wx (HR.out wx hb) hg
  have HPL : Hid (t.ps.length = sn) := h.rd.sl
  unfold wayV wayB
  rw [twoB_eq]
  obtain ⟨V, hV⟩ : ∃ V, w.alloc (.cells #[.int .i64 t.s, .slice sa sn sc, .slice la ln lc] 26) = V := ⟨_, rfl⟩
  rw [hV] at HX0 HB0
  have q := HQG.out V HB0.out
  have HX : Hid (X3 V w.heap.size (.int .i64 t.s) (.slice sa sn sc) (.slice la ln lc)) := HX0.out
  obtain ⟨⟨f0, f1, f2⟩, _⟩ := HX0.out
  cases hgd : goodTb t
  · simp only [Bool.false_and]
    rw [if_neg (by simp)]
    rw [hgd] at q
    generalize t.s = s at hV f0 q HX ⊢
    clear h hgd HX0
    go_enter Try.func14, Try.ntmps14
    go_wp2_with fail
    refine q.mono ?_
    clear q f0 f1 f2 hV
    rintro e w1 ⟨rfl, hb⟩
    have HB1 : Hid (Below w.heap.size w w1) := HB0.out.trans (hb.mono HB0.out.size)
    clear hb
    go_wp2
    refine bodyPost_ret (v := .tuple #[.slice none 0 0, .bool false]) (by simp [results, Try.results14, go_sem]; try rfl) rfl ?_
    exact tellI_none HB1.out
  simp only [Bool.true_and]
  rw [hgd] at q
  have HG : Hid (GoodT t) := goodTb_iff t hgd
  obtain ⟨n, hn⟩ : ∃ n : Nat, t.s = (n : Int) := ⟨t.s.toNat, by have := HG.out.s1; omega⟩
  have hn1 : 1 ≤ n := by have := HG.out.s1; omega
  have hn6 : n ≤ 6 := by have := HG.out.s6; omega
  have HN : Hid (t.s = (n : Int)) := hn
  have hq2 := HQH.out
  have HQO2 : Hid (∀ wx, Below w.heap.size w wx → GoodT t → Calls Try.prog 47 #[.agg #[.int .i64 (n : Int), .slice sa sn sc, .slice la ln lc]] wx fun e w' => ∃ a' c' ys, e = .returned (.slice a' (2 * sn) c') ∧ OwnQ w' wx.heap.size (.slice a' (2 * sn) c') ys ∧ ys.Perm (stT t.ps sn) ∧ RisT ys ∧ Below wx.heap.size wx w') := by have := HQO.out; rw [hn] at this; exact this
  have HX2 : Hid (X3 V w.heap.size (.int .i64 (n : Int)) (.slice sa sn sc) (.slice la ln lc)) := by rw [← hn]; exact HX.out
  rw [hn] at hV f0 q hq2 ⊢
  have htn : ((n : Int)).toNat = n := by omega
  rw [htn]
  clear h hgd HX0 HX HQG HQH HQO hn htn
  cases hsa : seatB n a
  · simp only [Bool.false_and]
    rw [if_neg (by simp)]
    have q2 := fun wx => hq2 wx a
    rw [hsa] at q2
    clear hsa hq2
    go_enter Try.func14, Try.ntmps14
    go_wp2_with fail
    refine q.mono ?_
    clear q f0 f1 f2 hV
    rintro e w1 ⟨rfl, hb⟩
    have HB1 : Hid (Below w.heap.size w w1) := HB0.out.trans (hb.mono HB0.out.size)
    have HX1 : Hid (X3 w1 w.heap.size (.int .i64 (n : Int)) (.slice sa sn sc) (.slice la ln lc)) := HX2.out.later hb
    obtain ⟨⟨f0, f1, f2⟩, _⟩ := HX1.out
    clear hb HX2
    go_wp2_with fail
    refine (q2 w1).mono ?_
    clear q2 f0 f1 f2
    rintro e w2 ⟨rfl, hgr⟩
    have HB2 : Hid (Below w.heap.size w w2) := HB1.out.trans (hgr.below.mono HB1.out.size)
    clear hgr
    go_wp2
    refine bodyPost_ret (v := .tuple #[.slice none 0 0, .bool false]) (by simp [results, Try.results14, go_sem]; try rfl) rfl ?_
    exact tellI_none HB2.out
  simp only [Bool.true_and]
  have q2 := fun wx => hq2 wx a
  rw [hsa] at q2
  cases hsb : seatB n b
  · simp only [Bool.false_and]
    rw [if_neg (by simp)]
    have q3 := fun wx => hq2 wx b
    rw [hsb] at q3
    clear hsa hsb hq2
    go_enter Try.func14, Try.ntmps14
    go_wp2_with fail
    refine q.mono ?_
    clear q f0 f1 f2 hV
    rintro e w1 ⟨rfl, hb⟩
    have HB1 : Hid (Below w.heap.size w w1) := HB0.out.trans (hb.mono HB0.out.size)
    have HX1 : Hid (X3 w1 w.heap.size (.int .i64 (n : Int)) (.slice sa sn sc) (.slice la ln lc)) := HX2.out.later hb
    obtain ⟨⟨f0, f1, f2⟩, _⟩ := HX1.out
    clear hb HX2
    go_wp2_with fail
    refine (q2 w1).mono ?_
    clear q2 f0 f1 f2
    rintro e w2 ⟨rfl, hgr⟩
    have HB2 : Hid (Below w.heap.size w w2) := HB1.out.trans (hgr.below.mono HB1.out.size)
    have HX2 : Hid (X3 w2 w.heap.size (.int .i64 (n : Int)) (.slice sa sn sc) (.slice la ln lc)) := HX1.out.later hgr.below
    obtain ⟨⟨f0, f1, f2⟩, _⟩ := HX2.out
    clear hgr
    go_wp2_with fail
    refine (q3 w2).mono ?_
    clear q3 f0 f1 f2
    rintro e w3 ⟨rfl, hgr⟩
    have HB3 : Hid (Below w.heap.size w w3) := HB2.out.trans (hgr.below.mono HB2.out.size)
    clear hgr
    go_wp2
    refine bodyPost_ret (v := .tuple #[.slice none 0 0, .bool false]) (by simp [results, Try.results14, go_sem]; try rfl) rfl ?_
    exact tellI_none HB3.out
  simp only [Bool.true_and]
  have q3 := fun wx => hq2 wx b
  rw [hsb] at q3
  have ha2 : 0 ≤ a ∧ a < n := by unfold seatB at hsa; exact of_decide_eq_true hsa
  have hb2 : 0 ≤ b ∧ b < n := by unfold seatB at hsb; exact of_decide_eq_true hsb
  obtain ⟨i, rfl⟩ : ∃ i : Nat, a = (i : Int) := ⟨a.toNat, by omega⟩
  obtain ⟨j, rfl⟩ : ∃ j : Nat, b = (j : Int) := ⟨b.toNat, by omega⟩
  have hin : i < n := by omega
  have hjn : j < n := by omega
  simp only [Int.toNat_natCast]
  have HSB0 : Hid (StB n t.ps.length (stT t.ps sn)) := by have := HG.out.stB (m := sn) (by rw [HPL.out]; exact Nat.le_refl _); rw [HN.out, Int.toNat_natCast] at this; exact this
  have HFE : Hid (farT t j = farL (stT t.ps sn) n j) := by show _ = _; unfold farT; rw [HN.out, Int.toNat_natCast, HPL.out]
  have HFL : Hid ((farT t j).length = n) := by show _ = _; rw [HFE.out, farL_length]
  have hok : FarOk (stT t.ps sn) n j n (farT t j) := by rw [HFE.out]; exact farN_ok HSB0.out hjn n
  have HLO : Hid (-1 ≤ (farT t j).getD i 0) := hok.lo i hin
  have HWS : Hid ((wayL t.ps (farT t j) n i).length ≤ 6) := by have := wayF_length t.ps (farT t j) n ((farT t j).getD i 0).toNat i; have := hok.hi i hin; show _ ≤ _; unfold wayL; omega
  have HSN : Hid (2 * sn ≤ 30) := by have := HG.out.pl; rw [HPL.out] at this; show _ ≤ _; omega
  have HIN : Hid (i < n) := hin
  have HJN : Hid (j < n) := hjn
  have i0 : (0 : Int) ≤ (i : Int) := by omega
  have i1 : (i : Int) < (n : Int) := by omega
  obtain ⟨fa, hfa⟩ : ∃ fa, (farT t j).getD i 0 = fa := ⟨_, rfl⟩
  have HFA : Hid ((farT t j).getD i 0 = fa) := hfa
  simp only [hfa]
  clear hsa hsb hq2 ha2 hb2 hok hin hjn hfa hn1
  obtain ⟨m2, hm2⟩ : ∃ m2, 2 * sn = m2 := ⟨_, rfl⟩
  rw [hm2] at HQO2 HSN
  have HM2 : Hid (2 * sn = m2) := hm2
  clear hm2
  by_cases hf1 : fa = -1
  · rw [decide_eq_false (fun h => h hf1)]
    rw [if_neg (by simp)]
    have hfe : (fa == (-1 : Int)) = true := by rw [hf1]; rfl
    go_enter Try.func14, Try.ntmps14
    go_wp2_with fail
    refine q.mono ?_
    clear q f0 f1 f2 hV
    rintro e w1 ⟨rfl, hb⟩
    have HB1 : Hid (Below w.heap.size w w1) := HB0.out.trans (hb.mono HB0.out.size)
    have HX1 : Hid (X3 w1 w.heap.size (.int .i64 (n : Int)) (.slice sa sn sc) (.slice la ln lc)) := HX2.out.later hb
    obtain ⟨⟨f0, f1, f2⟩, _⟩ := HX1.out
    clear hb HX2
    go_wp2_with fail
    refine (q2 w1).mono ?_
    clear q2 f0 f1 f2
    rintro e w2 ⟨rfl, hgr⟩
    have HB2 : Hid (Below w.heap.size w w2) := HB1.out.trans (hgr.below.mono HB1.out.size)
    have HX2 : Hid (X3 w2 w.heap.size (.int .i64 (n : Int)) (.slice sa sn sc) (.slice la ln lc)) := HX1.out.later hgr.below
    obtain ⟨⟨f0, f1, f2⟩, _⟩ := HX2.out
    clear hgr
    go_wp2_with fail
    refine (q3 w2).mono ?_
    clear q3 f0 f1 f2
    rintro e w3 ⟨rfl, hgr⟩
    have HB3 : Hid (Below w.heap.size w w3) := HB2.out.trans (hgr.below.mono HB2.out.size)
    have HX3 : Hid (X3 w3 w.heap.size (.int .i64 (n : Int)) (.slice sa sn sc) (.slice la ln lc)) := HX2.out.later hgr.below
    obtain ⟨⟨f0, f1, f2⟩, _⟩ := HX3.out
    clear hgr
    go_wp2_with fail
    refine (HQO2.out w3 HB3.out HG.out).mono ?_
    clear f0 f1 f2 HQO2
    rintro e w4 ⟨a4, c4, ys, rfl, ho, hperm, hris, hb⟩
    have HB4 : Hid (Below w.heap.size w w4) := HB3.out.trans (hb.mono HB3.out.size)
    have HX4 : Hid (X3 w4 w.heap.size (.int .i64 (n : Int)) (.slice sa sn sc) (.slice la ln lc)) := HX3.out.later hb
    obtain ⟨⟨f0, f1, f2⟩, _⟩ := HX4.out
    have HQ4 : Hid (RdQ w4 a4 ys) := ho.rd'.2
    have HPM : Hid (ys.Perm (stT t.ps t.ps.length)) := by rw [HPL.out]; exact hperm
    have HRI : Hid (RisT ys) := hris
    have HYL : Hid (ys.length = m2) := by show _ = _; rw [hperm.length_eq, stT_length, HM2.out]
    have HYE : Hid (farL ys n j = farT t j) := by show _ = _; rw [HFE.out]; exact farL_congr (fun y => hperm.mem_iff) n j
    have q5 := pairsTo_c j n t.ps.length a4 m2 c4 ys w4 HJN.out hn6 HYL.out HSN.out (HSB0.out.perm hperm) HQ4.out
    rw [HYE.out] at q5
    clear ho hperm hris hb HX1 HX3
    go_wp2_with fail
    refine q5.mono ?_
    clear q5 f0 f1 f2
    rintro e w5 ⟨g, rfl, ho, hb⟩
    have HB5 : Hid (Below w.heap.size w w5) := HB4.out.trans (hb.mono HB4.out.size)
    have HO5 : Hid (Rd w5 (some ⟨g, 0, none⟩) (farT t j)) := ho.rd'.2
    have HQ5 : Hid (RdQ w5 a4 ys) := HQ4.out.later hb
    obtain ⟨b5, o5, e5, g5⟩ := HO5.out.get (k := i) (by rw [HFL.out]; exact HIN.out)
    simp only [Option.some.injEq, Addr.mk.injEq, and_true] at e5
    obtain ⟨rfl, rfl⟩ := e5
    rw [HFA.out, Nat.zero_add] at g5
    clear ho hb HX4 HQ4 HYE
    clear hf1
    go_wp2
    refine bodyPost_ret (v := .tuple #[.slice none 0 0, .bool false]) (by simp [results, Try.results14, go_sem]; try rfl) rfl ?_
    exact tellI_none HB5.out
  rw [decide_eq_true hf1, if_pos rfl]
  have hfe : (fa == (-1 : Int)) = false := by rw [beq_eq_false_iff_ne]; exact hf1
  have HF0 : Hid (0 ≤ (farT t j).getD i 0) := by have := HLO.out; rw [HFA.out] at this ⊢; show _ ≤ _; omega
  obtain ⟨zl, hzl⟩ : ∃ zl, wayL t.ps (farT t j) n i = zl := ⟨_, rfl⟩
  rw [hzl]
  obtain ⟨zn, hzn⟩ : ∃ zn, zl.length = zn := ⟨_, rfl⟩
  have HZN : Hid (zl.length = zn) := hzn
  have HZL : Hid (wayL t.ps (farT t j) n i = zl) := hzl
  clear hzl hzn
  clear hf1
  go_enter Try.func14, Try.ntmps14
  go_wp2_with fail
  refine q.mono ?_
  clear q f0 f1 f2 hV
  rintro e w1 ⟨rfl, hb⟩
  have HB1 : Hid (Below w.heap.size w w1) := HB0.out.trans (hb.mono HB0.out.size)
  have HX1 : Hid (X3 w1 w.heap.size (.int .i64 (n : Int)) (.slice sa sn sc) (.slice la ln lc)) := HX2.out.later hb
  obtain ⟨⟨f0, f1, f2⟩, _⟩ := HX1.out
  clear hb HX2
  go_wp2_with fail
  refine (q2 w1).mono ?_
  clear q2 f0 f1 f2
  rintro e w2 ⟨rfl, hgr⟩
  have HB2 : Hid (Below w.heap.size w w2) := HB1.out.trans (hgr.below.mono HB1.out.size)
  have HX2 : Hid (X3 w2 w.heap.size (.int .i64 (n : Int)) (.slice sa sn sc) (.slice la ln lc)) := HX1.out.later hgr.below
  obtain ⟨⟨f0, f1, f2⟩, _⟩ := HX2.out
  clear hgr
  go_wp2_with fail
  refine (q3 w2).mono ?_
  clear q3 f0 f1 f2
  rintro e w3 ⟨rfl, hgr⟩
  have HB3 : Hid (Below w.heap.size w w3) := HB2.out.trans (hgr.below.mono HB2.out.size)
  have HX3 : Hid (X3 w3 w.heap.size (.int .i64 (n : Int)) (.slice sa sn sc) (.slice la ln lc)) := HX2.out.later hgr.below
  obtain ⟨⟨f0, f1, f2⟩, _⟩ := HX3.out
  clear hgr
  go_wp2_with fail
  refine (HQO2.out w3 HB3.out HG.out).mono ?_
  clear f0 f1 f2 HQO2
  rintro e w4 ⟨a4, c4, ys, rfl, ho, hperm, hris, hb⟩
  have HB4 : Hid (Below w.heap.size w w4) := HB3.out.trans (hb.mono HB3.out.size)
  have HX4 : Hid (X3 w4 w.heap.size (.int .i64 (n : Int)) (.slice sa sn sc) (.slice la ln lc)) := HX3.out.later hb
  obtain ⟨⟨f0, f1, f2⟩, _⟩ := HX4.out
  have HQ4 : Hid (RdQ w4 a4 ys) := ho.rd'.2
  have HPM : Hid (ys.Perm (stT t.ps t.ps.length)) := by rw [HPL.out]; exact hperm
  have HRI : Hid (RisT ys) := hris
  have HYL : Hid (ys.length = m2) := by show _ = _; rw [hperm.length_eq, stT_length, HM2.out]
  have HYE : Hid (farL ys n j = farT t j) := by show _ = _; rw [HFE.out]; exact farL_congr (fun y => hperm.mem_iff) n j
  have q5 := pairsTo_c j n t.ps.length a4 m2 c4 ys w4 HJN.out hn6 HYL.out HSN.out (HSB0.out.perm hperm) HQ4.out
  rw [HYE.out] at q5
  clear ho hperm hris hb HX1 HX3
  go_wp2_with fail
  refine q5.mono ?_
  clear q5 f0 f1 f2
  rintro e w5 ⟨g, rfl, ho, hb⟩
  have HB5 : Hid (Below w.heap.size w w5) := HB4.out.trans (hb.mono HB4.out.size)
  have HO5 : Hid (Rd w5 (some ⟨g, 0, none⟩) (farT t j)) := ho.rd'.2
  have HQ5 : Hid (RdQ w5 a4 ys) := HQ4.out.later hb
  obtain ⟨b5, o5, e5, g5⟩ := HO5.out.get (k := i) (by rw [HFL.out]; exact HIN.out)
  simp only [Option.some.injEq, Addr.mk.injEq, and_true] at e5
  obtain ⟨rfl, rfl⟩ := e5
  rw [HFA.out, Nat.zero_add] at g5
  clear ho hb HX4 HQ4 HYE
  have q6 := nearingWay_c t j i n n (some ⟨g, 0, none⟩) (farT t j) a4 m2 c4 ys w5 HG.out (by rw [HN.out, Int.toNat_natCast]) rfl HJN.out HFL.out HIN.out HF0.out HO5.out HYL.out HSN.out HPM.out HRI.out HQ5.out
  rw [HZL.out, HZN.out] at q6
  go_wp2_with fail
  refine q6.mono ?_
  clear q6 g5
  rintro e w6 ⟨a', c', rfl, ho, hb⟩
  have HO6 : Hid (Own w6 w.heap.size (.slice a' zn c') zl) := ho.mono HB5.out.size
  have HB6 : Hid (Below w.heap.size w w6) := HB5.out.trans (hb.mono HB5.out.size)
  clear ho hb
  go_wp2
  refine bodyPost_ret (v := .tuple #[.slice a' zn c', .bool true]) (by simp [results, Try.results14, go_sem]; try rfl) rfl ?_
  exact ⟨a', c', by rw [HZN.out], by rw [HZN.out]; exact HO6.out, HB6.out⟩

end Go.Proofs.Ytbjpkklonjlmiaa
