/- Chapter 13: the sitting of an epoch. -/
import Derived.Test.YtaokmjbhgkfnfaaT13s
namespace Go.Proofs.Ytaokmjbhgkfnfaa
set_option linter.unusedVariables false
set_option maxRecDepth 1000000
set_option linter.unusedSimpArgs false
open Go.RowKit

theorem takeU13 {P : Program} {ops : Array Oper} {Q : Exit → Act → World → Prop} {md : Region.Mode} {S : World → Prop} {i : Nat} {oi : Oper} {v : Value} {d : Option Tmp} {fuel : Nat} {listed : Array Bool} {a : Act} {w : World} (hi : ops[i]? = some oi) (hd : oi.dst = d)
    (hs : Region.noSelect ops = true) (hf : Region.free md ops listed i = true) (hr : (Region.ready md ops listed).contains i = true)
    (hQ : ∀ c a w, Q (.panic c) (a.put d v) w → Q (.panic c) a w) (hy : YieldsIf P ops S oi v a) (hS : S w)
    (h : wpAnyH P md ops Q S fuel (listed.setIfInBounds i true) (a.put d v) w) : wpAnyH P md ops Q S (fuel + 1) listed a w := by
  subst hd
  exact wpAnyH_take hi hs hf hr hQ hy hS h

set_option maxHeartbeats 2000000 in
theorem sittingIn_c (f e : Int) (sa : Option Addr) (sn sc : Nat) (la : Option Addr) (ln lc : Nat) (ta : Option Addr) (tn tc : Nat) (ep : Int) (N : Nat) (sg : List (List Int)) (w : World) (h0 : 0 ≤ f) (h2 : f ≤ 2) (hN : 3 * f + 1 = (N : Int)) (hs : sg.length = sn) (hr : RdII w sa sg) (hg : sgsB f sg = true) :
    Calls Try.prog 63 #[.agg #[.int .i64 f, .int .i64 e, .slice sa sn sc, .slice la ln lc, .slice ta tn tc], .int .i64 ep] w fun x w' => ∃ g, x = .returned (.agg #[.int .i64 f, .slice la ln lc, .slice (some ⟨g, 0, none⟩) N N]) ∧ RdII w' (some ⟨g, 0, none⟩) (sitL N ep sg) ∧ Below w.heap.size w w' := by
  obtain ⟨ir, hir, hz0, hz1, hz2⟩ := info_parts Try.infoRis
  have hN7 : N ≤ 7 := by omega
  have hsn : sn ≤ 200 := by rw [← hs]; exact (sgsB_all hg).1
  have HSG : Hid (∀ k, k < sn → ∃ x0 x2 : Int, ∃ m : Nat, sg.getD k [] = [x0, (m : Int), x2] ∧ m < N) := fun k hk => by
    have h := (sgsB_all hg).2 _ (mem_getD [] (show k < sg.length by omega))
    obtain ⟨x0, x1, x2, hx, _⟩ := sig_three (f := f) (sigB_mem h).1
    have hb := (sigB_mem h).2.2.1
    rw [hx] at hb
    simp only [List.getD_cons_zero, List.getD_cons_succ] at hb
    refine ⟨x0, x2, x1.toNat, ?_, by omega⟩
    rw [hx, show ((x1.toNat : Nat) : Int) = x1 by omega]
  have HSL : Hid (sg.length = sn) := hs
  have HR : Hid (RdII w sa sg) := hr
  have q1 := councilOf_c f e sa sn sc la ln lc ta tn tc ((w.alloc (.cells #[.int .i64 f, .int .i64 e, .slice sa sn sc, .slice la ln lc, .slice ta tn tc] 29)).alloc (.cells #[.int .i64 0, .slice none 0 0, .slice none 0 0] 97))
  have HX1 : Hid (X5 ((w.alloc (.cells #[.int .i64 f, .int .i64 e, .slice sa sn sc, .slice la ln lc, .slice ta tn tc] 29)).alloc (.cells #[.int .i64 0, .slice none 0 0, .slice none 0 0] 97)) w.heap.size (.int .i64 f) (.int .i64 e) (.slice sa sn sc) (.slice la ln lc) (.slice ta tn tc)) := (x5_new w (.int .i64 f) (.int .i64 e) (.slice sa sn sc) (.slice la ln lc) (.slice ta tn tc) 29 w.heap.size rfl).later (balloc _ _)
  have HY1 : Hid (X3 ((w.alloc (.cells #[.int .i64 f, .int .i64 e, .slice sa sn sc, .slice la ln lc, .slice ta tn tc] 29)).alloc (.cells #[.int .i64 0, .slice none 0 0, .slice none 0 0] 97)) (w.heap.size + 1) (.int .i64 0) (.slice none 0 0) (.slice none 0 0)) := x3_new _ _ _ _ _ _ (by simp)
  have HB1 : Hid (Below w.heap.size w ((w.alloc (.cells #[.int .i64 f, .int .i64 e, .slice sa sn sc, .slice la ln lc, .slice ta tn tc] 29)).alloc (.cells #[.int .i64 0, .slice none 0 0, .slice none 0 0] 97))) := (balloc w _).alloc (balloc w _).size _
  have HS1 : Hid (w.heap.size + 2 ≤ ((w.alloc (.cells #[.int .i64 f, .int .i64 e, .slice sa sn sc, .slice la ln lc, .slice ta tn tc] 29)).alloc (.cells #[.int .i64 0, .slice none 0 0, .slice none 0 0] 97)).heap.size) := by show _ ≤ _; simp
  have HQ2 : Hid (∀ wx, Calls Try.prog 81 #[.agg #[.int .i64 f, .slice la ln lc]] wx fun e w' => e = .returned (.int .i64 (N : Int)) ∧ Below wx.heap.size wx w') := fun wx => by have := members_c f (.slice la ln lc) wx h0 h2; rw [hN] at this; exact this
  clear hs hr hg h0 h2 hN
  go_enter Try.func63, Try.ntmps63
  go_wp2_with fail
  refine q1.mono ?_
  clear q1
  rintro x w1 ⟨rfl, hb⟩
  have HX2 : Hid (X5 w1 w.heap.size (.int .i64 f) (.int .i64 e) (.slice sa sn sc) (.slice la ln lc) (.slice ta tn tc)) := HX1.out.later hb
  have HY2 : Hid (X3 w1 (w.heap.size + 1) (.int .i64 0) (.slice none 0 0) (.slice none 0 0)) := HY1.out.later hb
  have HB2 : Hid (Below w.heap.size w w1) := HB1.out.trans (hb.mono HB1.out.size)
  have HS2 : Hid (w.heap.size + 2 ≤ w1.heap.size) := Nat.le_trans HS1.out hb.size
  clear HX1 HY1 HB1 HS1 hb
  have hbC := balloc w1 (.cells #[.int .i64 f, .slice la ln lc, .slice none 0 0] 97)
  have hXC := x3_new w1 (.int .i64 f) (.slice la ln lc) (.slice none 0 0) 97 w1.heap.size rfl
  have hzC : (w1.alloc (.cells #[.int .i64 f, .slice la ln lc, .slice none 0 0] 97)).heap.size = w1.heap.size + 1 := by simp
  have HX3 : Hid (X5 (w1.alloc (.cells #[.int .i64 f, .slice la ln lc, .slice none 0 0] 97)) w.heap.size (.int .i64 f) (.int .i64 e) (.slice sa sn sc) (.slice la ln lc) (.slice ta tn tc)) := HX2.out.later hbC
  have HY3 : Hid (X3 (w1.alloc (.cells #[.int .i64 f, .slice la ln lc, .slice none 0 0] 97)) (w.heap.size + 1) (.int .i64 0) (.slice none 0 0) (.slice none 0 0)) := HY2.out.later hbC
  have HZ3 : Hid (X3 (w1.alloc (.cells #[.int .i64 f, .slice la ln lc, .slice none 0 0] 97)) w1.heap.size (.int .i64 f) (.slice la ln lc) (.slice none 0 0)) := hXC
  have HB3 : Hid (Below w.heap.size w (w1.alloc (.cells #[.int .i64 f, .slice la ln lc, .slice none 0 0] 97))) := HB2.out.trans (hbC.mono HB2.out.size)
  have HS3 : Hid (w1.heap.size + 1 ≤ (w1.alloc (.cells #[.int .i64 f, .slice la ln lc, .slice none 0 0] 97)).heap.size) := by show _ ≤ _; omega
  clear HX2 HY2 HB2 hbC hzC hXC
  go_wp2_with fail
  refine (HQ2.out _).mono ?_
  clear HQ2
  rintro x w2 ⟨rfl, hb⟩
  have HX4 : Hid (X5 w2 w.heap.size (.int .i64 f) (.int .i64 e) (.slice sa sn sc) (.slice la ln lc) (.slice ta tn tc)) := HX3.out.later hb
  have HY4 : Hid (X3 w2 (w.heap.size + 1) (.int .i64 0) (.slice none 0 0) (.slice none 0 0)) := HY3.out.later hb
  have HZ4 : Hid (X3 w2 w1.heap.size (.int .i64 f) (.slice la ln lc) (.slice none 0 0)) := HZ3.out.later hb
  have HB4 : Hid (Below w.heap.size w w2) := HB3.out.trans (hb.mono HB3.out.size)
  have HS4 : Hid (w1.heap.size + 1 ≤ w2.heap.size) := Nat.le_trans HS3.out hb.size
  clear HX3 HY3 HZ3 HB3 HS3 hb
  obtain ⟨R, hmk, hOR, hGR⟩ := run_make_full (P := Try.prog) w2 w2.heap.size 95 87 ir (.slice none 0 0) 1 Try.underlying95 hir hz0 hz1 .i64 .i64 N (by rw [hz2]; omega) (by unfold maxLen; omega) (Nat.le_refl _)
  have hbR : Below w2.heap.size w2 R := ⟨hGR.os, hGR.tape, hGR.output, hGR.size, fun q hq => hGR.block q hq (by simp)⟩
  have hRR : OwnRR R w2.heap.size w2.heap.size N (sitL N ep (sg.take 0)) := by
    refine ⟨List.replicate N nilV, by simp, by simp [sitL_length], ?_, fun j hj => ?_⟩
    · have e1 : (madeCells (Value.slice none 0 0).cells (N * 1)).toList = List.replicate N nilV := by
        rw [Nat.mul_one]
        exact toList_madeCells_one _ _
      rw [e1] at hOR
      exact hOR
    · rw [getD_rep _ _ _ _ hj, sitL_getD ep _ hj]
      exact nilOwn _ _
  have HX5 : Hid (X5 R w.heap.size (.int .i64 f) (.int .i64 e) (.slice sa sn sc) (.slice la ln lc) (.slice ta tn tc)) := HX4.out.later hbR
  have HY5 : Hid (X3 R (w.heap.size + 1) (.int .i64 0) (.slice none 0 0) (.slice none 0 0)) := HY4.out.later hbR
  have HZ5 : Hid (X3 R w1.heap.size (.int .i64 f) (.slice la ln lc) (.slice none 0 0)) := HZ4.out.later hbR
  have HB5 : Hid (Below w.heap.size w R) := HB4.out.trans (hbR.mono HB4.out.size)
  have HR5 : Hid (OwnRR R w2.heap.size w2.heap.size N (sitL N ep (sg.take 0))) := hRR
  have hltR : w2.heap.size < R.heap.size := (World.ownsRow.lt hOR _ rfl).2
  have HS5 : Hid (w2.heap.size < R.heap.size) := hltR
  have hw1 : ¬ w.heap.size = w1.heap.size := by have := HS2.out; omega
  have hw2 : ¬ w1.heap.size = w2.heap.size := by have := HS4.out; omega
  have grown1 := grown_setCell R w1.heap.size 2 (.slice (some ⟨w2.heap.size, 0, none⟩) N N)
  have HX6 : Hid (X5 (R.setCell ⟨w1.heap.size, 2, none⟩ (.slice (some ⟨w2.heap.size, 0, none⟩) N N)) w.heap.size (.int .i64 f) (.int .i64 e) (.slice sa sn sc) (.slice la ln lc) (.slice ta tn tc)) := HX5.out.other hw1
  have HY6 : Hid (X3 (R.setCell ⟨w1.heap.size, 2, none⟩ (.slice (some ⟨w2.heap.size, 0, none⟩) N N)) (w.heap.size + 1) (.int .i64 0) (.slice none 0 0) (.slice none 0 0)) := HY5.out.other (by have := HS2.out; omega)
  have HZ6 : Hid (X3 (R.setCell ⟨w1.heap.size, 2, none⟩ (.slice (some ⟨w2.heap.size, 0, none⟩) N N)) w1.heap.size (.int .i64 f) (.slice la ln lc) (.slice (some ⟨w2.heap.size, 0, none⟩) N N)) := HZ5.out.set2 _
  have HB6 : Hid (Below w.heap.size w (R.setCell ⟨w1.heap.size, 2, none⟩ (.slice (some ⟨w2.heap.size, 0, none⟩) N N))) := HB5.out.setCell (by show w.heap.size ≤ w1.heap.size; have := HS2.out; omega) _
  have HR6 : Hid (OwnRR (R.setCell ⟨w1.heap.size, 2, none⟩ (.slice (some ⟨w2.heap.size, 0, none⟩) N N)) w2.heap.size w2.heap.size N (sitL N ep (sg.take 0))) := HR5.out.other grown1 (by have := HS4.out; omega)
  have HS6 : Hid (w2.heap.size < (R.setCell ⟨w1.heap.size, 2, none⟩ (.slice (some ⟨w2.heap.size, 0, none⟩) N N)).heap.size) := Nat.lt_of_lt_of_le HS5.out grown1.size
  obtain ⟨⟨b0, b1, b2, b3, b4⟩, _⟩ := HX6.out
  obtain ⟨⟨z0, z1, z2⟩, zf⟩ := HZ5.out
  have zf2 := zf 2
  obtain ⟨E, hE⟩ : ∃ E, R.setCell ⟨w1.heap.size, 2, none⟩ (.slice (some ⟨w2.heap.size, 0, none⟩) N N) = E := ⟨_, rfl⟩
  rw [hE] at HX6 HY6 HZ6 HB6 HR6 HS6 b0 b1 b2 b3 b4
  clear HX5 HY5 HZ5 HB5 HR5 HS5 HX4 HY4 HB4 hRR hOR hGR hbR grown1 zf hltR
  obtain ⟨⟨y0, y1, y2⟩, yf⟩ := HZ4.out
  clear yf HZ4
  go_wp2
  clear y0 y1 y2 z0 z1 z2 zf2 hE hw1 hw2 b0 b1 b2 b3 b4 hir hz0 hz1 hz2
  go_loopw [21] (fun iv wr => ∃ (k : Nat), k ≤ sn ∧ iv = .int .i64 k ∧ Hid (OwnRR wr w2.heap.size w2.heap.size N (sitL N ep (sg.take k))) ∧ Hid (X5 wr w.heap.size (.int .i64 f) (.int .i64 e) (.slice sa sn sc) (.slice la ln lc) (.slice ta tn tc)) ∧ Hid (X3 wr (w.heap.size + 1) (.int .i64 0) (.slice none 0 0) (.slice none 0 0)) ∧ Hid (X3 wr w1.heap.size (.int .i64 f) (.slice la ln lc) (.slice (some ⟨w2.heap.size, 0, none⟩) N N)) ∧ Hid (Below w.heap.size w wr) ∧ Hid (w2.heap.size < wr.heap.size)) (fun iv _ => sn - (intOf iv).toNat)
  case atStart => exact ⟨0, Nat.zero_le _, rfl, HR6, HX6, HY6, HZ6, HB6, HS6⟩
  case round =>
    clear HR6 HX6 HY6 HZ6 HB6 HS6
    obtain ⟨k, hk, rfl, HRR, HXR, HYR, HZR, HBR, HSR⟩ := hrel
    by_cases hlt : k < sn
    case neg =>
      obtain rfl : k = sn := by omega
      have HRR1 := HRR.out
      rw [List.take_of_length_le (by rw [HSL.out]; exact Nat.le_refl _)] at HRR1
      have hF1 := ((HYR.out.set0 (.int .i64 f)).set1 (.slice la ln lc)).set2 (.slice (some ⟨w2.heap.size, 0, none⟩) N N)
      have hF2 := HRR1.other (grown_trans (grown_trans (grown_setCell wr (w.heap.size + 1) 0 (.int .i64 f)) (grown_setCell _ (w.heap.size + 1) 1 (.slice la ln lc))) (grown_setCell _ (w.heap.size + 1) 2 (.slice (some ⟨w2.heap.size, 0, none⟩) N N))) (by have := HS2.out; have := HS4.out; omega)
      have hF3 : Below w.heap.size w (((wr.setCell ⟨w.heap.size + 1, 0, none⟩ (.int .i64 f)).setCell ⟨w.heap.size + 1, 1, none⟩ (.slice la ln lc)).setCell ⟨w.heap.size + 1, 2, none⟩ (.slice (some ⟨w2.heap.size, 0, none⟩) N N)) := ((HBR.out.setCell (by show w.heap.size ≤ w.heap.size + 1; omega) _).setCell (by show w.heap.size ≤ w.heap.size + 1; omega) _).setCell (by show w.heap.size ≤ w.heap.size + 1; omega) _
      obtain ⟨⟨r0, r1, r2⟩, rf⟩ := HYR.out
      obtain ⟨⟨z0, z1, z2⟩, zf⟩ := HZR.out
      have rf0 := rf 0
      have rf1 := rf 1
      have rf2 := rf 2
      clear rf zf HYR HZR HRR HXR
      obtain ⟨FW, hFW⟩ : ∃ F, ((wr.setCell ⟨w.heap.size + 1, 0, none⟩ (.int .i64 f)).setCell ⟨w.heap.size + 1, 1, none⟩ (.slice la ln lc)).setCell ⟨w.heap.size + 1, 2, none⟩ (.slice (some ⟨w2.heap.size, 0, none⟩) N N) = F := ⟨_, rfl⟩
      rw [hFW] at hF1 hF2 hF3
      obtain ⟨⟨t0, t1, t2⟩, tf⟩ := hF1
      clear tf
      have HF2 : Hid (RdII FW (some ⟨w2.heap.size, 0, none⟩) (sitL N ep sg)) := hF2.rd.2
      have HF3 : Hid (Below w.heap.size w FW) := hF3
      clear hF2 hF3
      go_wp2
      refine bodyPost_ret (v := .agg #[.int .i64 f, .slice la ln lc, .slice (some ⟨w2.heap.size, 0, none⟩) N N]) (by simp [results, Try.results63, go_sem, t0, t1, t2]; try rfl) rfl ?_
      exact ⟨_, rfl, HF2.out, HF3.out⟩
    have hkl : k < sg.length := by rw [HSL.out]; exact hlt
    obtain ⟨x0, x2, m, hx, hm⟩ := HSG.out k hlt
    obtain ⟨b, o, ro, rc, rfl, g1, hro⟩ := (HR.out.later HBR.out).get hkl
    have hst := sit_step (N := N) (ep := ep) hkl (show (sg.getD k []).getD 1 0 = (m : Nat) by rw [hx]; rfl) hm
    rw [hx] at g1 hro hst
    simp only [List.getD_cons_zero, List.getD_cons_succ, List.length_cons, List.length_nil, Nat.zero_add, Nat.reduceAdd] at g1 hst
    obtain ⟨gb, go, rfl, e0⟩ := hro.get (k := 0) (by simp)
    obtain ⟨gb', go', he, e1⟩ := hro.get (k := 1) (by simp)
    simp only [Option.some.injEq, Addr.mk.injEq] at he
    obtain ⟨rfl, rfl, _⟩ := he
    obtain ⟨gb', go', he, e2⟩ := hro.get (k := 2) (by simp)
    simp only [Option.some.injEq, Addr.mk.injEq] at he
    obtain ⟨rfl, rfl, _⟩ := he
    simp only [List.getD_cons_zero, List.getD_cons_succ, Nat.add_zero] at e0 e1 e2
    obtain ⟨ac, cc, gm, hown, hfz⟩ := HRR.out.get hm
    have hris : Ris ltI ((sitL N ep (sg.take k)).getD m []) := sitL_ris _ _ _ _ (mem_getD [] (by rw [sitL_length]; exact hm))
    have hlen : ((sitL N ep (sg.take k)).getD m []).length ≤ 200 := by
      rw [sitL_getD ep _ hm]
      have := sitM_len ep (m : Nat) (sg.take k) []
      rw [List.length_take] at this
      simp only [List.length_nil] at this
      omega
    obtain ⟨cur, hcur⟩ : ∃ cur, (sitL N ep (sg.take k)).getD m [] = cur := ⟨_, rfl⟩
    rw [hcur] at gm hown hris hlen hst
    clear hcur
    obtain ⟨cn, hcn⟩ : ∃ cn, cur.length = cn := ⟨_, rfl⟩
    rw [hcn] at gm hown hlen
    have HST : Hid (sitL N ep (sg.take (k + 1)) = if x0 = ep ∧ x2 ∉ cur then (sitL N ep (sg.take k)).set m (insL ltI x2 cur) else sitL N ep (sg.take k)) := hst
    have HRIS : Hid (Ris ltI cur) := hris
    have HCN : Hid (cur.length = cn) := hcn
    obtain ⟨⟨z0, z1, z2⟩, zf⟩ := HZR.out
    have HCE : Hid (∀ wx, Below wr.heap.size wr wx → (wx.cell? ⟨gb, go, none⟩ = some (.int .i64 x0) ∧ wx.cell? ⟨gb, go + 1, none⟩ = some (.int .i64 (m : Int)) ∧ wx.cell? ⟨gb, go + 2, none⟩ = some (.int .i64 x2))) := fun wx h => ⟨cell_keep (S := 0) h e0, cell_keep (S := 0) h e1, cell_keep (S := 0) h e2⟩
    have HZC : Hid (∀ wx, Below wr.heap.size wr wx → (wx.cell? ⟨w1.heap.size, 2, none⟩ = some (.slice (some ⟨w2.heap.size, 0, none⟩) N N) ∧ wx.cell? ⟨w2.heap.size, m, none⟩ = some (.slice ac cn cc))) := fun wx h => ⟨cell_keep (S := 0) h z2, cell_keep (S := 0) h gm⟩
    have HOW : Hid (Own wr w2.heap.size (.slice ac cn cc) cur) := hown
    have k0 : (0 : Int) ≤ (k : Int) := by omega
    have k1 : (k : Int) < (sn : Int) := by omega
    have m0 : (0 : Int) ≤ (m : Int) := by omega
    have m1 : (m : Int) < (N : Int) := by omega
    obtain ⟨⟨b0, b1, b2, b3, b4⟩, bf⟩ := HXR.out
    clear hst hris hcn hown hro hx hkl zf bf b0 b1 b3 b4
    go_wp2_with fail
    clear e0 e1 e2 z0 z1 z2 gm g1 b2 hfz
    refine wp_region_held_drew (S := (fun X => X.cell? ⟨gb, go, none⟩ = some (.int .i64 x0) ∧ X.cell? ⟨gb, go + 1, none⟩ = some (.int .i64 (m : Int)) ∧ X.cell? ⟨gb, go + 2, none⟩ = some (.int .i64 x2))) (by kernel_rfl) ?_ (fun hHeld => ?_)
    · exact HCE.out _ (Below.refl _ _).drew
    obtain ⟨D0, hD0⟩ : ∃ D, wr.drew = D := ⟨_, rfl⟩
    have hb0 : Below wr.heap.size wr D0 := by rw [← hD0]; exact (Below.refl _ _).drew
    rw [hD0] at hHeld ⊢
    have HD0 : Hid (Below wr.heap.size wr D0) := hb0
    clear hb0 hD0
    refine takeU13 (i := 0) (oi := _) (v := ?_) (d := some 25) rfl (by kernel_rfl) (by kernel_rfl) (by kernel_rfl) (by kernel_rfl) (fun _ _ _ h => h) (Or.inl ⟨by rfl, ?_⟩) (by assumption) ?_
    rotate_left
    · (intro w hSw; (try dsimp only at hSw); go_simp <;> with_reducible rfl)
    try simp only [Act.put, List.setIfInBounds_toArray, List.set_cons_zero, List.set_cons_succ]
    refine takeU13 (i := 1) (oi := _) (v := ?_) (d := some 26) rfl (by kernel_rfl) (by kernel_rfl) (by kernel_rfl) (by kernel_rfl) (fun _ _ _ h => h) (Or.inl ⟨by rfl, ?_⟩) (by assumption) ?_
    rotate_left
    · (intro w hSw; (try dsimp only at hSw); go_simp <;> with_reducible rfl)
    try simp only [Act.put, List.setIfInBounds_toArray, List.set_cons_zero, List.set_cons_succ]
    refine takeU13 (i := 2) (oi := _) (v := ?_) (d := some 27) rfl (by kernel_rfl) (by kernel_rfl) (by kernel_rfl) (by kernel_rfl) (fun _ _ _ h => h) (Or.inl ⟨by rfl, ?_⟩) (by assumption) ?_
    rotate_left
    · (intro w hSw; (try dsimp only at hSw); go_simp <;> with_reducible rfl)
    try simp only [Act.put, List.setIfInBounds_toArray, List.set_cons_zero, List.set_cons_succ]
    refine takeU13 (i := 3) (oi := _) (v := ?_) (d := some 28) rfl (by kernel_rfl) (by kernel_rfl) (by kernel_rfl) (by kernel_rfl) (fun _ _ _ h => h) (Or.inl ⟨by rfl, ?_⟩) (by assumption) ?_
    rotate_left
    · (intro w hSw; (try dsimp only at hSw); go_simp <;> with_reducible rfl)
    try simp only [Act.put, List.setIfInBounds_toArray, List.set_cons_zero, List.set_cons_succ]
    refine takeU13 (i := 4) (oi := _) (v := ?_) (d := some 29) rfl (by kernel_rfl) (by kernel_rfl) (by kernel_rfl) (by kernel_rfl) (fun _ _ _ h => h) (Or.inl ⟨by rfl, ?_⟩) (by assumption) ?_
    rotate_left
    · (intro w hSw; (try dsimp only at hSw); go_simp <;> with_reducible rfl)
    try simp only [Act.put, List.setIfInBounds_toArray, List.set_cons_zero, List.set_cons_succ]
    refine takeU13 (i := 5) (oi := _) (v := ?_) (d := some 30) rfl (by kernel_rfl) (by kernel_rfl) (by kernel_rfl) (by kernel_rfl) (fun _ _ _ h => h) (Or.inl ⟨by rfl, ?_⟩) (by assumption) ?_
    rotate_left
    · (intro w hSw; (try dsimp only at hSw); go_simp <;> with_reducible rfl)
    try simp only [Act.put, List.setIfInBounds_toArray, List.set_cons_zero, List.set_cons_succ]
    refine takeU13 (i := 6) (oi := _) (v := ?_) (d := some 8) rfl (by kernel_rfl) (by kernel_rfl) (by kernel_rfl) (by kernel_rfl) (fun _ _ _ h => h) (Or.inl ⟨by rfl, ?_⟩) (by assumption) ?_
    rotate_left
    · (intro w hSw; (try dsimp only at hSw); go_simp <;> with_reducible rfl)
    try simp only [Act.put, List.setIfInBounds_toArray, List.set_cons_zero, List.set_cons_succ]
    refine takeU13 (i := 7) (oi := _) (v := ?_) (d := some 9) rfl (by kernel_rfl) (by kernel_rfl) (by kernel_rfl) (by kernel_rfl) (fun _ _ _ h => h) (Or.inl ⟨by rfl, ?_⟩) (by assumption) ?_
    rotate_left
    · (intro w hSw; (try dsimp only at hSw); go_simp <;> with_reducible rfl)
    try simp only [Act.put, List.setIfInBounds_toArray, List.set_cons_zero, List.set_cons_succ]
    refine wpAnyH_done (by kernel_rfl) ?_ _
    clear hHeld
    obtain ⟨e0, e1, e2⟩ := HCE.out _ HD0.out
    obtain ⟨z2, gm⟩ := HZC.out _ HD0.out
    by_cases hep : x0 = ep
    case neg =>
      have hep2 : (x0 == ep) = false := by simpa using hep
      have HEP : Hid (¬ (x0 = ep ∧ x2 ∉ cur)) := fun h => hep h.1
      clear hep
      go_wp2
      exact ⟨⟨k + 1, by omega, by go_num, by show OwnRR _ _ _ _ _; rw [HST.out, if_neg HEP.out]; exact HRR.out.later HD0.out, HXR.out.later HD0.out, HYR.out.later HD0.out, HZR.out.later HD0.out, HBR.out.trans (HD0.out.mono HBR.out.size), Nat.lt_of_lt_of_le HSR.out HD0.out.size⟩, by simp [intOf]; omega⟩
    have hep2 : (x0 == ep) = true := by simpa using hep
    have HEP : Hid (x0 = ep) := hep
    clear hep
    have q := has_c ac cn cc cur x2 D0 HCN.out (by omega) ((HOW.out.later HD0.out).rd'.2) HRIS.out
    by_cases hin : x2 ∈ cur
    case pos =>
      rw [decide_eq_true hin] at q
      have HEP2 : Hid (¬ (x0 = ep ∧ x2 ∉ cur)) := fun h => h.2 hin
      clear hin
      go_wp2_with fail
      refine q.mono ?_
      clear q
      rintro x D1 ⟨rfl, hb⟩
      have HD1 : Hid (Below wr.heap.size wr D1) := HD0.out.trans (hb.mono HD0.out.size)
      clear hb
      go_wp2
      exact ⟨⟨k + 1, by omega, by go_num, by show OwnRR _ _ _ _ _; rw [HST.out, if_neg HEP2.out]; exact HRR.out.later HD1.out, HXR.out.later HD1.out, HYR.out.later HD1.out, HZR.out.later HD1.out, HBR.out.trans (HD1.out.mono HBR.out.size), Nat.lt_of_lt_of_le HSR.out HD1.out.size⟩, by simp [intOf]; omega⟩
    rw [decide_eq_false hin] at q
    have HEP2 : Hid (x0 = ep ∧ x2 ∉ cur) := ⟨HEP.out, hin⟩
    clear hin
    go_wp2_with fail
    refine q.mono ?_
    clear q e0 e1 e2 z2 gm
    rintro x D1 ⟨rfl, hb⟩
    have HD1 : Hid (Below wr.heap.size wr D1) := HD0.out.trans (hb.mono HD0.out.size)
    clear hb HD0
    go_wp2_with fail
    refine wp_region_held_drew (S := (fun X => X.cell? ⟨w1.heap.size, 2, none⟩ = some (.slice (some ⟨w2.heap.size, 0, none⟩) N N))) (by kernel_rfl) ?_ (fun hHeld => ?_)
    · exact (HZC.out _ (HD1.out.trans ((Below.refl _ _).drew.mono HD1.out.size))).1
    obtain ⟨D2, hD2⟩ : ∃ D, D1.drew = D := ⟨_, rfl⟩
    have hb0 : Below wr.heap.size wr D2 := by rw [← hD2]; exact HD1.out.drew
    rw [hD2] at hHeld ⊢
    have HD2 : Hid (Below wr.heap.size wr D2) := hb0
    clear hb0 hD2 HD1
    have gm := (HZC.out _ HD2.out).2
    refine takeU13 (i := 0) (oi := _) (v := ?_) (d := some 46) rfl (by kernel_rfl) (by kernel_rfl) (by kernel_rfl) (by kernel_rfl) (fun _ _ _ h => h) (Or.inl ⟨by rfl, ?_⟩) (by assumption) ?_
    rotate_left
    · (intro w hSw; (try dsimp only at hSw); go_simp <;> with_reducible rfl)
    try simp only [Act.put, List.setIfInBounds_toArray, List.set_cons_zero, List.set_cons_succ]
    refine takeU13 (i := 1) (oi := _) (v := ?_) (d := some 47) rfl (by kernel_rfl) (by kernel_rfl) (by kernel_rfl) (by kernel_rfl) (fun _ _ _ h => h) (Or.inl ⟨by rfl, ?_⟩) (by assumption) ?_
    rotate_left
    · (intro w hSw; (try dsimp only at hSw); go_simp <;> with_reducible rfl)
    try simp only [Act.put, List.setIfInBounds_toArray, List.set_cons_zero, List.set_cons_succ]
    refine takeU13 (i := 2) (oi := _) (v := ?_) (d := some 48) rfl (by kernel_rfl) (by kernel_rfl) (by kernel_rfl) (by kernel_rfl) (fun _ _ _ h => h) (Or.inl ⟨by rfl, ?_⟩) (by assumption) ?_
    rotate_left
    · (intro w hSw; (try dsimp only at hSw); go_simp <;> with_reducible rfl)
    try simp only [Act.put, List.setIfInBounds_toArray, List.set_cons_zero, List.set_cons_succ]
    refine takeU13 (i := 3) (oi := _) (v := ?_) (d := some 49) rfl (by kernel_rfl) (by kernel_rfl) (by kernel_rfl) (by kernel_rfl) (fun _ _ _ h => h) (Or.inl ⟨by rfl, ?_⟩) (by assumption) ?_
    rotate_left
    · (intro w hSw; (try dsimp only at hSw); go_simp <;> with_reducible rfl)
    try simp only [Act.put, List.setIfInBounds_toArray, List.set_cons_zero, List.set_cons_succ]
    refine takeU13 (i := 4) (oi := _) (v := ?_) (d := some 50) rfl (by kernel_rfl) (by kernel_rfl) (by kernel_rfl) (by kernel_rfl) (fun _ _ _ h => h) (Or.inl ⟨by rfl, ?_⟩) (by assumption) ?_
    rotate_left
    · (intro w hSw; (try dsimp only at hSw); go_simp <;> with_reducible rfl)
    try simp only [Act.put, List.setIfInBounds_toArray, List.set_cons_zero, List.set_cons_succ]
    refine takeU13 (i := 5) (oi := _) (v := ?_) (d := some 51) rfl (by kernel_rfl) (by kernel_rfl) (by kernel_rfl) (by kernel_rfl) (fun _ _ _ h => h) (Or.inl ⟨by rfl, ?_⟩) (by assumption) ?_
    rotate_left
    · (intro w hSw; (try dsimp only at hSw); go_simp <;> with_reducible rfl)
    try simp only [Act.put, List.setIfInBounds_toArray, List.set_cons_zero, List.set_cons_succ]
    refine takeU13 (i := 6) (oi := _) (v := ?_) (d := some 52) rfl (by kernel_rfl) (by kernel_rfl) (by kernel_rfl) (by kernel_rfl) (fun _ _ _ h => h) (Or.inl ⟨by rfl, ?_⟩) (by assumption) ?_
    rotate_left
    · (intro w hSw; (try dsimp only at hSw); go_simp <;> with_reducible rfl)
    try simp only [Act.put, List.setIfInBounds_toArray, List.set_cons_zero, List.set_cons_succ]
    refine takeU13 (i := 8) (oi := _) (v := ?_) (d := some 54) rfl (by kernel_rfl) (by kernel_rfl) (by kernel_rfl) (by kernel_rfl) (fun _ _ _ h => h) (Or.inl ⟨by rfl, ?_⟩) (by assumption) ?_
    rotate_left
    · (intro w hSw; (try dsimp only at hSw); go_simp <;> with_reducible rfl)
    try simp only [Act.put, List.setIfInBounds_toArray, List.set_cons_zero, List.set_cons_succ]
    refine wpAnyH_ready (rs := [7]) (by kernel_rfl) (by simp) ?_
    refine AllReadyH.cons (o := _) rfl (fun K hK => ?_) AllReadyH.nil
    go_simp
    refine hK.out _ _ ?_ (fun hHeld => ?_)
    · exact (HZC.out _ HD2.out).1
    clear hK K
    try simp only [Act.put, List.setIfInBounds_toArray, List.set_cons_zero, List.set_cons_succ]
    have q := withI_c ac cn cc cur x2 D2 HCN.out (by omega) ((HOW.out.later HD2.out).rd'.2) HOW.out.nil HRIS.out
    refine wpAnyH_ready (rs := [9]) (by kernel_rfl) (by simp) ?_
    refine AllReadyH.cons (o := _) rfl (fun K hK => ?_) AllReadyH.nil
    go_simp
    refine q.mono ?_
    clear q gm
    rintro x D3 ⟨va, vc, rfl, ho, hb⟩
    have HD3 : Hid (Below wr.heap.size wr D3) := HD2.out.trans (hb.mono HD2.out.size)
    have HV : Hid (Own D3 w2.heap.size (.slice va (cn + 1) vc) (insL ltI x2 cur)) := ho.mono (Nat.le_trans (Nat.le_of_lt HSR.out) HD2.out.size)
    clear ho hb HD2
    refine hK.out _ _ ?_ (fun hHeld => ?_)
    · exact (HZC.out _ HD3.out).1
    clear hK K
    try simp only [Act.put, List.setIfInBounds_toArray, List.set_cons_zero, List.set_cons_succ]
    refine takeU13 (i := 10) (oi := _) (v := ?_) (d := some 56) rfl (by kernel_rfl) (by kernel_rfl) (by kernel_rfl) (by kernel_rfl) (fun _ _ _ h => h) (Or.inl ⟨by rfl, ?_⟩) (by assumption) ?_
    rotate_left
    · (intro w hSw; (try dsimp only at hSw); go_simp <;> with_reducible rfl)
    try simp only [Act.put, List.setIfInBounds_toArray, List.set_cons_zero, List.set_cons_succ]
    obtain ⟨ac3, cc3, gm3, _, hfz3⟩ := (HRR.out.later HD3.out).get hm
    have hfz4 := hfz3 m
    clear hfz3
    refine wpAnyH_ready (rs := [11]) (by kernel_rfl) (by simp) ?_
    refine AllReadyH.cons (o := _) rfl (fun K hK => ?_) AllReadyH.nil
    have HR9 := (HRR.out.later HD3.out).set hm HV.out
    have hne : ¬ w1.heap.size = w2.heap.size := by have := HS4.out; omega
    have HZ9 : Hid (X3 (D3.setCell ⟨w2.heap.size, m, none⟩ (.slice va (cn + 1) vc)) w1.heap.size (.int .i64 f) (.slice la ln lc) (.slice (some ⟨w2.heap.size, 0, none⟩) N N)) := (HZR.out.later HD3.out).other hne
    have HX9 : Hid (X5 (D3.setCell ⟨w2.heap.size, m, none⟩ (.slice va (cn + 1) vc)) w.heap.size (.int .i64 f) (.int .i64 e) (.slice (some ⟨b, o, none⟩) sn sc) (.slice la ln lc) (.slice ta tn tc)) := (HXR.out.later HD3.out).other (by have := HS2.out; have := HS4.out; omega)
    have HY9 : Hid (X3 (D3.setCell ⟨w2.heap.size, m, none⟩ (.slice va (cn + 1) vc)) (w.heap.size + 1) (.int .i64 0) (.slice none 0 0) (.slice none 0 0)) := (HYR.out.later HD3.out).other (by have := HS2.out; have := HS4.out; omega)
    have HB9 : Hid (Below w.heap.size w (D3.setCell ⟨w2.heap.size, m, none⟩ (.slice va (cn + 1) vc))) := (HBR.out.trans (HD3.out.mono HBR.out.size)).setCell (by show w.heap.size ≤ w2.heap.size; have := HS2.out; have := HS4.out; omega) _
    have HS9 : Hid (w2.heap.size < (D3.setCell ⟨w2.heap.size, m, none⟩ (.slice va (cn + 1) vc)).heap.size) := Nat.lt_of_lt_of_le (Nat.lt_of_lt_of_le HSR.out HD3.out.size) (grown_setCell _ _ _ _).size
    have HRR9 : Hid (OwnRR (D3.setCell ⟨w2.heap.size, m, none⟩ (.slice va (cn + 1) vc)) w2.heap.size w2.heap.size N (sitL N ep (sg.take (k + 1)))) := by show OwnRR _ _ _ _ _; rw [HST.out, if_pos HEP2.out]; exact HR9
    clear HR9 hne
    go_simp
    refine hK.out _ _ ?_ (fun hHeld => ?_)
    · exact HZ9.out.1.2.2
    clear hK K
    try simp only [Act.put, List.setIfInBounds_toArray, List.set_cons_zero, List.set_cons_succ]
    refine wpAnyH_done (by kernel_rfl) ?_ _
    clear hHeld gm3 hfz4
    go_wp2
    exact ⟨⟨k + 1, by omega, by go_num, HRR9, HX9, HY9, HZ9, HB9, HS9⟩, by simp [intOf]; omega⟩

end Go.Proofs.Ytaokmjbhgkfnfaa
