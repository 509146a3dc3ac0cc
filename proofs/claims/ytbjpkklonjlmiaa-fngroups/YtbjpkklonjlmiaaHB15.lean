/- Chapter 15: hiddenByCoins of the program. -/
import Derived.Test.YtbjpkklonjlmiaaSO15
import Derived.Test.YtbjpkklonjlmiaaS15
namespace Go.Proofs.Ytbjpkklonjlmiaa
set_option linter.unusedVariables false
set_option maxRecDepth 1000000
set_option linter.unusedSimpArgs false
open Go.RowKit Go.Sort

theorem Own.set {w : World} {base g n c : Nat} {xs : List Int} (h : Own w base (.slice (some ⟨g, 0, none⟩) n c) xs) (j : Nat) (x : Int) :
    Own (w.setCell ⟨g, j, none⟩ (.int .i64 x)) base (.slice (some ⟨g, 0, none⟩) n c) (xs.set j x) ∧ w.grownBy (w.setCell ⟨g, j, none⟩ (.int .i64 x)) (some g) := by
  have hl := h.rd'.1
  subst hl
  have h1 := World.ownsRow.stored h j (.int .i64 x)
  have e : (cellsI xs).set j (.int .i64 x) = cellsI (xs.set j x) := by unfold cellsI; rw [List.map_set]
  rw [e] at h1
  refine ⟨?_, grown_setCell _ _ _ _⟩
  unfold Own
  rw [List.length_set]
  exact h1.1

set_option maxHeartbeats 8000000 in
theorem hidden_c (sa : Option Addr) (sn sc : Nat) (la : Option Addr) (ln lc : Nat) (t : TbV) (wo : Option Addr) (wn wc : Nat) (ws : List Int) (w : World) (h : RdT w sa sn sc la ln lc t) (hg : GoodT t) (hw : ws.length = wn) (hwn : wn = t.s.toNat) (hr : Rd w wo ws) (hnil : wo = none → wn = 0 ∧ wc = 0) (hby : ∀ k, k < wn → byB (ws.getD k 0) = true) :
    Calls Try.prog 36 #[.agg #[.int .i64 t.s, .slice sa sn sc, .slice la ln lc], .slice wo wn wc] w fun e w' => ∃ a' c', e = .returned (.slice a' wn c') ∧ Own w' w.heap.size (.slice a' wn c') (sayL t ws) ∧ Below w.heap.size w w' := by
  have mixed : Try.prog.follows .mixedOrders = true := by kernel_rfl
  have HX0 : Hid (X3 (w.alloc (.cells #[.int .i64 t.s, .slice sa sn sc, .slice la ln lc] 26)) w.heap.size (.int .i64 t.s) (.slice sa sn sc) (.slice la ln lc)) := x3_new w _ _ _ _ _ rfl
  have HB0 : Hid (Below w.heap.size w (w.alloc (.cells #[.int .i64 t.s, .slice sa sn sc, .slice la ln lc] 26))) := balloc w _
  have HR : Hid (∀ wx, Below w.heap.size w wx → RdT wx sa sn sc la ln lc t) := fun wx hb => h.later hb
  have HRL : Hid (∀ wx, Below w.heap.size w wx → Rd wx la t.cs) := fun wx hb => h.rd.l.later hb
  have HW : Hid (∀ wx, Below w.heap.size w wx → Rd wx wo ws) := fun wx hb => hr.later hb
  have HPL : Hid (t.ps.length = sn) := h.rd.sl
  have HCL : Hid (t.cs.length = ln) := h.rd.ll
  have HG : Hid (GoodT t) := hg
  have HWL : Hid (ws.length = wn) := hw
  have HWN : Hid (wn = t.s.toNat) := hwn
  have HBY : Hid (∀ k, k < wn → byB (ws.getD k 0) = true) := hby
  have hwn6 : wn ≤ 6 := by rw [hwn]; have := hg.s6; omega
  have hwn1 : 1 ≤ wn := by rw [hwn]; have := hg.s1; omega
  have HNIL : Hid (wo = none → wn = 0 ∧ wc = 0) := hnil
  have hsn : sn ≤ 15 := by rw [← h.rd.sl]; exact hg.pl
  have HLN : Hid (ln = sn) := by show _ = _; rw [← h.rd.sl, ← h.rd.ll]; exact hg.cl
  have HSO : Hid (∀ wx, Below w.heap.size w wx → Calls Try.prog 47 #[.agg #[.int .i64 t.s, .slice sa sn sc, .slice la ln lc]] wx fun e w' => ∃ a' c' ys, e = .returned (.slice a' (2 * sn) c') ∧ OwnQ w' wx.heap.size (.slice a' (2 * sn) c') ys ∧ ys.Perm (stT t.ps sn) ∧ RisT ys ∧ Below wx.heap.size wx w') := fun wx hb => stepsOver_c sa sn sc la ln lc t wx (HR.out wx hb) hg
  obtain ⟨V, hV⟩ : ∃ V, w.alloc (.cells #[.int .i64 t.s, .slice sa sn sc, .slice la ln lc] 26) = V := ⟨_, rfl⟩
  rw [hV] at HX0 HB0
  have hf : t.s = t.s := rfl
  generalize hs : t.s = s at HX0 hV HSO ⊢
  obtain ⟨⟨f0, f1, f2⟩, _⟩ := HX0.out
  clear h hg hw hwn hr hnil hby hf
  have q1 := copyOfInts_c wo wn wc ws V HWL.out (by omega) (HW.out V HB0.out) HNIL.out
  have HSN : Hid (t.s = s) := hs
  clear hs
  go_enter Try.func36, Try.ntmps36
  go_wp2_with fail
  refine q1.mono ?_
  clear q1 f0 f1 f2
  rintro e w1 ⟨a1, c1, rfl, ho, hb⟩
  have HB1 : Hid (Below w.heap.size w w1) := HB0.out.trans (hb.mono HB0.out.size)
  have HX1 : Hid (X3 w1 w.heap.size (.int .i64 s) (.slice sa sn sc) (.slice la ln lc)) := HX0.out.later hb
  have hV1 : w.heap.size < V.heap.size := HX0.out.lt
  obtain ⟨N1, hN1⟩ : ∃ N, V.heap.size = N := ⟨_, rfl⟩
  rw [hN1] at ho hV1
  have HO1 : Hid (Own w1 N1 (.slice a1 wn c1) ws) := ho
  clear hb ho HX0 HB0 hV
  obtain ⟨⟨f0, f1, f2⟩, _⟩ := HX1.out
  have q2 := HSO.out w1 HB1.out
  go_wp2_with fail
  refine q2.mono ?_
  clear q2 f0 f1 f2
  rintro e w2 ⟨a2, c2, ys, rfl, ho, hperm, _, hb⟩
  have HP : Hid (ys.Perm (stT t.ps sn)) := hperm
  have HB2 : Hid (Below w.heap.size w w2) := HB1.out.trans (hb.mono HB1.out.size)
  have HX2 : Hid (X3 w2 w.heap.size (.int .i64 s) (.slice sa sn sc) (.slice la ln lc)) := HX1.out.later hb
  have HO2 : Hid (Own w2 N1 (.slice a1 wn c1) ws) := HO1.out.later hb
  have HQ2 : Hid (OwnQ w2 w1.heap.size (.slice a2 (2 * sn) c2) ys) := ho
  rcases HO1.out.addr with ⟨_, h0, _⟩ | ⟨sg, rfl, hsg1, hsg2⟩
  · exfalso; omega
  have hsz1 : w1.heap.size ≤ w2.heap.size := hb.size
  have hyl : ys.length = 2 * sn := by rw [hperm.length_eq, stT_length]
  have HYL : Hid (ys.length = 2 * sn) := hyl
  have HSB : Hid (StB wn sn ys) := by
    have := (HG.out.stB (m := sn) (by rw [HPL.out]; exact Nat.le_refl _)).perm hperm
    rw [HPL.out, ← HWN.out] at this
    exact this
  have HFIN : Hid (hidL t.cs ys ws = sayL t ws) := hid_say HG.out (by rw [HPL.out]; exact hperm) (by rw [HWL.out, HWN.out]) (fun k hk => (byB_iff.1 (HBY.out k (by rw [← HWL.out]; exact hk))).1)
  clear hb ho HX1 HO1 HB1 hperm hyl HP
  obtain ⟨ny, hny⟩ : ∃ ny, 2 * sn = ny := ⟨_, rfl⟩
  rw [hny] at HQ2 HYL ⊢
  have hny30 : ny ≤ 30 := by omega
  clear hny
  go_wp2_with fail
  go_loopw [13] (fun iv wr => ∃ k : Nat, k ≤ ny ∧ iv = .int .i64 k ∧ Hid (Own wr N1 (.slice (some ⟨sg, 0, none⟩) wn c1) (hidL t.cs (ys.take k) ws)) ∧ Hid (OwnQ wr w1.heap.size (.slice a2 ny c2) ys) ∧ Hid (X3 wr w.heap.size (.int .i64 s) (.slice sa sn sc) (.slice la ln lc)) ∧ Hid (Below w.heap.size w wr) ∧ w2.heap.size ≤ wr.heap.size ∧ Hid (∀ j, j < wn → byB ((hidL t.cs (ys.take k) ws).getD j 0) = true)) (fun iv _ => ny - (intOf iv).toNat)
  case atStart => exact ⟨0, Nat.zero_le _, rfl, HO2, HQ2, HX2, HB2, Nat.le_refl _, HBY⟩
  case round =>
    clear HO2 HQ2 HX2 HB2
    obtain ⟨k, hk, rfl, HO, HQ, HX, HB, hsz2, HVB⟩ := hrel
    by_cases hlt : k < ny
    case neg =>
      obtain rfl : k = ny := by omega
      have HE : Hid (Own wr w.heap.size (.slice (some ⟨sg, 0, none⟩) wn c1) (sayL t ws)) := by
        have := HO.out
        rw [List.take_of_length_le (by rw [HYL.out]; exact Nat.le_refl _), HFIN.out] at this
        exact this.mono (by omega)
      clear HO HVB
      go_wp2
      go_ret
      exact ⟨_, _, rfl, HE.out, HB.out⟩
    have hkl : k < ys.length := by rw [HYL.out]; exact hlt
    have hq := HQ.out.rd'.2
    obtain ⟨b, o, rfl, g0, g1, g2⟩ := hq.get hkl
    have hy := HSB.out _ (mem_getD (0, 0, 0) hkl)
    have HS2 : Hid (hidL t.cs (ys.take (k + 1)) ws = hidS t.cs (hidL t.cs (ys.take k) ws) (ys.getD k (0, 0, 0))) := by
      show _ = _
      rw [take_snoc (0, 0, 0) hkl, hidL_append]; rfl
    have HLL : Hid ((hidL t.cs (ys.take k) ws).length = wn) := by show _ = _; rw [hidL_length, HWL.out]
    generalize ys.getD k (0, 0, 0) = y at g0 g1 g2 hy HS2
    generalize hidL t.cs (ys.take k) ws = said at HO HVB HS2 HLL
    obtain ⟨y0, y1, y2⟩ := y
    obtain ⟨fr, hfr⟩ : ∃ fr : Nat, y0 = (fr : Int) := ⟨y0.toNat, by have := hy.1; dsimp only at this; omega⟩
    obtain ⟨pr, hpr⟩ : ∃ pr : Nat, y2 = (pr : Int) := ⟨y2.toNat, by have := hy.2.2.2.2.1; dsimp only at this; omega⟩
    subst hfr
    subst hpr
    dsimp only at hy g0 g1 g2
    have hfn : fr < wn := by omega
    have hpn : pr < ln := by have := HLN.out; omega
    obtain ⟨cb, co, hla, gc⟩ := (HRL.out wr HB.out).get (k := pr) (by rw [HCL.out]; exact hpn)
    have gs := Own.cell (g := sg) (cap := c1) (xs := said) (by rw [HLL.out]; exact HO.out) fr (by rw [HLL.out]; exact hfn)
    have hcb := HG.out.by' pr (by rw [HCL.out]; exact hpn)
    have hsb := HVB.out fr hfn
    have hxr := bits_xr hsb hcb
    have HS3 : Hid (hidL t.cs (ys.take (k + 1)) ws = said.set fr (xr (said.getD fr 0) (t.cs.getD pr 0))) := by
      show _ = _
      rw [HS2.out]
      unfold hidS
      simp only [Int.toNat_natCast]
    have hxb := xr_by hsb hcb
    have HVB2 : Hid (∀ j, j < wn → byB ((said.set fr (xr (said.getD fr 0) (t.cs.getD pr 0))).getD j 0) = true) := fun j hj => by
      rw [getD_set9 _ _ _ _ (by rw [HLL.out]; exact hfn)]
      split
      · exact hxb
      · exact HVB.out j hj
    generalize said.getD fr 0 = x at gs hxr HS3 HVB2
    generalize t.cs.getD pr 0 = cn at gc hxr HS3 HVB2
    generalize xr x cn = z at hxr HS3 HVB2
    have k0 : (0 : Int) ≤ (k : Int) := by omega
    have k1 : (k : Int) < (ny : Int) := by omega
    have fr0 : (0 : Int) ≤ (fr : Int) := by omega
    have fr1 : (fr : Int) < (wn : Int) := by omega
    have pr0 : (0 : Int) ≤ (pr : Int) := by omega
    have pr1 : (pr : Int) < (ln : Int) := by omega
    clear hsb hcb hxb hkl hq HVB HS2 hy
    subst hla
    -- the step's box
    have hX := x3_new wr (.int .i64 0) (.int .i64 0) (.int .i64 0) 78 wr.heap.size rfl
    have hbU := balloc wr (.cells #[.int .i64 0, .int .i64 0, .int .i64 0] 78)
    obtain ⟨U, hU⟩ : ∃ X, wr.alloc (.cells #[.int .i64 0, .int .i64 0, .int .i64 0] 78) = X := ⟨_, rfl⟩
    rw [hU] at hX hbU
    have hXF := ((hX.set0 (.int .i64 fr)).set1 (.int .i64 y1)).set2 (.int .i64 pr)
    have hbV : Below wr.heap.size wr (((U.setCell ⟨wr.heap.size, 0, none⟩ (.int .i64 fr)).setCell ⟨wr.heap.size, 1, none⟩ (.int .i64 y1)).setCell ⟨wr.heap.size, 2, none⟩ (.int .i64 pr)) := ((hbU.setCell (Nat.le_refl _) _).setCell (Nat.le_refl _) _).setCell (Nat.le_refl _) _
    obtain ⟨⟨c0, c1x, c2x⟩, fz⟩ := hX
    have z0 := fz 0
    have z1 := fz 1
    have z2 := fz 2
    clear fz
    obtain ⟨W, hW⟩ : ∃ X, ((U.setCell ⟨wr.heap.size, 0, none⟩ (.int .i64 fr)).setCell ⟨wr.heap.size, 1, none⟩ (.int .i64 y1)).setCell ⟨wr.heap.size, 2, none⟩ (.int .i64 pr) = X := ⟨_, rfl⟩
    rw [hW] at hXF hbV
    have HBW : Hid (Below wr.heap.size wr W.drew) := hbV.drew
    have gs2 := cell_keep (S := 0) HBW.out gs
    have gc2 := cell_keep (S := 0) HBW.out gc
    have hX3 := (HX.out.later HBW.out).1
    have hXS := (hXF.later (Below.refl _ _).drew).1
    have hO2 := HO.out.later HBW.out
    have hfz := Own.free (g := sg) (cap := c1) (xs := said) (by rw [HLL.out]; exact hO2) fr
    go_wp2_with fail
    try rw [hW]
    clear hW hU c0 c1x c2x z0 z1 z2 g0 g1 g2 gs gc hbU hXF hbV
    obtain ⟨D, hD⟩ : ∃ D, W.drew = D := ⟨_, rfl⟩
    rw [hD] at HBW gs2 gc2 hX3 hXS hO2 hfz
    obtain ⟨f0, f1, f2⟩ := hX3
    obtain ⟨e0, e1, e2⟩ := hXS
    have HOD : Hid (Own D N1 (.slice (some ⟨sg, 0, none⟩) wn c1) said) := hO2
    clear hO2
    go_big_region_o
    have HO3 : Hid (Own (D.setCell ⟨sg, fr, none⟩ (.int .i64 z)) N1 (.slice (some ⟨sg, 0, none⟩) wn c1) (hidL t.cs (ys.take (k + 1)) ws)) := by
      show Own _ _ _ _
      rw [HS3.out]
      exact (HOD.out.set fr z).1
    have HV3 : Hid (∀ j, j < wn → byB ((hidL t.cs (ys.take (k + 1)) ws).getD j 0) = true) := by rw [HS3.out]; exact HVB2.out
    have hgD : D.grownBy (D.setCell ⟨sg, fr, none⟩ (.int .i64 z)) (some sg) := grown_setCell _ _ _ _
    have HQ3 : Hid (OwnQ (D.setCell ⟨sg, fr, none⟩ (.int .i64 z)) w1.heap.size (.slice (some ⟨b, o, none⟩) ny c2) ys) := (HQ.out.later HBW.out).kept hgD (by
      rcases HQ.out.addr with ⟨h, _⟩ | ⟨g, h, hg1, _⟩
      · exact Or.inl (by rw [h]; rfl)
      · refine Or.inr (fun e => ?_)
        rw [h] at e
        simp [Value.ownBlock] at e
        omega)
    have HX3b : Hid (X3 (D.setCell ⟨sg, fr, none⟩ (.int .i64 z)) w.heap.size (.int .i64 s) (.slice sa sn sc) (.slice (some ⟨cb, co, none⟩) ln lc)) := (HX.out.later HBW.out).other (by omega)
    have HB3 : Hid (Below w.heap.size w (D.setCell ⟨sg, fr, none⟩ (.int .i64 z))) := (HB.out.trans (HBW.out.mono HB.out.size)).setCell (by show _ ≤ sg; omega) _
    have hsz3 : w2.heap.size ≤ (D.setCell ⟨sg, fr, none⟩ (.int .i64 z)).heap.size := Nat.le_trans hsz2 (Nat.le_trans HBW.out.size (grown_setCell _ _ _ _).size)
    clear hgD hD
    all_goals go_wp2
    go_roundw
    case rel => exact ⟨k + 1, by omega, by go_num, HO3, HQ3, HX3b, HB3, hsz3, HV3⟩
    case measure => simp [intOf]; omega

end Go.Proofs.Ytbjpkklonjlmiaa
