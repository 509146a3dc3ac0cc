/- The law FnParts, walked: true at every two texts. -/
import Derived.Test.YtamppekadobagaaFP5P
namespace Go.Proofs.Ytamppekadobagaa
set_option linter.unusedVariables false
set_option linter.unusedSimpArgs false
open Go.RowKit

theorem OwnP.later' {w w' : World} {base : Nat} {v : Value} {xs : List (Int × Int)} (h : OwnP w base v xs) (hb : Below w.heap.size w w') : OwnP w' base v xs := h.later hb

set_option maxHeartbeats 16000000 in
set_option maxRecDepth 1000000 in
theorem lawFnParts_c (ao : Option Addr) (n c : Nat) (bo : Option Addr) (m d : Nat) (w : World) (hn : n ≤ 9223372036854775807) (hm : m ≤ 9223372036854775807) (h1 : CodeOk w w.heap.size ao n) (h2 : CodeOk w w.heap.size bo m) :
    Calls Try.prog 3 #[.slice ao n c, .slice bo m d] w fun e w' => e = .returned (.bool true) ∧ Below w.heap.size w w' := by
  by_cases hl : 1048576 < wrap64 ((n : Int) + (m : Int))
  · clear h1 h2
    go_enter Try.func3, Try.ntmps3
    go_wp2
    go_ret
    exact ⟨rfl, Below.refl _ _⟩
  have HN : Hid (CodeOk w w.heap.size ao n) := h1
  have HM : Hid (CodeOk w w.heap.size bo m) := h2
  have HB0 : Hid (Below w.heap.size w w) := Below.refl _ _
  clear h1 h2
  go_enter Try.func3, Try.ntmps3
  go_wp2_with fail
  refine (drawSplit_c ao n c _ hn (HN.out.later HB0.out HB0.out.size)).mono ?_
  rintro e w1 ⟨a1, q1, c1, zs, b, rfl, hq1, hl1, ho, hbb, hb⟩
  have HB1 : Hid (Below w.heap.size w w1) := HB0.out.trans (hb.mono HB0.out.size)
  have PO_1 : Hid (Own w1 w.heap.size (.slice a1 q1 c1) zs) := ho
  clear hb HB0
  have HL1 : Hid (zs.length = q1) := hl1
  clear ho hl1
  obtain ⟨ps, fb, hF⟩ : ∃ ps fb, splitF zs b = (ps, fb) := ⟨_, _, rfl⟩
  have HF : Hid (splitF zs b = (ps, fb)) := hF
  obtain ⟨p, hp⟩ : ∃ p, ps.length = p := ⟨_, rfl⟩
  have HP : Hid (ps.length = p) := hp
  have hp8 : p ≤ 8 := by rw [← hp]; exact splitF_short hF
  have hfb : (fb != fb) = false := by simp
  clear hF hp
  go_wp2_with fail
  refine (implSplit_c a1 q1 c1 zs b _ HL1.out (by omega) PO_1.out.rd'.2 ps fb p HF.out HP.out).mono ?_
  rintro e w2 ⟨a2, c2, rfl, ho, hb⟩
  have HB2 : Hid (Below w.heap.size w w2) := HB1.out.trans (hb.mono HB1.out.size)
  have PO_2 : Hid (Own w2 w.heap.size (.slice a1 q1 c1) zs) := PO_1.out.later hb
  have LL_2 : Hid (OwnP w2 w1.heap.size (.slice a2 p c2) ps) := ho
  clear hb HB1 PO_1
  clear ho
  go_wp2_with fail
  refine (specSplit_c a1 q1 c1 zs b _ HL1.out (by omega) PO_2.out.rd'.2 ps fb p HF.out HP.out).mono ?_
  rintro e w3 ⟨a3, c3, rfl, ho, hb⟩
  have HB3 : Hid (Below w.heap.size w w3) := HB2.out.trans (hb.mono HB2.out.size)
  have PO_3 : Hid (Own w3 w.heap.size (.slice a1 q1 c1) zs) := PO_2.out.later hb
  have LL_3 : Hid (OwnP w3 w1.heap.size (.slice a2 p c2) ps) := LL_2.out.later hb
  have LM_3 : Hid (OwnP w3 w2.heap.size (.slice a3 p c3) ps) := ho
  clear hb HB2 PO_2 LL_2
  clear ho
  go_wp2_with fail
  refine (sameParts_c a2 a3 p c2 c3 ps _ HP.out (by omega) LL_3.out.rd'.2 LM_3.out.rd'.2).mono ?_
  rintro e w4 ⟨rfl, hb⟩
  have HB4 : Hid (Below w.heap.size w w4) := HB3.out.trans (hb.mono HB3.out.size)
  have PO_4 : Hid (Own w4 w.heap.size (.slice a1 q1 c1) zs) := PO_3.out.later hb
  have LL_4 : Hid (OwnP w4 w1.heap.size (.slice a2 p c2) ps) := LL_3.out.later hb
  have LM_4 : Hid (OwnP w4 w2.heap.size (.slice a3 p c3) ps) := LM_3.out.later hb
  clear hb HB3 PO_3 LL_3 LM_3
  clear LM_4
  cases fb with
  | false =>
    clear PO_4
    clear LL_4
    go_wp2_with fail
    refine (drawAdd_c bo m d _ hm (HM.out.later HB4.out HB4.out.size)).mono ?_
    rintro e w5 ⟨aa, qa, ca, za, ab, cb, zb, rfl, hqa, hra, hrb, hb⟩
    have HB5 : Hid (Below w.heap.size w w5) := HB4.out.trans (hb.mono HB4.out.size)
    have RA_5 : Hid (RowP w5 w4.heap.size aa qa ca za) := hra
    have RB_5 : Hid (RowP w5 w4.heap.size ab qa cb zb) := hrb
    clear hb HB4
    clear hra hrb
    obtain ⟨zc, fc, hFc⟩ : ∃ zc fc, addPF za zb = (zc, fc) := ⟨_, _, rfl⟩
    have HFC : Hid (addPF za zb = (zc, fc)) := hFc
    obtain ⟨pc, hpc⟩ : ∃ pc, zc.length = pc := ⟨_, rfl⟩
    have HPC : Hid (zc.length = pc) := hpc
    have hpc8 : pc ≤ 8 := by rw [← hpc]; exact addPF_short hFc
    have hfc : (fc != fc) = false := by simp
    clear hFc hpc
    go_wp2_with fail
    refine (implAdd_c aa qa ca ab qa cb za zb _ RA_5.out.1 RB_5.out.1 (by omega) (by omega) RA_5.out.rd RB_5.out.rd zc fc pc HFC.out HPC.out).mono ?_
    rintro e w6 ⟨ac, cc, rfl, ho, hb⟩
    have HB6 : Hid (Below w.heap.size w w6) := HB5.out.trans (hb.mono HB5.out.size)
    have RA_6 : Hid (RowP w6 w4.heap.size aa qa ca za) := RA_5.out.later hb
    have RB_6 : Hid (RowP w6 w4.heap.size ab qa cb zb) := RB_5.out.later hb
    have RC_6 : Hid (OwnP w6 w5.heap.size (.slice ac pc cc) zc) := ho
    clear hb HB5 RA_5 RB_5
    clear ho
    go_wp2_with fail
    refine (specAdd_c aa qa ca ab qa cb za zb _ RA_6.out.1 RB_6.out.1 (by omega) (by omega) RA_6.out.rd RB_6.out.rd zc fc pc HFC.out HPC.out).mono ?_
    rintro e w7 ⟨ad, cd, rfl, ho, hb⟩
    have HB7 : Hid (Below w.heap.size w w7) := HB6.out.trans (hb.mono HB6.out.size)
    have RA_7 : Hid (RowP w7 w4.heap.size aa qa ca za) := RA_6.out.later hb
    have RB_7 : Hid (RowP w7 w4.heap.size ab qa cb zb) := RB_6.out.later hb
    have RC_7 : Hid (OwnP w7 w5.heap.size (.slice ac pc cc) zc) := RC_6.out.later hb
    have RD_7 : Hid (OwnP w7 w6.heap.size (.slice ad pc cd) zc) := ho
    clear hb HB6 RA_6 RB_6 RC_6
    clear ho
    go_wp2_with fail
    refine (sameParts_c ac ad pc cc cd zc _ HPC.out (by omega) RC_7.out.rd'.2 RD_7.out.rd'.2).mono ?_
    rintro e w8 ⟨rfl, hb⟩
    have HB8 : Hid (Below w.heap.size w w8) := HB7.out.trans (hb.mono HB7.out.size)
    have RA_8 : Hid (RowP w8 w4.heap.size aa qa ca za) := RA_7.out.later hb
    have RB_8 : Hid (RowP w8 w4.heap.size ab qa cb zb) := RB_7.out.later hb
    have RC_8 : Hid (OwnP w8 w5.heap.size (.slice ac pc cc) zc) := RC_7.out.later hb
    have RD_8 : Hid (OwnP w8 w6.heap.size (.slice ad pc cd) zc) := RD_7.out.later hb
    clear hb HB7 RA_7 RB_7 RC_7 RD_7
    clear RD_8
    cases fc with
    | false =>
      clear RA_8
      clear RB_8
      clear RC_8
      go_wp2_with fail
      refine (drawValue_c bo m d _ hm (HM.out.later HB8.out HB8.out.size)).mono ?_
      rintro e w9 ⟨ax, qx, cx, zx, bx, rfl, hqx, hlx, ho, hbx, hb⟩
      have HB9 : Hid (Below w.heap.size w w9) := HB8.out.trans (hb.mono HB8.out.size)
      have PX_9 : Hid (Own w9 w8.heap.size (.slice ax qx cx) zx) := ho
      clear hb HB8
      have HLX : Hid (zx.length = qx) := hlx
      clear ho hlx
      obtain ⟨vx, fx, hFx⟩ : ∃ vx fx, valueF zx bx = (vx, fx) := ⟨_, _, rfl⟩
      have HFX : Hid (valueF zx bx = (vx, fx)) := hFx
      clear hFx
      go_wp2_with fail
      refine (implValue_c ax qx cx zx bx _ HLX.out (by omega) PX_9.out.rd'.2 vx fx HFX.out).mono ?_
      rintro e w10 ⟨rfl, hb⟩
      have HB10 : Hid (Below w.heap.size w w10) := HB9.out.trans (hb.mono HB9.out.size)
      have PX_10 : Hid (Own w10 w8.heap.size (.slice ax qx cx) zx) := PX_9.out.later hb
      clear hb HB9 PX_9
      go_wp2_with fail
      refine (specValue_c ax qx cx zx bx _ HLX.out (by omega) PX_10.out.rd'.2 vx fx HFX.out).mono ?_
      rintro e w11 ⟨rfl, hb⟩
      have HB11 : Hid (Below w.heap.size w w11) := HB10.out.trans (hb.mono HB10.out.size)
      have PX_11 : Hid (Own w11 w8.heap.size (.slice ax qx cx) zx) := PX_10.out.later hb
      clear hb HB10 PX_10
      clear PX_11
      go_wp2_with fail
      refine (drawJoin_c bo m d _ hm (HM.out.later HB11.out HB11.out.size)).mono ?_
      rintro e w12 ⟨ay, qy, cy, zy, rfl, hqy, hr, hb⟩
      have HB12 : Hid (Below w.heap.size w w12) := HB11.out.trans (hb.mono HB11.out.size)
      have PY_12 : Hid (RowP w12 w11.heap.size ay qy cy zy) := hr
      clear hb HB11
      clear hr
      have HLY : Hid (zy.length = qy) := PY_12.out.1
      obtain ⟨vy, fy, hFy⟩ : ∃ vy fy, throughF zy 0 = (vy, fy) := ⟨_, _, rfl⟩
      have HFY : Hid (throughF zy 0 = (vy, fy)) := hFy
      clear hFy
      go_wp2_with fail
      refine (implJoin_c ay qy cy zy _ HLY.out (by omega) PY_12.out.rd vy fy HFY.out).mono ?_
      rintro e w13 ⟨rfl, hb⟩
      have HB13 : Hid (Below w.heap.size w w13) := HB12.out.trans (hb.mono HB12.out.size)
      have PY_13 : Hid (RowP w13 w11.heap.size ay qy cy zy) := PY_12.out.later hb
      clear hb HB12 PY_12
      go_wp2_with fail
      refine (specJoin_c ay qy cy zy _ HLY.out (by omega) PY_13.out.rd vy fy HFY.out).mono ?_
      rintro e w14 ⟨rfl, hb⟩
      have HB14 : Hid (Below w.heap.size w w14) := HB13.out.trans (hb.mono HB13.out.size)
      have PY_14 : Hid (RowP w14 w11.heap.size ay qy cy zy) := PY_13.out.later hb
      clear hb HB13 PY_13
      have r1 : (fx == fx) = true := by simp
      have r2 : (vx == vx) = true := by simp
      have r3 : (fy == fy) = true := by simp
      have r4 : (vy == vy) = true := by simp
      go_wp2
      go_ret
      exact ⟨rfl, HB14.out⟩
    | true =>
      obtain ⟨xa, xb, t1, t2, t3, hxa, hxb⟩ := add_tell HFC.out
      have T1 : Hid (throughF za 0 = (xa, true)) := t1
      have T2 : Hid (throughF zb 0 = (xb, true)) := t2
      have T3 : Hid (throughF zc 0 = ((xa + xb) % 1499, true)) := t3
      have hzz : ((xa + xb) % 1499 != (xa + xb) % 1499) = false := by simp
      clear t1 t2 t3
      go_wp2_with fail
      refine (implJoin_c aa qa ca za _ RA_8.out.1 (by omega) RA_8.out.rd xa true T1.out).mono ?_
      rintro e w9 ⟨rfl, hb⟩
      have HB9 : Hid (Below w.heap.size w w9) := HB8.out.trans (hb.mono HB8.out.size)
      have RA_9 : Hid (RowP w9 w4.heap.size aa qa ca za) := RA_8.out.later hb
      have RB_9 : Hid (RowP w9 w4.heap.size ab qa cb zb) := RB_8.out.later hb
      have RC_9 : Hid (OwnP w9 w5.heap.size (.slice ac pc cc) zc) := RC_8.out.later hb
      clear hb HB8 RA_8 RB_8 RC_8
      go_wp2_with fail
      refine (implJoin_c ab qa cb zb _ RB_9.out.1 (by omega) RB_9.out.rd xb true T2.out).mono ?_
      rintro e w10 ⟨rfl, hb⟩
      have HB10 : Hid (Below w.heap.size w w10) := HB9.out.trans (hb.mono HB9.out.size)
      have RA_10 : Hid (RowP w10 w4.heap.size aa qa ca za) := RA_9.out.later hb
      have RB_10 : Hid (RowP w10 w4.heap.size ab qa cb zb) := RB_9.out.later hb
      have RC_10 : Hid (OwnP w10 w5.heap.size (.slice ac pc cc) zc) := RC_9.out.later hb
      clear hb HB9 RA_9 RB_9 RC_9
      go_wp2_with fail
      refine (implJoin_c ac pc cc zc _ HPC.out (by omega) RC_10.out.rd'.2 ((xa + xb) % 1499) true T3.out).mono ?_
      rintro e w11 ⟨rfl, hb⟩
      have HB11 : Hid (Below w.heap.size w w11) := HB10.out.trans (hb.mono HB10.out.size)
      have RA_11 : Hid (RowP w11 w4.heap.size aa qa ca za) := RA_10.out.later hb
      have RB_11 : Hid (RowP w11 w4.heap.size ab qa cb zb) := RB_10.out.later hb
      have RC_11 : Hid (OwnP w11 w5.heap.size (.slice ac pc cc) zc) := RC_10.out.later hb
      clear hb HB10 RA_10 RB_10 RC_10
      clear RA_11
      clear RB_11
      clear RC_11
      go_wp2_with fail
      refine (drawValue_c bo m d _ hm (HM.out.later HB11.out HB11.out.size)).mono ?_
      rintro e w12 ⟨ax, qx, cx, zx, bx, rfl, hqx, hlx, ho, hbx, hb⟩
      have HB12 : Hid (Below w.heap.size w w12) := HB11.out.trans (hb.mono HB11.out.size)
      have PX_12 : Hid (Own w12 w11.heap.size (.slice ax qx cx) zx) := ho
      clear hb HB11
      have HLX : Hid (zx.length = qx) := hlx
      clear ho hlx
      obtain ⟨vx, fx, hFx⟩ : ∃ vx fx, valueF zx bx = (vx, fx) := ⟨_, _, rfl⟩
      have HFX : Hid (valueF zx bx = (vx, fx)) := hFx
      clear hFx
      go_wp2_with fail
      refine (implValue_c ax qx cx zx bx _ HLX.out (by omega) PX_12.out.rd'.2 vx fx HFX.out).mono ?_
      rintro e w13 ⟨rfl, hb⟩
      have HB13 : Hid (Below w.heap.size w w13) := HB12.out.trans (hb.mono HB12.out.size)
      have PX_13 : Hid (Own w13 w11.heap.size (.slice ax qx cx) zx) := PX_12.out.later hb
      clear hb HB12 PX_12
      go_wp2_with fail
      refine (specValue_c ax qx cx zx bx _ HLX.out (by omega) PX_13.out.rd'.2 vx fx HFX.out).mono ?_
      rintro e w14 ⟨rfl, hb⟩
      have HB14 : Hid (Below w.heap.size w w14) := HB13.out.trans (hb.mono HB13.out.size)
      have PX_14 : Hid (Own w14 w11.heap.size (.slice ax qx cx) zx) := PX_13.out.later hb
      clear hb HB13 PX_13
      clear PX_14
      go_wp2_with fail
      refine (drawJoin_c bo m d _ hm (HM.out.later HB14.out HB14.out.size)).mono ?_
      rintro e w15 ⟨ay, qy, cy, zy, rfl, hqy, hr, hb⟩
      have HB15 : Hid (Below w.heap.size w w15) := HB14.out.trans (hb.mono HB14.out.size)
      have PY_15 : Hid (RowP w15 w14.heap.size ay qy cy zy) := hr
      clear hb HB14
      clear hr
      have HLY : Hid (zy.length = qy) := PY_15.out.1
      obtain ⟨vy, fy, hFy⟩ : ∃ vy fy, throughF zy 0 = (vy, fy) := ⟨_, _, rfl⟩
      have HFY : Hid (throughF zy 0 = (vy, fy)) := hFy
      clear hFy
      go_wp2_with fail
      refine (implJoin_c ay qy cy zy _ HLY.out (by omega) PY_15.out.rd vy fy HFY.out).mono ?_
      rintro e w16 ⟨rfl, hb⟩
      have HB16 : Hid (Below w.heap.size w w16) := HB15.out.trans (hb.mono HB15.out.size)
      have PY_16 : Hid (RowP w16 w14.heap.size ay qy cy zy) := PY_15.out.later hb
      clear hb HB15 PY_15
      go_wp2_with fail
      refine (specJoin_c ay qy cy zy _ HLY.out (by omega) PY_16.out.rd vy fy HFY.out).mono ?_
      rintro e w17 ⟨rfl, hb⟩
      have HB17 : Hid (Below w.heap.size w w17) := HB16.out.trans (hb.mono HB16.out.size)
      have PY_17 : Hid (RowP w17 w14.heap.size ay qy cy zy) := PY_16.out.later hb
      clear hb HB16 PY_16
      have r1 : (fx == fx) = true := by simp
      have r2 : (vx == vx) = true := by simp
      have r3 : (fy == fy) = true := by simp
      have r4 : (vy == vy) = true := by simp
      go_wp2
      go_ret
      exact ⟨rfl, HB17.out⟩
  | true =>
    by_cases hlen : q1 ≤ p
    · skip
      have hle : (q1 : Int) ≤ (p : Int) := by omega
      have hq1p : 1 ≤ q1 := by
        have := (parts_tell HF.out (k := 0) (by rw [HL1.out, HP.out]; omega) 0 (by omega) (by omega)).2.2.2
        rw [HL1.out] at this
        exact this
      obtain ⟨g1, hg1, _⟩ := own_some PO_4.out (by omega)
      subst hg1
      obtain ⟨hcap, hcm⟩ : p ≤ c2 ∧ c2 ≤ 9223372036854775807 := ⟨LL_4.out.row.2.1, LL_4.out.row.2.2.1⟩
      obtain ⟨g2, off2, hg2, _, _, _⟩ := LL_4.out.row.at (by omega)
      subst hg2
      go_wp2_with fail
      refine (numberOf_c bo m d _ hm (HM.out.later HB4.out HB4.out.size)).mono ?_
      rintro e w' ⟨z, rfl, hz0, hz1, hw⟩
      subst w'
      obtain ⟨D, hD⟩ : ∃ D : Nat, (p : Int) - (q1 : Int) + 1 = (D : Int) := ⟨p + 1 - q1, by omega⟩
      have hD1 : (0 : Int) < (D : Int) := by omega
      have hk0 := Int.emod_nonneg z (show (D : Int) ≠ 0 by omega)
      have hk1 := Int.emod_lt_of_pos z hD1
      obtain ⟨k, hk⟩ : ∃ k : Nat, z % (D : Int) = (k : Int) := ⟨(z % (D : Int)).toNat, by omega⟩
      have hkp : k + q1 ≤ p := by omega
      obtain ⟨en, hen⟩ : ∃ en : Nat, en = k + q1 := ⟨_, rfl⟩
      have hks : (k : Int) + (q1 : Int) = (en : Int) := by omega
      have hkc : ¬ c2 = k := by omega
      have hsub : k + q1 - k = q1 := by omega
      have hkz : (k : Int) ≤ (en : Int) := by omega
      have hkc2 : (en : Int) ≤ (c2 : Int) := by omega
      have hsub2 : en - k = q1 := by omega
      have hen2 : en ≤ c2 := by omega
      clear hen hsub
      go_wp2_with fail
      rw [hk]
      clear hk hk0 hk1 hD hD1
      have hSub : RdP w4 (some ⟨g2, off2 + k * 2, none⟩) ((ps.drop k).take q1) := by
        obtain ⟨bb, oo, e1, hcx⟩ := LL_4.out.rd'.2.at HP.out (by omega)
        cases e1
        exact take_drop_rd HP.out hcx hkp
      have SB_4 : Hid (RdP w4 (some ⟨g2, off2 + k * 2, none⟩) ((ps.drop k).take q1)) := hSub
      clear hSub
      have HSL : Hid (((ps.drop k).take q1).length = q1) := by show _ = _; rw [List.length_take, List.length_drop, HP.out]; omega
      have HT : Hid (∀ x : Int, 0 ≤ x → x < 1499 → throughF ((ps.drop k).take q1) 0 = (zs.getD 0 0, true) ∧ polyThF ((ps.drop k).take q1) = (zs, true) ∧ ∃ v, valueF zs x = (v, true) ∧ throughF ((ps.drop k).take q1) x = (v, true)) := fun x x0 x1 => by
        have := parts_tell HF.out (k := k) (by rw [HL1.out, HP.out]; exact hkp) x x0 x1
        rw [HL1.out] at this
        exact ⟨this.1, this.2.1, this.2.2.1⟩
      obtain ⟨z0, hz0e⟩ : ∃ z0, zs.getD 0 0 = z0 := ⟨_, rfl⟩
      have HZ0 : Hid (zs.getD 0 0 = z0) := hz0e
      have hzz : (z0 != z0) = false := by simp
      clear hz0e
      clear LL_4
      go_wp2_with fail
      refine (implJoin_c (some ⟨g2, off2 + k * 2, none⟩) q1 (c2 - k) ((ps.drop k).take q1) _ HSL.out (by omega) SB_4.out z0 true (by rw [(HT.out 0 (by omega) (by omega)).1, HZ0.out])).mono ?_
      rintro e w5 ⟨rfl, hb⟩
      have HB5 : Hid (Below w.heap.size w w5) := HB4.out.trans (hb.mono HB4.out.size)
      have PO_5 : Hid (Own w5 w.heap.size (.slice (some ⟨g1, 0, none⟩) q1 c1) zs) := PO_4.out.later hb
      have SB_5 : Hid (RdP w5 (some ⟨g2, off2 + k * 2, none⟩) ((ps.drop k).take q1)) := SB_4.out.later hb
      clear hb HB4 PO_4 SB_4
      go_wp2_with fail
      refine (implPoly_c (some ⟨g2, off2 + k * 2, none⟩) q1 (c2 - k) ((ps.drop k).take q1) _ HSL.out (by omega) SB_5.out zs true q1 (HT.out 0 (by omega) (by omega)).2.1 HL1.out).mono ?_
      rintro e w6 ⟨a5, c5, rfl, ho, hb⟩
      have HB6 : Hid (Below w.heap.size w w6) := HB5.out.trans (hb.mono HB5.out.size)
      have PO_6 : Hid (Own w6 w.heap.size (.slice (some ⟨g1, 0, none⟩) q1 c1) zs) := PO_5.out.later hb
      have SB_6 : Hid (RdP w6 (some ⟨g2, off2 + k * 2, none⟩) ((ps.drop k).take q1)) := SB_5.out.later hb
      have PP_6 : Hid (Own w6 w5.heap.size (.slice a5 q1 c5) zs) := ho
      clear hb HB5 PO_5 SB_5
      clear ho
      have cz : w6.cell? ⟨g1, 0, none⟩ = some (.int .i64 z0) := by
        have h := PO_6.out
        rw [← HL1.out] at h
        have h2 := h.cell 0 (by rw [HL1.out]; omega)
        rw [HZ0.out] at h2
        exact h2
      go_wp2_with fail
      refine (sameInts_c a5 (some ⟨g1, 0, none⟩) q1 q1 c5 c1 zs zs _ HL1.out HL1.out (by omega) (by omega) PP_6.out.rd'.2 PO_6.out.rd'.2).mono ?_
      rw [decide_eq_true rfl]
      rintro e w7 ⟨rfl, hb⟩
      have HB7 : Hid (Below w.heap.size w w7) := HB6.out.trans (hb.mono HB6.out.size)
      have PO_7 : Hid (Own w7 w.heap.size (.slice (some ⟨g1, 0, none⟩) q1 c1) zs) := PO_6.out.later hb
      have SB_7 : Hid (RdP w7 (some ⟨g2, off2 + k * 2, none⟩) ((ps.drop k).take q1)) := SB_6.out.later hb
      have PP_7 : Hid (Own w7 w5.heap.size (.slice a5 q1 c5) zs) := PP_6.out.later hb
      clear hb HB6 PO_6 SB_6 PP_6
      clear cz
      clear PP_7
      go_wp2_with fail
      refine (numberOf_c ao n c _ hn (HN.out.later HB7.out HB7.out.size)).mono ?_
      rintro e w' ⟨z2, rfl, hz20, hz21, hw⟩
      subst w'
      obtain ⟨v, hv1, hv2⟩ := (HT.out (z2 % 1499) (by omega) (by omega)).2.2
      have TV : Hid (valueF zs (z2 % 1499) = (v, true)) := hv1
      have TT : Hid (throughF ((ps.drop k).take q1) (z2 % 1499) = (v, true)) := hv2
      have hvv : (v != v) = false := by simp
      clear hv1 hv2
      go_wp2_with fail
      refine (implValue_c (some ⟨g1, 0, none⟩) q1 c1 zs (z2 % 1499) _ HL1.out (by omega) PO_7.out.rd'.2 v true TV.out).mono ?_
      rintro e w8 ⟨rfl, hb⟩
      have HB8 : Hid (Below w.heap.size w w8) := HB7.out.trans (hb.mono HB7.out.size)
      have PO_8 : Hid (Own w8 w.heap.size (.slice (some ⟨g1, 0, none⟩) q1 c1) zs) := PO_7.out.later hb
      have SB_8 : Hid (RdP w8 (some ⟨g2, off2 + k * 2, none⟩) ((ps.drop k).take q1)) := SB_7.out.later hb
      clear hb HB7 PO_7 SB_7
      go_wp2_with fail
      refine (implThrough_c (some ⟨g2, off2 + k * 2, none⟩) q1 (c2 - k) ((ps.drop k).take q1) (z2 % 1499) _ HSL.out (by omega) SB_8.out v true TT.out).mono ?_
      rintro e w9 ⟨rfl, hb⟩
      have HB9 : Hid (Below w.heap.size w w9) := HB8.out.trans (hb.mono HB8.out.size)
      have PO_9 : Hid (Own w9 w.heap.size (.slice (some ⟨g1, 0, none⟩) q1 c1) zs) := PO_8.out.later hb
      have SB_9 : Hid (RdP w9 (some ⟨g2, off2 + k * 2, none⟩) ((ps.drop k).take q1)) := SB_8.out.later hb
      clear hb HB8 PO_8 SB_8
      clear PO_9
      clear SB_9
      go_wp2_with fail
      refine (drawAdd_c bo m d _ hm (HM.out.later HB9.out HB9.out.size)).mono ?_
      rintro e w10 ⟨aa, qa, ca, za, ab, cb, zb, rfl, hqa, hra, hrb, hb⟩
      have HB10 : Hid (Below w.heap.size w w10) := HB9.out.trans (hb.mono HB9.out.size)
      have RA_10 : Hid (RowP w10 w9.heap.size aa qa ca za) := hra
      have RB_10 : Hid (RowP w10 w9.heap.size ab qa cb zb) := hrb
      clear hb HB9
      clear hra hrb
      obtain ⟨zc, fc, hFc⟩ : ∃ zc fc, addPF za zb = (zc, fc) := ⟨_, _, rfl⟩
      have HFC : Hid (addPF za zb = (zc, fc)) := hFc
      obtain ⟨pc, hpc⟩ : ∃ pc, zc.length = pc := ⟨_, rfl⟩
      have HPC : Hid (zc.length = pc) := hpc
      have hpc8 : pc ≤ 8 := by rw [← hpc]; exact addPF_short hFc
      have hfc : (fc != fc) = false := by simp
      clear hFc hpc
      go_wp2_with fail
      refine (implAdd_c aa qa ca ab qa cb za zb _ RA_10.out.1 RB_10.out.1 (by omega) (by omega) RA_10.out.rd RB_10.out.rd zc fc pc HFC.out HPC.out).mono ?_
      rintro e w11 ⟨ac, cc, rfl, ho, hb⟩
      have HB11 : Hid (Below w.heap.size w w11) := HB10.out.trans (hb.mono HB10.out.size)
      have RA_11 : Hid (RowP w11 w9.heap.size aa qa ca za) := RA_10.out.later hb
      have RB_11 : Hid (RowP w11 w9.heap.size ab qa cb zb) := RB_10.out.later hb
      have RC_11 : Hid (OwnP w11 w10.heap.size (.slice ac pc cc) zc) := ho
      clear hb HB10 RA_10 RB_10
      clear ho
      go_wp2_with fail
      refine (specAdd_c aa qa ca ab qa cb za zb _ RA_11.out.1 RB_11.out.1 (by omega) (by omega) RA_11.out.rd RB_11.out.rd zc fc pc HFC.out HPC.out).mono ?_
      rintro e w12 ⟨ad, cd, rfl, ho, hb⟩
      have HB12 : Hid (Below w.heap.size w w12) := HB11.out.trans (hb.mono HB11.out.size)
      have RA_12 : Hid (RowP w12 w9.heap.size aa qa ca za) := RA_11.out.later hb
      have RB_12 : Hid (RowP w12 w9.heap.size ab qa cb zb) := RB_11.out.later hb
      have RC_12 : Hid (OwnP w12 w10.heap.size (.slice ac pc cc) zc) := RC_11.out.later hb
      have RD_12 : Hid (OwnP w12 w11.heap.size (.slice ad pc cd) zc) := ho
      clear hb HB11 RA_11 RB_11 RC_11
      clear ho
      go_wp2_with fail
      refine (sameParts_c ac ad pc cc cd zc _ HPC.out (by omega) RC_12.out.rd'.2 RD_12.out.rd'.2).mono ?_
      rintro e w13 ⟨rfl, hb⟩
      have HB13 : Hid (Below w.heap.size w w13) := HB12.out.trans (hb.mono HB12.out.size)
      have RA_13 : Hid (RowP w13 w9.heap.size aa qa ca za) := RA_12.out.later hb
      have RB_13 : Hid (RowP w13 w9.heap.size ab qa cb zb) := RB_12.out.later hb
      have RC_13 : Hid (OwnP w13 w10.heap.size (.slice ac pc cc) zc) := RC_12.out.later hb
      have RD_13 : Hid (OwnP w13 w11.heap.size (.slice ad pc cd) zc) := RD_12.out.later hb
      clear hb HB12 RA_12 RB_12 RC_12 RD_12
      clear RD_13
      cases fc with
      | false =>
        clear RA_13
        clear RB_13
        clear RC_13
        go_wp2_with fail
        refine (drawValue_c bo m d _ hm (HM.out.later HB13.out HB13.out.size)).mono ?_
        rintro e w14 ⟨ax, qx, cx, zx, bx, rfl, hqx, hlx, ho, hbx, hb⟩
        have HB14 : Hid (Below w.heap.size w w14) := HB13.out.trans (hb.mono HB13.out.size)
        have PX_14 : Hid (Own w14 w13.heap.size (.slice ax qx cx) zx) := ho
        clear hb HB13
        have HLX : Hid (zx.length = qx) := hlx
        clear ho hlx
        obtain ⟨vx, fx, hFx⟩ : ∃ vx fx, valueF zx bx = (vx, fx) := ⟨_, _, rfl⟩
        have HFX : Hid (valueF zx bx = (vx, fx)) := hFx
        clear hFx
        go_wp2_with fail
        refine (implValue_c ax qx cx zx bx _ HLX.out (by omega) PX_14.out.rd'.2 vx fx HFX.out).mono ?_
        rintro e w15 ⟨rfl, hb⟩
        have HB15 : Hid (Below w.heap.size w w15) := HB14.out.trans (hb.mono HB14.out.size)
        have PX_15 : Hid (Own w15 w13.heap.size (.slice ax qx cx) zx) := PX_14.out.later hb
        clear hb HB14 PX_14
        go_wp2_with fail
        refine (specValue_c ax qx cx zx bx _ HLX.out (by omega) PX_15.out.rd'.2 vx fx HFX.out).mono ?_
        rintro e w16 ⟨rfl, hb⟩
        have HB16 : Hid (Below w.heap.size w w16) := HB15.out.trans (hb.mono HB15.out.size)
        have PX_16 : Hid (Own w16 w13.heap.size (.slice ax qx cx) zx) := PX_15.out.later hb
        clear hb HB15 PX_15
        clear PX_16
        go_wp2_with fail
        refine (drawJoin_c bo m d _ hm (HM.out.later HB16.out HB16.out.size)).mono ?_
        rintro e w17 ⟨ay, qy, cy, zy, rfl, hqy, hr, hb⟩
        have HB17 : Hid (Below w.heap.size w w17) := HB16.out.trans (hb.mono HB16.out.size)
        have PY_17 : Hid (RowP w17 w16.heap.size ay qy cy zy) := hr
        clear hb HB16
        clear hr
        have HLY : Hid (zy.length = qy) := PY_17.out.1
        obtain ⟨vy, fy, hFy⟩ : ∃ vy fy, throughF zy 0 = (vy, fy) := ⟨_, _, rfl⟩
        have HFY : Hid (throughF zy 0 = (vy, fy)) := hFy
        clear hFy
        go_wp2_with fail
        refine (implJoin_c ay qy cy zy _ HLY.out (by omega) PY_17.out.rd vy fy HFY.out).mono ?_
        rintro e w18 ⟨rfl, hb⟩
        have HB18 : Hid (Below w.heap.size w w18) := HB17.out.trans (hb.mono HB17.out.size)
        have PY_18 : Hid (RowP w18 w16.heap.size ay qy cy zy) := PY_17.out.later hb
        clear hb HB17 PY_17
        go_wp2_with fail
        refine (specJoin_c ay qy cy zy _ HLY.out (by omega) PY_18.out.rd vy fy HFY.out).mono ?_
        rintro e w19 ⟨rfl, hb⟩
        have HB19 : Hid (Below w.heap.size w w19) := HB18.out.trans (hb.mono HB18.out.size)
        have PY_19 : Hid (RowP w19 w16.heap.size ay qy cy zy) := PY_18.out.later hb
        clear hb HB18 PY_18
        have r1 : (fx == fx) = true := by simp
        have r2 : (vx == vx) = true := by simp
        have r3 : (fy == fy) = true := by simp
        have r4 : (vy == vy) = true := by simp
        go_wp2
        go_ret
        exact ⟨rfl, HB19.out⟩
      | true =>
        obtain ⟨xa, xb, t1, t2, t3, hxa, hxb⟩ := add_tell HFC.out
        have T1 : Hid (throughF za 0 = (xa, true)) := t1
        have T2 : Hid (throughF zb 0 = (xb, true)) := t2
        have T3 : Hid (throughF zc 0 = ((xa + xb) % 1499, true)) := t3
        have hzz : ((xa + xb) % 1499 != (xa + xb) % 1499) = false := by simp
        clear t1 t2 t3
        go_wp2_with fail
        refine (implJoin_c aa qa ca za _ RA_13.out.1 (by omega) RA_13.out.rd xa true T1.out).mono ?_
        rintro e w14 ⟨rfl, hb⟩
        have HB14 : Hid (Below w.heap.size w w14) := HB13.out.trans (hb.mono HB13.out.size)
        have RA_14 : Hid (RowP w14 w9.heap.size aa qa ca za) := RA_13.out.later hb
        have RB_14 : Hid (RowP w14 w9.heap.size ab qa cb zb) := RB_13.out.later hb
        have RC_14 : Hid (OwnP w14 w10.heap.size (.slice ac pc cc) zc) := RC_13.out.later hb
        clear hb HB13 RA_13 RB_13 RC_13
        go_wp2_with fail
        refine (implJoin_c ab qa cb zb _ RB_14.out.1 (by omega) RB_14.out.rd xb true T2.out).mono ?_
        rintro e w15 ⟨rfl, hb⟩
        have HB15 : Hid (Below w.heap.size w w15) := HB14.out.trans (hb.mono HB14.out.size)
        have RA_15 : Hid (RowP w15 w9.heap.size aa qa ca za) := RA_14.out.later hb
        have RB_15 : Hid (RowP w15 w9.heap.size ab qa cb zb) := RB_14.out.later hb
        have RC_15 : Hid (OwnP w15 w10.heap.size (.slice ac pc cc) zc) := RC_14.out.later hb
        clear hb HB14 RA_14 RB_14 RC_14
        go_wp2_with fail
        refine (implJoin_c ac pc cc zc _ HPC.out (by omega) RC_15.out.rd'.2 ((xa + xb) % 1499) true T3.out).mono ?_
        rintro e w16 ⟨rfl, hb⟩
        have HB16 : Hid (Below w.heap.size w w16) := HB15.out.trans (hb.mono HB15.out.size)
        have RA_16 : Hid (RowP w16 w9.heap.size aa qa ca za) := RA_15.out.later hb
        have RB_16 : Hid (RowP w16 w9.heap.size ab qa cb zb) := RB_15.out.later hb
        have RC_16 : Hid (OwnP w16 w10.heap.size (.slice ac pc cc) zc) := RC_15.out.later hb
        clear hb HB15 RA_15 RB_15 RC_15
        clear RA_16
        clear RB_16
        clear RC_16
        go_wp2_with fail
        refine (drawValue_c bo m d _ hm (HM.out.later HB16.out HB16.out.size)).mono ?_
        rintro e w17 ⟨ax, qx, cx, zx, bx, rfl, hqx, hlx, ho, hbx, hb⟩
        have HB17 : Hid (Below w.heap.size w w17) := HB16.out.trans (hb.mono HB16.out.size)
        have PX_17 : Hid (Own w17 w16.heap.size (.slice ax qx cx) zx) := ho
        clear hb HB16
        have HLX : Hid (zx.length = qx) := hlx
        clear ho hlx
        obtain ⟨vx, fx, hFx⟩ : ∃ vx fx, valueF zx bx = (vx, fx) := ⟨_, _, rfl⟩
        have HFX : Hid (valueF zx bx = (vx, fx)) := hFx
        clear hFx
        go_wp2_with fail
        refine (implValue_c ax qx cx zx bx _ HLX.out (by omega) PX_17.out.rd'.2 vx fx HFX.out).mono ?_
        rintro e w18 ⟨rfl, hb⟩
        have HB18 : Hid (Below w.heap.size w w18) := HB17.out.trans (hb.mono HB17.out.size)
        have PX_18 : Hid (Own w18 w16.heap.size (.slice ax qx cx) zx) := PX_17.out.later hb
        clear hb HB17 PX_17
        go_wp2_with fail
        refine (specValue_c ax qx cx zx bx _ HLX.out (by omega) PX_18.out.rd'.2 vx fx HFX.out).mono ?_
        rintro e w19 ⟨rfl, hb⟩
        have HB19 : Hid (Below w.heap.size w w19) := HB18.out.trans (hb.mono HB18.out.size)
        have PX_19 : Hid (Own w19 w16.heap.size (.slice ax qx cx) zx) := PX_18.out.later hb
        clear hb HB18 PX_18
        clear PX_19
        go_wp2_with fail
        refine (drawJoin_c bo m d _ hm (HM.out.later HB19.out HB19.out.size)).mono ?_
        rintro e w20 ⟨ay, qy, cy, zy, rfl, hqy, hr, hb⟩
        have HB20 : Hid (Below w.heap.size w w20) := HB19.out.trans (hb.mono HB19.out.size)
        have PY_20 : Hid (RowP w20 w19.heap.size ay qy cy zy) := hr
        clear hb HB19
        clear hr
        have HLY : Hid (zy.length = qy) := PY_20.out.1
        obtain ⟨vy, fy, hFy⟩ : ∃ vy fy, throughF zy 0 = (vy, fy) := ⟨_, _, rfl⟩
        have HFY : Hid (throughF zy 0 = (vy, fy)) := hFy
        clear hFy
        go_wp2_with fail
        refine (implJoin_c ay qy cy zy _ HLY.out (by omega) PY_20.out.rd vy fy HFY.out).mono ?_
        rintro e w21 ⟨rfl, hb⟩
        have HB21 : Hid (Below w.heap.size w w21) := HB20.out.trans (hb.mono HB20.out.size)
        have PY_21 : Hid (RowP w21 w19.heap.size ay qy cy zy) := PY_20.out.later hb
        clear hb HB20 PY_20
        go_wp2_with fail
        refine (specJoin_c ay qy cy zy _ HLY.out (by omega) PY_21.out.rd vy fy HFY.out).mono ?_
        rintro e w22 ⟨rfl, hb⟩
        have HB22 : Hid (Below w.heap.size w w22) := HB21.out.trans (hb.mono HB21.out.size)
        have PY_22 : Hid (RowP w22 w19.heap.size ay qy cy zy) := PY_21.out.later hb
        clear hb HB21 PY_21
        have r1 : (fx == fx) = true := by simp
        have r2 : (vx == vx) = true := by simp
        have r3 : (fy == fy) = true := by simp
        have r4 : (vy == vy) = true := by simp
        go_wp2
        go_ret
        exact ⟨rfl, HB22.out⟩
    · have hle : ¬ (q1 : Int) ≤ (p : Int) := by omega
      clear PO_4
      clear LL_4
      go_wp2_with fail
      refine (drawAdd_c bo m d _ hm (HM.out.later HB4.out HB4.out.size)).mono ?_
      rintro e w5 ⟨aa, qa, ca, za, ab, cb, zb, rfl, hqa, hra, hrb, hb⟩
      have HB5 : Hid (Below w.heap.size w w5) := HB4.out.trans (hb.mono HB4.out.size)
      have RA_5 : Hid (RowP w5 w4.heap.size aa qa ca za) := hra
      have RB_5 : Hid (RowP w5 w4.heap.size ab qa cb zb) := hrb
      clear hb HB4
      clear hra hrb
      obtain ⟨zc, fc, hFc⟩ : ∃ zc fc, addPF za zb = (zc, fc) := ⟨_, _, rfl⟩
      have HFC : Hid (addPF za zb = (zc, fc)) := hFc
      obtain ⟨pc, hpc⟩ : ∃ pc, zc.length = pc := ⟨_, rfl⟩
      have HPC : Hid (zc.length = pc) := hpc
      have hpc8 : pc ≤ 8 := by rw [← hpc]; exact addPF_short hFc
      have hfc : (fc != fc) = false := by simp
      clear hFc hpc
      go_wp2_with fail
      refine (implAdd_c aa qa ca ab qa cb za zb _ RA_5.out.1 RB_5.out.1 (by omega) (by omega) RA_5.out.rd RB_5.out.rd zc fc pc HFC.out HPC.out).mono ?_
      rintro e w6 ⟨ac, cc, rfl, ho, hb⟩
      have HB6 : Hid (Below w.heap.size w w6) := HB5.out.trans (hb.mono HB5.out.size)
      have RA_6 : Hid (RowP w6 w4.heap.size aa qa ca za) := RA_5.out.later hb
      have RB_6 : Hid (RowP w6 w4.heap.size ab qa cb zb) := RB_5.out.later hb
      have RC_6 : Hid (OwnP w6 w5.heap.size (.slice ac pc cc) zc) := ho
      clear hb HB5 RA_5 RB_5
      clear ho
      go_wp2_with fail
      refine (specAdd_c aa qa ca ab qa cb za zb _ RA_6.out.1 RB_6.out.1 (by omega) (by omega) RA_6.out.rd RB_6.out.rd zc fc pc HFC.out HPC.out).mono ?_
      rintro e w7 ⟨ad, cd, rfl, ho, hb⟩
      have HB7 : Hid (Below w.heap.size w w7) := HB6.out.trans (hb.mono HB6.out.size)
      have RA_7 : Hid (RowP w7 w4.heap.size aa qa ca za) := RA_6.out.later hb
      have RB_7 : Hid (RowP w7 w4.heap.size ab qa cb zb) := RB_6.out.later hb
      have RC_7 : Hid (OwnP w7 w5.heap.size (.slice ac pc cc) zc) := RC_6.out.later hb
      have RD_7 : Hid (OwnP w7 w6.heap.size (.slice ad pc cd) zc) := ho
      clear hb HB6 RA_6 RB_6 RC_6
      clear ho
      go_wp2_with fail
      refine (sameParts_c ac ad pc cc cd zc _ HPC.out (by omega) RC_7.out.rd'.2 RD_7.out.rd'.2).mono ?_
      rintro e w8 ⟨rfl, hb⟩
      have HB8 : Hid (Below w.heap.size w w8) := HB7.out.trans (hb.mono HB7.out.size)
      have RA_8 : Hid (RowP w8 w4.heap.size aa qa ca za) := RA_7.out.later hb
      have RB_8 : Hid (RowP w8 w4.heap.size ab qa cb zb) := RB_7.out.later hb
      have RC_8 : Hid (OwnP w8 w5.heap.size (.slice ac pc cc) zc) := RC_7.out.later hb
      have RD_8 : Hid (OwnP w8 w6.heap.size (.slice ad pc cd) zc) := RD_7.out.later hb
      clear hb HB7 RA_7 RB_7 RC_7 RD_7
      clear RD_8
      cases fc with
      | false =>
        clear RA_8
        clear RB_8
        clear RC_8
        go_wp2_with fail
        refine (drawValue_c bo m d _ hm (HM.out.later HB8.out HB8.out.size)).mono ?_
        rintro e w9 ⟨ax, qx, cx, zx, bx, rfl, hqx, hlx, ho, hbx, hb⟩
        have HB9 : Hid (Below w.heap.size w w9) := HB8.out.trans (hb.mono HB8.out.size)
        have PX_9 : Hid (Own w9 w8.heap.size (.slice ax qx cx) zx) := ho
        clear hb HB8
        have HLX : Hid (zx.length = qx) := hlx
        clear ho hlx
        obtain ⟨vx, fx, hFx⟩ : ∃ vx fx, valueF zx bx = (vx, fx) := ⟨_, _, rfl⟩
        have HFX : Hid (valueF zx bx = (vx, fx)) := hFx
        clear hFx
        go_wp2_with fail
        refine (implValue_c ax qx cx zx bx _ HLX.out (by omega) PX_9.out.rd'.2 vx fx HFX.out).mono ?_
        rintro e w10 ⟨rfl, hb⟩
        have HB10 : Hid (Below w.heap.size w w10) := HB9.out.trans (hb.mono HB9.out.size)
        have PX_10 : Hid (Own w10 w8.heap.size (.slice ax qx cx) zx) := PX_9.out.later hb
        clear hb HB9 PX_9
        go_wp2_with fail
        refine (specValue_c ax qx cx zx bx _ HLX.out (by omega) PX_10.out.rd'.2 vx fx HFX.out).mono ?_
        rintro e w11 ⟨rfl, hb⟩
        have HB11 : Hid (Below w.heap.size w w11) := HB10.out.trans (hb.mono HB10.out.size)
        have PX_11 : Hid (Own w11 w8.heap.size (.slice ax qx cx) zx) := PX_10.out.later hb
        clear hb HB10 PX_10
        clear PX_11
        go_wp2_with fail
        refine (drawJoin_c bo m d _ hm (HM.out.later HB11.out HB11.out.size)).mono ?_
        rintro e w12 ⟨ay, qy, cy, zy, rfl, hqy, hr, hb⟩
        have HB12 : Hid (Below w.heap.size w w12) := HB11.out.trans (hb.mono HB11.out.size)
        have PY_12 : Hid (RowP w12 w11.heap.size ay qy cy zy) := hr
        clear hb HB11
        clear hr
        have HLY : Hid (zy.length = qy) := PY_12.out.1
        obtain ⟨vy, fy, hFy⟩ : ∃ vy fy, throughF zy 0 = (vy, fy) := ⟨_, _, rfl⟩
        have HFY : Hid (throughF zy 0 = (vy, fy)) := hFy
        clear hFy
        go_wp2_with fail
        refine (implJoin_c ay qy cy zy _ HLY.out (by omega) PY_12.out.rd vy fy HFY.out).mono ?_
        rintro e w13 ⟨rfl, hb⟩
        have HB13 : Hid (Below w.heap.size w w13) := HB12.out.trans (hb.mono HB12.out.size)
        have PY_13 : Hid (RowP w13 w11.heap.size ay qy cy zy) := PY_12.out.later hb
        clear hb HB12 PY_12
        go_wp2_with fail
        refine (specJoin_c ay qy cy zy _ HLY.out (by omega) PY_13.out.rd vy fy HFY.out).mono ?_
        rintro e w14 ⟨rfl, hb⟩
        have HB14 : Hid (Below w.heap.size w w14) := HB13.out.trans (hb.mono HB13.out.size)
        have PY_14 : Hid (RowP w14 w11.heap.size ay qy cy zy) := PY_13.out.later hb
        clear hb HB13 PY_13
        have r1 : (fx == fx) = true := by simp
        have r2 : (vx == vx) = true := by simp
        have r3 : (fy == fy) = true := by simp
        have r4 : (vy == vy) = true := by simp
        go_wp2
        go_ret
        exact ⟨rfl, HB14.out⟩
      | true =>
        obtain ⟨xa, xb, t1, t2, t3, hxa, hxb⟩ := add_tell HFC.out
        have T1 : Hid (throughF za 0 = (xa, true)) := t1
        have T2 : Hid (throughF zb 0 = (xb, true)) := t2
        have T3 : Hid (throughF zc 0 = ((xa + xb) % 1499, true)) := t3
        have hzz : ((xa + xb) % 1499 != (xa + xb) % 1499) = false := by simp
        clear t1 t2 t3
        go_wp2_with fail
        refine (implJoin_c aa qa ca za _ RA_8.out.1 (by omega) RA_8.out.rd xa true T1.out).mono ?_
        rintro e w9 ⟨rfl, hb⟩
        have HB9 : Hid (Below w.heap.size w w9) := HB8.out.trans (hb.mono HB8.out.size)
        have RA_9 : Hid (RowP w9 w4.heap.size aa qa ca za) := RA_8.out.later hb
        have RB_9 : Hid (RowP w9 w4.heap.size ab qa cb zb) := RB_8.out.later hb
        have RC_9 : Hid (OwnP w9 w5.heap.size (.slice ac pc cc) zc) := RC_8.out.later hb
        clear hb HB8 RA_8 RB_8 RC_8
        go_wp2_with fail
        refine (implJoin_c ab qa cb zb _ RB_9.out.1 (by omega) RB_9.out.rd xb true T2.out).mono ?_
        rintro e w10 ⟨rfl, hb⟩
        have HB10 : Hid (Below w.heap.size w w10) := HB9.out.trans (hb.mono HB9.out.size)
        have RA_10 : Hid (RowP w10 w4.heap.size aa qa ca za) := RA_9.out.later hb
        have RB_10 : Hid (RowP w10 w4.heap.size ab qa cb zb) := RB_9.out.later hb
        have RC_10 : Hid (OwnP w10 w5.heap.size (.slice ac pc cc) zc) := RC_9.out.later hb
        clear hb HB9 RA_9 RB_9 RC_9
        go_wp2_with fail
        refine (implJoin_c ac pc cc zc _ HPC.out (by omega) RC_10.out.rd'.2 ((xa + xb) % 1499) true T3.out).mono ?_
        rintro e w11 ⟨rfl, hb⟩
        have HB11 : Hid (Below w.heap.size w w11) := HB10.out.trans (hb.mono HB10.out.size)
        have RA_11 : Hid (RowP w11 w4.heap.size aa qa ca za) := RA_10.out.later hb
        have RB_11 : Hid (RowP w11 w4.heap.size ab qa cb zb) := RB_10.out.later hb
        have RC_11 : Hid (OwnP w11 w5.heap.size (.slice ac pc cc) zc) := RC_10.out.later hb
        clear hb HB10 RA_10 RB_10 RC_10
        clear RA_11
        clear RB_11
        clear RC_11
        go_wp2_with fail
        refine (drawValue_c bo m d _ hm (HM.out.later HB11.out HB11.out.size)).mono ?_
        rintro e w12 ⟨ax, qx, cx, zx, bx, rfl, hqx, hlx, ho, hbx, hb⟩
        have HB12 : Hid (Below w.heap.size w w12) := HB11.out.trans (hb.mono HB11.out.size)
        have PX_12 : Hid (Own w12 w11.heap.size (.slice ax qx cx) zx) := ho
        clear hb HB11
        have HLX : Hid (zx.length = qx) := hlx
        clear ho hlx
        obtain ⟨vx, fx, hFx⟩ : ∃ vx fx, valueF zx bx = (vx, fx) := ⟨_, _, rfl⟩
        have HFX : Hid (valueF zx bx = (vx, fx)) := hFx
        clear hFx
        go_wp2_with fail
        refine (implValue_c ax qx cx zx bx _ HLX.out (by omega) PX_12.out.rd'.2 vx fx HFX.out).mono ?_
        rintro e w13 ⟨rfl, hb⟩
        have HB13 : Hid (Below w.heap.size w w13) := HB12.out.trans (hb.mono HB12.out.size)
        have PX_13 : Hid (Own w13 w11.heap.size (.slice ax qx cx) zx) := PX_12.out.later hb
        clear hb HB12 PX_12
        go_wp2_with fail
        refine (specValue_c ax qx cx zx bx _ HLX.out (by omega) PX_13.out.rd'.2 vx fx HFX.out).mono ?_
        rintro e w14 ⟨rfl, hb⟩
        have HB14 : Hid (Below w.heap.size w w14) := HB13.out.trans (hb.mono HB13.out.size)
        have PX_14 : Hid (Own w14 w11.heap.size (.slice ax qx cx) zx) := PX_13.out.later hb
        clear hb HB13 PX_13
        clear PX_14
        go_wp2_with fail
        refine (drawJoin_c bo m d _ hm (HM.out.later HB14.out HB14.out.size)).mono ?_
        rintro e w15 ⟨ay, qy, cy, zy, rfl, hqy, hr, hb⟩
        have HB15 : Hid (Below w.heap.size w w15) := HB14.out.trans (hb.mono HB14.out.size)
        have PY_15 : Hid (RowP w15 w14.heap.size ay qy cy zy) := hr
        clear hb HB14
        clear hr
        have HLY : Hid (zy.length = qy) := PY_15.out.1
        obtain ⟨vy, fy, hFy⟩ : ∃ vy fy, throughF zy 0 = (vy, fy) := ⟨_, _, rfl⟩
        have HFY : Hid (throughF zy 0 = (vy, fy)) := hFy
        clear hFy
        go_wp2_with fail
        refine (implJoin_c ay qy cy zy _ HLY.out (by omega) PY_15.out.rd vy fy HFY.out).mono ?_
        rintro e w16 ⟨rfl, hb⟩
        have HB16 : Hid (Below w.heap.size w w16) := HB15.out.trans (hb.mono HB15.out.size)
        have PY_16 : Hid (RowP w16 w14.heap.size ay qy cy zy) := PY_15.out.later hb
        clear hb HB15 PY_15
        go_wp2_with fail
        refine (specJoin_c ay qy cy zy _ HLY.out (by omega) PY_16.out.rd vy fy HFY.out).mono ?_
        rintro e w17 ⟨rfl, hb⟩
        have HB17 : Hid (Below w.heap.size w w17) := HB16.out.trans (hb.mono HB16.out.size)
        have PY_17 : Hid (RowP w17 w14.heap.size ay qy cy zy) := PY_16.out.later hb
        clear hb HB16 PY_16
        have r1 : (fx == fx) = true := by simp
        have r2 : (vx == vx) = true := by simp
        have r3 : (fy == fy) = true := by simp
        have r4 : (vy == vy) = true := by simp
        go_wp2
        go_ret
        exact ⟨rfl, HB17.out⟩

end Go.Proofs.Ytamppekadobagaa
