/- The law FnBodies, walked: true at every two texts of bytes. -/
import Derived.Test.YtnfoflijapbkdaaD7X
import Derived.Test.YtnfoflijapbkdaaD7C
namespace Go.Proofs.Ytnfoflijapbkdaa
set_option linter.unusedVariables false
set_option maxRecDepth 1000000
set_option linter.unusedSimpArgs false
open Go.RowKit

theorem unpad_again {s t : ByteArray} (h : padBF s = (t, true)) : unpadF t = (s, true) ∧ t.size = 16 ∧ s.size < 16 := by
  unfold padBF at h
  by_cases hs : s.size < 16
  · rw [if_pos hs] at h
    have ht := (Prod.mk.inj h).1
    subst ht
    have hl : (bl s).length < 16 := by rw [bl_length]; exact hs
    refine ⟨?_, by rw [tx_size, padB_length hl], hs⟩
    unfold unpadF
    rw [bl_tx, unpad_pad _ hl]
    show (tx (bl s), true) = _
    rw [tx_bl]
  · rw [if_neg hs] at h
    cases (Prod.mk.inj h).2
theorem pad_again {t u : ByteArray} (h : unpadF t = (u, true)) : padBF u = (t, true) ∧ u.size < 16 := by
  unfold unpadF at h
  cases hu : unpadB (bl t) with
  | none => rw [hu] at h; cases (Prod.mk.inj h).2
  | some b =>
    rw [hu] at h
    have hb := (Prod.mk.inj h).1
    subst hb
    obtain ⟨h1, h2⟩ := pad_unpad hu
    refine ⟨?_, by rw [tx_size]; exact h1⟩
    unfold padBF
    rw [if_pos (by rw [tx_size]; exact h1), bl_tx, h2, tx_bl]
theorem xor_twice {a b x : ByteArray} (h : xorF a b = (x, true)) : xorF x b = (a, true) ∧ x.size ≤ 40 := by
  unfold xorF at h
  by_cases hc : a.size = b.size ∧ a.size ≤ 40
  · rw [if_pos hc] at h
    have hx := (Prod.mk.inj h).1
    subst hx
    have hl : (bl a).length = (bl b).length := by rw [bl_length, bl_length]; exact hc.1
    have hs : (tx (xorB (bl a) (bl b))).size = a.size := by rw [tx_size, xorB_length hl, bl_length]
    refine ⟨?_, by omega⟩
    unfold xorF
    rw [if_pos (by rw [hs]; exact hc), bl_tx, xorB_xorB hl, tx_bl]
  · rw [if_neg hc] at h
    cases (Prod.mk.inj h).2

set_option maxHeartbeats 16000000 in
set_option maxRecDepth 1000000 in
theorem lawFnBodies_c (ao : Option Addr) (n c : Nat) (bo : Option Addr) (m d : Nat) (w : World) (hn : n ≤ 9223372036854775807) (hm : m ≤ 9223372036854775807) (h1 : CodeOk w w.heap.size ao n) (h2 : CodeOk w w.heap.size bo m) :
    Calls Try.prog 4 #[.slice ao n c, .slice bo m d] w fun e w' => e = .returned (.bool true) ∧ Below w.heap.size w w' := by
  by_cases hl : 1048576 < wrap64 ((n : Int) + (m : Int))
  · clear h1 h2
    go_enter Try.func4, Try.ntmps4
    go_wp2
    go_ret
    exact ⟨rfl, Below.refl _ _⟩
  have HN : Hid (CodeOk w w.heap.size ao n) := h1
  have HM : Hid (CodeOk w w.heap.size bo m) := h2
  have HB0 : Hid (Below w.heap.size w w) := Below.refl _ _
  clear h1 h2
  go_enter Try.func4, Try.ntmps4
  go_wp2_with fail
  refine (drawPadBody_c ao n c _ hn (HN.out.later HB0.out HB0.out.size)).mono ?_
  rintro e w1 ⟨s, rfl, hs, hb⟩
  have HB1 : Hid (Below w.heap.size w w1) := HB0.out.trans (hb.mono HB0.out.size)
  clear hb HB0
  obtain ⟨p, pb, hQ⟩ : ∃ p pb, padBF s = (p, pb) := ⟨_, _, rfl⟩
  have HQ : Hid (padBF s = (p, pb)) := hQ
  have eq1 : (pb != pb) = false := by simp
  have eq2 : (p.toList == p.toList) = true := by simp
  clear hQ
  go_wp2_with fail
  refine (implPadBody_c s _ (by omega) p pb HQ.out).mono ?_
  rintro e w2 ⟨rfl, hb⟩
  have HB2 : Hid (Below w.heap.size w w2) := HB1.out.trans (hb.mono HB1.out.size)
  clear hb HB1
  go_wp2_with fail
  refine (specPadBody_c s _ (by omega) p pb HQ.out).mono ?_
  rintro e w3 ⟨rfl, hb⟩
  have HB3 : Hid (Below w.heap.size w w3) := HB2.out.trans (hb.mono HB2.out.size)
  clear hb HB2
  cases pb
  · skip
    go_wp2_with fail
    refine (drawUnpad_c bo m d _ hm (HM.out.later HB3.out HB3.out.size)).mono ?_
    rintro e w4 ⟨ut, rfl, hut, hb⟩
    have HB4 : Hid (Below w.heap.size w w4) := HB3.out.trans (hb.mono HB3.out.size)
    clear hb HB3
    obtain ⟨uu, uf, hU⟩ : ∃ uu uf, unpadF ut = (uu, uf) := ⟨_, _, rfl⟩
    have HU : Hid (unpadF ut = (uu, uf)) := hU
    have eu1 : (uf != uf) = false := by simp
    have eu2 : (uu.toList == uu.toList) = true := by simp
    clear hU
    go_wp2_with fail
    refine (implUnpad_c ut _ (by omega) uu uf HU.out).mono ?_
    rintro e w5 ⟨rfl, hb⟩
    have HB5 : Hid (Below w.heap.size w w5) := HB4.out.trans (hb.mono HB4.out.size)
    clear hb HB4
    go_wp2_with fail
    refine (specUnpad_c ut _ (by omega) uu uf HU.out).mono ?_
    rintro e w6 ⟨rfl, hb⟩
    have HB6 : Hid (Below w.heap.size w w6) := HB5.out.trans (hb.mono HB5.out.size)
    clear hb HB5
    cases uf
    · skip
      go_wp2_with fail
      refine (drawXor_c bo m d _ hm (HM.out.later HB6.out HB6.out.size)).mono ?_
      rintro e w7 ⟨xa, xb, rfl, hxa, hxb, hb⟩
      have HB7 : Hid (Below w.heap.size w w7) := HB6.out.trans (hb.mono HB6.out.size)
      clear hb HB6
      obtain ⟨x, xf, hX⟩ : ∃ x xf, xorF xa xb = (x, xf) := ⟨_, _, rfl⟩
      have HX : Hid (xorF xa xb = (x, xf)) := hX
      have ex1 : (xf != xf) = false := by simp
      have ex2 : (x.toList == x.toList) = true := by simp
      clear hX
      go_wp2_with fail
      refine (implXor_c xa xb _ (by omega) (by omega) x xf HX.out).mono ?_
      rintro e w8 ⟨rfl, hb⟩
      have HB8 : Hid (Below w.heap.size w w8) := HB7.out.trans (hb.mono HB7.out.size)
      clear hb HB7
      go_wp2_with fail
      refine (specXor_c xa xb _ (by omega) (by omega) x xf HX.out).mono ?_
      rintro e w9 ⟨rfl, hb⟩
      have HB9 : Hid (Below w.heap.size w w9) := HB8.out.trans (hb.mono HB8.out.size)
      clear hb HB8
      go_wp2_with fail
      refine (drawPadFor_c bo m d _ hm (HM.out.later HB9.out HB9.out.size)).mono ?_
      rintro e w10 ⟨pk, pm, rfl, hb⟩
      have HB10 : Hid (Below w.heap.size w w10) := HB9.out.trans (hb.mono HB9.out.size)
      clear hb HB9
      obtain ⟨pd, pf, hP⟩ : ∃ pd pf, padF pk pm = (pd, pf) := ⟨_, _, rfl⟩
      have HP : Hid (padF pk pm = (pd, pf)) := hP
      have ep1 : (pf != pf) = false := by simp
      have ep2 : (pd.toList == pd.toList) = true := by simp
      clear hP
      go_wp2_with fail
      refine (implPadFor_c pk pm _ pd pf HP.out).mono ?_
      rintro e w11 ⟨rfl, hb⟩
      have HB11 : Hid (Below w.heap.size w w11) := HB10.out.trans (hb.mono HB10.out.size)
      clear hb HB10
      go_wp2_with fail
      refine (specPadFor_c pk pm _ pd pf HP.out).mono ?_
      rintro e w12 ⟨rfl, hb⟩
      have HB12 : Hid (Below w.heap.size w w12) := HB11.out.trans (hb.mono HB11.out.size)
      clear hb HB11
      go_wp2_with fail
      refine (drawCheck_c bo m d _ hm (HM.out.later HB12.out HB12.out.size)).mono ?_
      rintro e w13 ⟨cs, rfl, hcs, hb⟩
      have HB13 : Hid (Below w.heap.size w w13) := HB12.out.trans (hb.mono HB12.out.size)
      clear hb HB12
      obtain ⟨cz, cf, hC⟩ : ∃ cz cf, chkF cs = (cz, cf) := ⟨_, _, rfl⟩
      have HC : Hid (chkF cs = (cz, cf)) := hC
      have ec1 : (cf != cf) = false := by simp
      have ec2 : (cz != cz) = false := by simp
      clear hC
      go_wp2_with fail
      refine (implCheck_c cs _ (by omega) cz cf HC.out).mono ?_
      rintro e w14 ⟨rfl, hb⟩
      have HB14 : Hid (Below w.heap.size w w14) := HB13.out.trans (hb.mono HB13.out.size)
      clear hb HB13
      go_wp2_with fail
      refine (specCheck_c cs _ (by omega) cz cf HC.out).mono ?_
      rintro e w15 ⟨rfl, hb⟩
      have HB15 : Hid (Below w.heap.size w w15) := HB14.out.trans (hb.mono HB14.out.size)
      clear hb HB14
      cases xf
      · skip
        go_wp2
        go_ret
        exact ⟨rfl, HB15.out⟩
      · obtain ⟨HXX, hxs⟩ := xor_twice HX.out
        have ea : (xa.toList == xa.toList) = true := by simp
        go_wp2_with fail
        refine (implXor_c x xb _ (by omega) (by omega) xa true HXX).mono ?_
        rintro e w16 ⟨rfl, hb⟩
        have HB16 : Hid (Below w.heap.size w w16) := HB15.out.trans (hb.mono HB15.out.size)
        clear hb HB15
        go_wp2
        go_ret
        exact ⟨rfl, HB16.out⟩
    · obtain ⟨HUU, hus⟩ := pad_again HU.out
      have eut : (ut.toList == ut.toList) = true := by simp
      go_wp2_with fail
      refine (implPadBody_c uu _ (by omega) ut true HUU).mono ?_
      rintro e w7 ⟨rfl, hb⟩
      have HB7 : Hid (Below w.heap.size w w7) := HB6.out.trans (hb.mono HB6.out.size)
      clear hb HB6
      go_wp2_with fail
      refine (drawXor_c bo m d _ hm (HM.out.later HB7.out HB7.out.size)).mono ?_
      rintro e w8 ⟨xa, xb, rfl, hxa, hxb, hb⟩
      have HB8 : Hid (Below w.heap.size w w8) := HB7.out.trans (hb.mono HB7.out.size)
      clear hb HB7
      obtain ⟨x, xf, hX⟩ : ∃ x xf, xorF xa xb = (x, xf) := ⟨_, _, rfl⟩
      have HX : Hid (xorF xa xb = (x, xf)) := hX
      have ex1 : (xf != xf) = false := by simp
      have ex2 : (x.toList == x.toList) = true := by simp
      clear hX
      go_wp2_with fail
      refine (implXor_c xa xb _ (by omega) (by omega) x xf HX.out).mono ?_
      rintro e w9 ⟨rfl, hb⟩
      have HB9 : Hid (Below w.heap.size w w9) := HB8.out.trans (hb.mono HB8.out.size)
      clear hb HB8
      go_wp2_with fail
      refine (specXor_c xa xb _ (by omega) (by omega) x xf HX.out).mono ?_
      rintro e w10 ⟨rfl, hb⟩
      have HB10 : Hid (Below w.heap.size w w10) := HB9.out.trans (hb.mono HB9.out.size)
      clear hb HB9
      go_wp2_with fail
      refine (drawPadFor_c bo m d _ hm (HM.out.later HB10.out HB10.out.size)).mono ?_
      rintro e w11 ⟨pk, pm, rfl, hb⟩
      have HB11 : Hid (Below w.heap.size w w11) := HB10.out.trans (hb.mono HB10.out.size)
      clear hb HB10
      obtain ⟨pd, pf, hP⟩ : ∃ pd pf, padF pk pm = (pd, pf) := ⟨_, _, rfl⟩
      have HP : Hid (padF pk pm = (pd, pf)) := hP
      have ep1 : (pf != pf) = false := by simp
      have ep2 : (pd.toList == pd.toList) = true := by simp
      clear hP
      go_wp2_with fail
      refine (implPadFor_c pk pm _ pd pf HP.out).mono ?_
      rintro e w12 ⟨rfl, hb⟩
      have HB12 : Hid (Below w.heap.size w w12) := HB11.out.trans (hb.mono HB11.out.size)
      clear hb HB11
      go_wp2_with fail
      refine (specPadFor_c pk pm _ pd pf HP.out).mono ?_
      rintro e w13 ⟨rfl, hb⟩
      have HB13 : Hid (Below w.heap.size w w13) := HB12.out.trans (hb.mono HB12.out.size)
      clear hb HB12
      go_wp2_with fail
      refine (drawCheck_c bo m d _ hm (HM.out.later HB13.out HB13.out.size)).mono ?_
      rintro e w14 ⟨cs, rfl, hcs, hb⟩
      have HB14 : Hid (Below w.heap.size w w14) := HB13.out.trans (hb.mono HB13.out.size)
      clear hb HB13
      obtain ⟨cz, cf, hC⟩ : ∃ cz cf, chkF cs = (cz, cf) := ⟨_, _, rfl⟩
      have HC : Hid (chkF cs = (cz, cf)) := hC
      have ec1 : (cf != cf) = false := by simp
      have ec2 : (cz != cz) = false := by simp
      clear hC
      go_wp2_with fail
      refine (implCheck_c cs _ (by omega) cz cf HC.out).mono ?_
      rintro e w15 ⟨rfl, hb⟩
      have HB15 : Hid (Below w.heap.size w w15) := HB14.out.trans (hb.mono HB14.out.size)
      clear hb HB14
      go_wp2_with fail
      refine (specCheck_c cs _ (by omega) cz cf HC.out).mono ?_
      rintro e w16 ⟨rfl, hb⟩
      have HB16 : Hid (Below w.heap.size w w16) := HB15.out.trans (hb.mono HB15.out.size)
      clear hb HB15
      cases xf
      · skip
        go_wp2
        go_ret
        exact ⟨rfl, HB16.out⟩
      · obtain ⟨HXX, hxs⟩ := xor_twice HX.out
        have ea : (xa.toList == xa.toList) = true := by simp
        go_wp2_with fail
        refine (implXor_c x xb _ (by omega) (by omega) xa true HXX).mono ?_
        rintro e w17 ⟨rfl, hb⟩
        have HB17 : Hid (Below w.heap.size w w17) := HB16.out.trans (hb.mono HB16.out.size)
        clear hb HB16
        go_wp2
        go_ret
        exact ⟨rfl, HB17.out⟩
  · obtain ⟨HQQ, hp16, _⟩ := unpad_again HQ.out
    have es : (s.toList == s.toList) = true := by simp
    have e16 : ((p.size : Int) != 16) = false := by rw [bne_eq_false_iff_eq]; omega
    go_wp2_with fail
    refine (implUnpad_c p _ (by omega) s true HQQ).mono ?_
    rintro e w4 ⟨rfl, hb⟩
    have HB4 : Hid (Below w.heap.size w w4) := HB3.out.trans (hb.mono HB3.out.size)
    clear hb HB3
    go_wp2_with fail
    refine (drawUnpad_c bo m d _ hm (HM.out.later HB4.out HB4.out.size)).mono ?_
    rintro e w5 ⟨ut, rfl, hut, hb⟩
    have HB5 : Hid (Below w.heap.size w w5) := HB4.out.trans (hb.mono HB4.out.size)
    clear hb HB4
    obtain ⟨uu, uf, hU⟩ : ∃ uu uf, unpadF ut = (uu, uf) := ⟨_, _, rfl⟩
    have HU : Hid (unpadF ut = (uu, uf)) := hU
    have eu1 : (uf != uf) = false := by simp
    have eu2 : (uu.toList == uu.toList) = true := by simp
    clear hU
    go_wp2_with fail
    refine (implUnpad_c ut _ (by omega) uu uf HU.out).mono ?_
    rintro e w6 ⟨rfl, hb⟩
    have HB6 : Hid (Below w.heap.size w w6) := HB5.out.trans (hb.mono HB5.out.size)
    clear hb HB5
    go_wp2_with fail
    refine (specUnpad_c ut _ (by omega) uu uf HU.out).mono ?_
    rintro e w7 ⟨rfl, hb⟩
    have HB7 : Hid (Below w.heap.size w w7) := HB6.out.trans (hb.mono HB6.out.size)
    clear hb HB6
    cases uf
    · skip
      go_wp2_with fail
      refine (drawXor_c bo m d _ hm (HM.out.later HB7.out HB7.out.size)).mono ?_
      rintro e w8 ⟨xa, xb, rfl, hxa, hxb, hb⟩
      have HB8 : Hid (Below w.heap.size w w8) := HB7.out.trans (hb.mono HB7.out.size)
      clear hb HB7
      obtain ⟨x, xf, hX⟩ : ∃ x xf, xorF xa xb = (x, xf) := ⟨_, _, rfl⟩
      have HX : Hid (xorF xa xb = (x, xf)) := hX
      have ex1 : (xf != xf) = false := by simp
      have ex2 : (x.toList == x.toList) = true := by simp
      clear hX
      go_wp2_with fail
      refine (implXor_c xa xb _ (by omega) (by omega) x xf HX.out).mono ?_
      rintro e w9 ⟨rfl, hb⟩
      have HB9 : Hid (Below w.heap.size w w9) := HB8.out.trans (hb.mono HB8.out.size)
      clear hb HB8
      go_wp2_with fail
      refine (specXor_c xa xb _ (by omega) (by omega) x xf HX.out).mono ?_
      rintro e w10 ⟨rfl, hb⟩
      have HB10 : Hid (Below w.heap.size w w10) := HB9.out.trans (hb.mono HB9.out.size)
      clear hb HB9
      go_wp2_with fail
      refine (drawPadFor_c bo m d _ hm (HM.out.later HB10.out HB10.out.size)).mono ?_
      rintro e w11 ⟨pk, pm, rfl, hb⟩
      have HB11 : Hid (Below w.heap.size w w11) := HB10.out.trans (hb.mono HB10.out.size)
      clear hb HB10
      obtain ⟨pd, pf, hP⟩ : ∃ pd pf, padF pk pm = (pd, pf) := ⟨_, _, rfl⟩
      have HP : Hid (padF pk pm = (pd, pf)) := hP
      have ep1 : (pf != pf) = false := by simp
      have ep2 : (pd.toList == pd.toList) = true := by simp
      clear hP
      go_wp2_with fail
      refine (implPadFor_c pk pm _ pd pf HP.out).mono ?_
      rintro e w12 ⟨rfl, hb⟩
      have HB12 : Hid (Below w.heap.size w w12) := HB11.out.trans (hb.mono HB11.out.size)
      clear hb HB11
      go_wp2_with fail
      refine (specPadFor_c pk pm _ pd pf HP.out).mono ?_
      rintro e w13 ⟨rfl, hb⟩
      have HB13 : Hid (Below w.heap.size w w13) := HB12.out.trans (hb.mono HB12.out.size)
      clear hb HB12
      go_wp2_with fail
      refine (drawCheck_c bo m d _ hm (HM.out.later HB13.out HB13.out.size)).mono ?_
      rintro e w14 ⟨cs, rfl, hcs, hb⟩
      have HB14 : Hid (Below w.heap.size w w14) := HB13.out.trans (hb.mono HB13.out.size)
      clear hb HB13
      obtain ⟨cz, cf, hC⟩ : ∃ cz cf, chkF cs = (cz, cf) := ⟨_, _, rfl⟩
      have HC : Hid (chkF cs = (cz, cf)) := hC
      have ec1 : (cf != cf) = false := by simp
      have ec2 : (cz != cz) = false := by simp
      clear hC
      go_wp2_with fail
      refine (implCheck_c cs _ (by omega) cz cf HC.out).mono ?_
      rintro e w15 ⟨rfl, hb⟩
      have HB15 : Hid (Below w.heap.size w w15) := HB14.out.trans (hb.mono HB14.out.size)
      clear hb HB14
      go_wp2_with fail
      refine (specCheck_c cs _ (by omega) cz cf HC.out).mono ?_
      rintro e w16 ⟨rfl, hb⟩
      have HB16 : Hid (Below w.heap.size w w16) := HB15.out.trans (hb.mono HB15.out.size)
      clear hb HB15
      cases xf
      · skip
        go_wp2
        go_ret
        exact ⟨rfl, HB16.out⟩
      · obtain ⟨HXX, hxs⟩ := xor_twice HX.out
        have ea : (xa.toList == xa.toList) = true := by simp
        go_wp2_with fail
        refine (implXor_c x xb _ (by omega) (by omega) xa true HXX).mono ?_
        rintro e w17 ⟨rfl, hb⟩
        have HB17 : Hid (Below w.heap.size w w17) := HB16.out.trans (hb.mono HB16.out.size)
        clear hb HB16
        go_wp2
        go_ret
        exact ⟨rfl, HB17.out⟩
    · obtain ⟨HUU, hus⟩ := pad_again HU.out
      have eut : (ut.toList == ut.toList) = true := by simp
      go_wp2_with fail
      refine (implPadBody_c uu _ (by omega) ut true HUU).mono ?_
      rintro e w8 ⟨rfl, hb⟩
      have HB8 : Hid (Below w.heap.size w w8) := HB7.out.trans (hb.mono HB7.out.size)
      clear hb HB7
      go_wp2_with fail
      refine (drawXor_c bo m d _ hm (HM.out.later HB8.out HB8.out.size)).mono ?_
      rintro e w9 ⟨xa, xb, rfl, hxa, hxb, hb⟩
      have HB9 : Hid (Below w.heap.size w w9) := HB8.out.trans (hb.mono HB8.out.size)
      clear hb HB8
      obtain ⟨x, xf, hX⟩ : ∃ x xf, xorF xa xb = (x, xf) := ⟨_, _, rfl⟩
      have HX : Hid (xorF xa xb = (x, xf)) := hX
      have ex1 : (xf != xf) = false := by simp
      have ex2 : (x.toList == x.toList) = true := by simp
      clear hX
      go_wp2_with fail
      refine (implXor_c xa xb _ (by omega) (by omega) x xf HX.out).mono ?_
      rintro e w10 ⟨rfl, hb⟩
      have HB10 : Hid (Below w.heap.size w w10) := HB9.out.trans (hb.mono HB9.out.size)
      clear hb HB9
      go_wp2_with fail
      refine (specXor_c xa xb _ (by omega) (by omega) x xf HX.out).mono ?_
      rintro e w11 ⟨rfl, hb⟩
      have HB11 : Hid (Below w.heap.size w w11) := HB10.out.trans (hb.mono HB10.out.size)
      clear hb HB10
      go_wp2_with fail
      refine (drawPadFor_c bo m d _ hm (HM.out.later HB11.out HB11.out.size)).mono ?_
      rintro e w12 ⟨pk, pm, rfl, hb⟩
      have HB12 : Hid (Below w.heap.size w w12) := HB11.out.trans (hb.mono HB11.out.size)
      clear hb HB11
      obtain ⟨pd, pf, hP⟩ : ∃ pd pf, padF pk pm = (pd, pf) := ⟨_, _, rfl⟩
      have HP : Hid (padF pk pm = (pd, pf)) := hP
      have ep1 : (pf != pf) = false := by simp
      have ep2 : (pd.toList == pd.toList) = true := by simp
      clear hP
      go_wp2_with fail
      refine (implPadFor_c pk pm _ pd pf HP.out).mono ?_
      rintro e w13 ⟨rfl, hb⟩
      have HB13 : Hid (Below w.heap.size w w13) := HB12.out.trans (hb.mono HB12.out.size)
      clear hb HB12
      go_wp2_with fail
      refine (specPadFor_c pk pm _ pd pf HP.out).mono ?_
      rintro e w14 ⟨rfl, hb⟩
      have HB14 : Hid (Below w.heap.size w w14) := HB13.out.trans (hb.mono HB13.out.size)
      clear hb HB13
      go_wp2_with fail
      refine (drawCheck_c bo m d _ hm (HM.out.later HB14.out HB14.out.size)).mono ?_
      rintro e w15 ⟨cs, rfl, hcs, hb⟩
      have HB15 : Hid (Below w.heap.size w w15) := HB14.out.trans (hb.mono HB14.out.size)
      clear hb HB14
      obtain ⟨cz, cf, hC⟩ : ∃ cz cf, chkF cs = (cz, cf) := ⟨_, _, rfl⟩
      have HC : Hid (chkF cs = (cz, cf)) := hC
      have ec1 : (cf != cf) = false := by simp
      have ec2 : (cz != cz) = false := by simp
      clear hC
      go_wp2_with fail
      refine (implCheck_c cs _ (by omega) cz cf HC.out).mono ?_
      rintro e w16 ⟨rfl, hb⟩
      have HB16 : Hid (Below w.heap.size w w16) := HB15.out.trans (hb.mono HB15.out.size)
      clear hb HB15
      go_wp2_with fail
      refine (specCheck_c cs _ (by omega) cz cf HC.out).mono ?_
      rintro e w17 ⟨rfl, hb⟩
      have HB17 : Hid (Below w.heap.size w w17) := HB16.out.trans (hb.mono HB16.out.size)
      clear hb HB16
      cases xf
      · skip
        go_wp2
        go_ret
        exact ⟨rfl, HB17.out⟩
      · obtain ⟨HXX, hxs⟩ := xor_twice HX.out
        have ea : (xa.toList == xa.toList) = true := by simp
        go_wp2_with fail
        refine (implXor_c x xb _ (by omega) (by omega) xa true HXX).mono ?_
        rintro e w18 ⟨rfl, hb⟩
        have HB18 : Hid (Below w.heap.size w w18) := HB17.out.trans (hb.mono HB17.out.size)
        clear hb HB17
        go_wp2
        go_ret
        exact ⟨rfl, HB18.out⟩

end Go.Proofs.Ytnfoflijapbkdaa
