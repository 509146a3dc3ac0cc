/- The law FnTaps, walked: true at every two texts. -/
import Derived.Test.YtjdfpjeeipbghaaDM3
import Derived.Test.YtjdfpjeeipbghaaMM3
import Derived.Test.YtjdfpjeeipbghaaMV3
import Derived.Test.YtjdfpjeeipbghaaMT3
import Derived.Deep.DeepCutAuto
import Derived.Deep.Light
namespace Go.Proofs.Ytjdfpjeeipbghaa
set_option linter.unusedVariables false
set_option linter.unusedSimpArgs false
open Go.RowKit

set_option maxHeartbeats 16000000 in
set_option maxRecDepth 1000000 in
theorem lawFnTaps_c (ao : Option Addr) (n c : Nat) (bo : Option Addr) (m d : Nat) (w : World) (hn : n ≤ 9223372036854775807) (hm : m ≤ 9223372036854775807) (h1 : CodeOk w w.heap.size ao n) (h2 : CodeOk w w.heap.size bo m) :
    Calls Try.prog 3 #[.slice ao n c, .slice bo m d] w fun e w' => e = .returned (.bool true) ∧ Below w.heap.size w w' := by
  by_cases hl : 1048576 < wrap64 ((n : Int) + (m : Int))
  · clear h1 h2
    go_enter Try.func3, Try.ntmps3
    go_wp2
    go_ret
    exact ⟨rfl, Below.refl _ _⟩
  have HN : Hid (CodeOk w w.heap.size ao n) := h1
  have HM : Hid (CodeOk w w.heap.size bo m) := h2
  have HB : Hid (Below w.heap.size w w) := Below.refl _ _
  clear h1 h2
  go_enter Try.func3, Try.ntmps3
  go_wp2_with (go_at_call 14; refine (drawShortest_c ao n c _ hn (HN.out.later HB.out HB.out.size)).mono ?_; rintro e w1 ⟨⟨a0, n0, c0, ys, rfl, hn0, hl0, ho⟩, hb⟩; have RB : Hid (OwnB w1 w.heap.size (.slice a0 n0 c0) ys) := ho; have HL0 : Hid (ys.length = n0) := hl0; replace HB : Hid (Below w.heap.size w w1) := HB.out.trans (hb.mono HB.out.size); have hsw1 : w.heap.size ≤ w1.heap.size := HB.out.size; clear ho hb hl0)
  obtain ⟨zs, L, fb, hF⟩ : ∃ zs L fb, shortF ys = (zs, L, fb) := ⟨_, _, _, rfl⟩
  have HF : Hid (shortF ys = (zs, L, fb)) := hF
  obtain ⟨p, hp⟩ : ∃ p, zs.length = p := ⟨_, rfl⟩
  have HP : Hid (zs.length = p) := hp
  have hp4 : p ≤ 40 := by rw [← hp]; exact shortF_short hF
  have hfb : (fb != fb) = false := by simp
  have hLb : (L != L) = false := by simp
  clear hF hp
  go_upto_if 61 with (first | (go_at_call 15; refine (implShort_c a0 n0 c0 ys _ HL0.out (by omega) RB.out.rd'.2 zs L fb p HF.out HP.out).mono ?_; rintro e w2 ⟨a1, c1, rfl, ho, hb⟩; have RT : Hid (Own w2 w.heap.size (.slice a1 p c1) zs) := ho.mono HB.out.size; replace RB : Hid (OwnB w2 w.heap.size (.slice a0 n0 c0) ys) := RB.out.later hb; replace HB : Hid (Below w.heap.size w w2) := HB.out.trans (hb.mono HB.out.size); have hsw2 : w.heap.size ≤ w2.heap.size := HB.out.size; clear ho hb) | (go_at_call 16; refine (specShort_c a0 n0 c0 ys _ HL0.out (by omega) RB.out.rd'.2 zs L fb p HF.out HP.out).mono ?_; rintro e w3 ⟨a2, c2, rfl, ho, hb⟩; have RS : Hid (Own w3 w.heap.size (.slice a2 p c2) zs) := ho.mono HB.out.size; replace RB : Hid (OwnB w3 w.heap.size (.slice a0 n0 c0) ys) := RB.out.later hb; replace RT : Hid (Own w3 w.heap.size (.slice a1 p c1) zs) := RT.out.later hb; replace HB : Hid (Below w.heap.size w w3) := HB.out.trans (hb.mono HB.out.size); have hsw3 : w.heap.size ≤ w3.heap.size := HB.out.size; clear ho hb) | (go_at_call 17; refine (sameInts_c a1 a2 p p c1 c2 zs zs _ HP.out HP.out (by omega) (by omega) RT.out.rd'.2 RS.out.rd'.2).mono ?_; rw [decide_eq_true rfl]; rintro e w4 ⟨rfl, hb⟩; replace RB : Hid (OwnB w4 w.heap.size (.slice a0 n0 c0) ys) := RB.out.later hb; replace RT : Hid (Own w4 w.heap.size (.slice a1 p c1) zs) := RT.out.later hb; replace HB : Hid (Below w.heap.size w w4) := HB.out.trans (hb.mono HB.out.size); have hsw4 : w.heap.size ≤ w4.heap.size := HB.out.size; clear hb RS))
  go_cut [12, 13, 14, 15, 16, 17, 18, 19] (fun _ _ _ _ _ _ _ _ wx => Hid (Below w.heap.size w wx))
  case first => as_aux_lemma =>
    cases fb
    · go_wp2
      go_meet
      exact HB
    · obtain ⟨hmk, hL0, hL1, hy4⟩ := short_makes HF.out
      rw [HL0.out] at hL1 hy4
      have HMK : Hid (makesF zs L ys = (true, true)) := hmk
      obtain ⟨M, rfl⟩ : ∃ M : Nat, L = M := ⟨L.toNat, by omega⟩
      have hLn : ¬ (n0 : Int) < (M : Int) := by omega
      clear hmk hLb hfb hL0
      have tok1 : True := trivial
      go_wp2_with (first | (go_at_call 18; have _t := tok1; refine (implMakes_c a1 p c1 M a0 n0 c0 zs ys _ HP.out HL0.out (by omega) (by omega) RT.out.rd'.2 RB.out.rd'.2 true true HMK.out).mono ?_; rintro e w5 ⟨rfl, hb⟩; replace RB : Hid (OwnB w5 w.heap.size (.slice a0 n0 c0) ys) := RB.out.later hb; replace HB : Hid (Below w.heap.size w w5) := HB.out.trans (hb.mono HB.out.size); have hsw5 : w.heap.size ≤ w5.heap.size := HB.out.size; clear hb tok1 _t RT) | (go_at_call 19; refine (drawStreamOf_c bo m d _ hm (HM.out.later HB.out HB.out.size)).mono ?_; rintro e w6 ⟨⟨a3, n3, c3, xs, a4, q4, c4, fs, many, rfl, hn3, hq4, hl4, hm0, hm1, ho, hob⟩, hb⟩; have RO : Hid (Own w6 w.heap.size (.slice a3 n3 c3) xs) := ho.mono HB.out.size; replace RB : Hid (OwnB w6 w.heap.size (.slice a0 n0 c0) ys) := RB.out.later hb; replace HB : Hid (Below w.heap.size w w6) := HB.out.trans (hb.mono HB.out.size); have hsw6 : w.heap.size ≤ w6.heap.size := HB.out.size; clear ho hob hb hl4))
      clear hl hp4 hLn HMK HN HM HP
      go_loopg [17] M (fun g s17 wx => ∃ j : Nat, j + g = M ∧ s17 = .int .i64 j ∧ Hid (OwnB wx w.heap.size (.slice a0 n0 c0) ys) ∧ Hid (Own wx w.heap.size (.slice a3 n3 c3) xs) ∧ Hid (Below w.heap.size w wx))
      case atStart => exact ⟨0, by omega, rfl, RB, RO, HB⟩
      case round =>
        clear RB RO HB
        obtain ⟨j, hjg, rfl, RB, RO, HB⟩ := hrel
        cases gk with
        | zero =>
          have hj : ¬ (j : Int) < (M : Int) := by omega
          go_wp2
          go_meet
          exact HB
        | succ g =>
          have hj : (j : Int) < (M : Int) := by omega
          obtain ⟨g1, g2, hg⟩ : ∃ g1 g2, makesF xs (j : Int) ys = (g1, g2) := ⟨_, _, rfl⟩
          have HGM : Hid (makesF xs (j : Int) ys = (g1, g2)) := hg
          have hno := short_least HF.out (by omega) hj hg
          clear hg
          go_wp2_with fail
          refine (implMakes_c a3 n3 c3 j a0 n0 c0 xs ys _ RO.out.rd'.1 HL0.out (by omega) (by omega) RO.out.rd'.2 RB.out.rd'.2 g1 g2 HGM.out).mono ?_
          rintro e w7 ⟨rfl, hb⟩
          replace RB : Hid (OwnB w7 w.heap.size (.slice a0 n0 c0) ys) := RB.out.later hb
          replace RO : Hid (Own w7 w.heap.size (.slice a3 n3 c3) xs) := RO.out.later hb
          replace HB : Hid (Below w.heap.size w w7) := HB.out.trans (hb.mono HB.out.size)
          have hsw7 : w.heap.size ≤ w7.heap.size := HB.out.size
          clear hb
          cases g2
          · clear hno HGM
            go_wp2
            go_roundg g
            case measure => omega
            case rel => exact ⟨j + 1, by omega, by go_num, RB, RO, HB⟩
          · cases g1
            · clear hno HGM
              go_wp2
              go_roundg g
              case measure => omega
              case rel => exact ⟨j + 1, by omega, by go_num, RB, RO, HB⟩
            · exact absurd ⟨rfl, rfl⟩ hno
  case rest => as_aux_lemma =>
    clear HB RB RT HL0 HF HP hfb hLb
    have HB := hcut
    clear hcut
    have hswc : w.heap.size ≤ wc.heap.size := HB.out.size
    go_wp2_with (go_at_call 20; refine (drawMakes_c bo m d _ hm (HM.out.later HB.out HB.out.size)).mono ?_; rintro e w1 ⟨⟨a5, n5, c5, us, many, a6, q6, c6, vs, rfl, hn5, hq6, hl6, ho, hob⟩, hb⟩; have RU : Hid (Own w1 w.heap.size (.slice a5 n5 c5) us) := ho.mono HB.out.size; have RV : Hid (OwnB w1 w.heap.size (.slice a6 q6 c6) vs) := hob.mono HB.out.size; have HL6 : Hid (vs.length = q6) := hl6; replace HB : Hid (Below w.heap.size w w1) := HB.out.trans (hb.mono HB.out.size); have hsw1 : w.heap.size ≤ w1.heap.size := HB.out.size; clear ho hob hb hl6)
    obtain ⟨g1, g2, hg⟩ : ∃ g1 g2, makesF us many vs = (g1, g2) := ⟨_, _, rfl⟩
    have HGM : Hid (makesF us many vs = (g1, g2)) := hg
    have e1 : (g1 == g1) = true := by simp
    have e2 : (g2 == g2) = true := by simp
    obtain ⟨gt, hgt⟩ : ∃ gt, goodT 0 us = gt := ⟨_, rfl⟩
    have e3 : (gt == gt) = true := by simp
    have HGT : Hid (goodT 0 us = gt) := hgt
    clear hg hgt
    go_wp2_with (first | (go_at_call 18; refine (implMakes_c a5 n5 c5 many a6 q6 c6 us vs _ RU.out.rd'.1 HL6.out (by omega) (by omega) RU.out.rd'.2 RV.out.rd'.2 g1 g2 HGM.out).mono ?_; rintro e w2 ⟨rfl, hb⟩; replace RU : Hid (Own w2 w.heap.size (.slice a5 n5 c5) us) := RU.out.later hb; replace RV : Hid (OwnB w2 w.heap.size (.slice a6 q6 c6) vs) := RV.out.later hb; replace HB : Hid (Below w.heap.size w w2) := HB.out.trans (hb.mono HB.out.size); have hsw2 : w.heap.size ≤ w2.heap.size := HB.out.size; clear hb) | (go_at_call 21; refine (specMakes_c a5 n5 c5 many a6 q6 c6 us vs _ RU.out.rd'.1 HL6.out (by omega) (by omega) RU.out.rd'.2 RV.out.rd'.2 g1 g2 HGM.out).mono ?_; rintro e w3 ⟨rfl, hb⟩; replace RU : Hid (Own w3 w.heap.size (.slice a5 n5 c5) us) := RU.out.later hb; replace RV : Hid (OwnB w3 w.heap.size (.slice a6 q6 c6) vs) := RV.out.later hb; replace HB : Hid (Below w.heap.size w w3) := HB.out.trans (hb.mono HB.out.size); have hsw3 : w.heap.size ≤ w3.heap.size := HB.out.size; clear hb) | (go_at_call 22; refine (implGoodT_c a5 n5 c5 us _ RU.out.rd'.1 (by omega) RU.out.rd'.2).mono ?_; rw [HGT.out]; rintro e w' ⟨rfl, hw⟩; subst w') | (go_at_call 23; refine (specGoodT_c a5 n5 c5 us _ RU.out.rd'.1 (by omega) RU.out.rd'.2).mono ?_; rw [HGT.out]; rintro e w' ⟨rfl, hw⟩; subst w'))
    go_ret
    exact ⟨by simp, HB.out⟩

end Go.Proofs.Ytjdfpjeeipbghaa
