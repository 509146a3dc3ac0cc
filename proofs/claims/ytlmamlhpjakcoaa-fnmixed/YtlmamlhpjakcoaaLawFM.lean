/- The law FnMixed, walked: true at every two texts. -/
import Derived.Test.YtlmamlhpjakcoaaD4T
import Derived.Test.YtlmamlhpjakcoaaFM4P
import Derived.Test.YtlmamlhpjakcoaaMB4
import Derived.Test.YtlmamlhpjakcoaaUB4
import Derived.Test.YtlmamlhpjakcoaaTU4
import Derived.Test.YtlmamlhpjakcoaaTI4
import Derived.Test.YtlmamlhpjakcoaaTJ4
import Derived.Deep.DeepCutAuto
import Derived.Deep.Light
namespace Go.Proofs.Ytlmamlhpjakcoaa
set_option linter.unusedVariables false
set_option linter.unusedSimpArgs false
open Go.RowKit

set_option maxHeartbeats 16000000 in
set_option maxRecDepth 1000000 in
theorem lawFnMixed_c (ao : Option Addr) (n c : Nat) (bo : Option Addr) (m d : Nat) (w : World) (hn : n ≤ 9223372036854775807) (hm : m ≤ 9223372036854775807) (h1 : CodeOk w w.heap.size ao n) (h2 : CodeOk w w.heap.size bo m) :
    Calls Try.prog 3 #[.slice ao n c, .slice bo m d] w fun e w' => e = .returned (.bool true) ∧ Below w.heap.size w w' := by
  by_cases hl : 1048576 < wrap64 ((n : Int) + (m : Int))
  · clear h1 h2
    go_enter Try.func3, Try.ntmps3
    go_wp2
    go_ret
    exact ⟨rfl, Below.refl _ _⟩
  have HN : Hid (CodeOk w w.heap.size ao n) := h1
  have HM : Hid (CodeOk w w.heap.size bo m) := h2
  have HB : Hid (Below w.heap.size w w) := Below.refl _ _
  clear h1 h2
  go_enter Try.func3, Try.ntmps3
  go_wp2_with (go_at_call 14; refine (drawMixBlock_c ao n c _ hn (HN.out.later HB.out HB.out.size)).mono ?_; rintro e w1 ⟨⟨a1, q, c1, zs, b, rfl, hq9, hzl, ho⟩, hb⟩; have RK : Hid (Own w1 w.heap.size (.slice a1 q c1) zs) := ho.mono HB.out.size; have HZ : Hid (zs.length = q) := hzl; replace HB : Hid (Below w.heap.size w w1) := HB.out.trans (hb.mono HB.out.size); have hsw1 : w.heap.size ≤ w1.heap.size := HB.out.size; clear ho hb hzl)
  obtain ⟨r, fb, hF⟩ : ∃ r fb, mixF zs b = (r, fb) := ⟨_, _, rfl⟩
  have HF : Hid (mixF zs b = (r, fb)) := hF
  obtain ⟨u, gb, hG⟩ : ∃ u gb, unmixF zs b = (u, gb) := ⟨_, _, rfl⟩
  have HG : Hid (unmixF zs b = (u, gb)) := hG
  have e1 : (fb != fb) = false := by simp
  have e2 : (gb != gb) = false := by simp
  have e3 : (r != r) = false := by simp
  have e4 : (u != u) = false := by simp
  clear hF hG
  go_upto_if 91 with (first | (go_at_call 15; refine (implMix_c a1 q c1 b zs _ HZ.out (by omega) RK.out.rd'.2 r fb HF.out).mono ?_; rintro e w2 ⟨rfl, hb⟩; replace RK : Hid (Own w2 w.heap.size (.slice a1 q c1) zs) := RK.out.later hb; replace HB : Hid (Below w.heap.size w w2) := HB.out.trans (hb.mono HB.out.size); have hsw2 : w.heap.size ≤ w2.heap.size := HB.out.size; clear hb) | (go_at_call 16; refine (specMix_c a1 q c1 b zs _ HZ.out (by omega) RK.out.rd'.2 r fb HF.out).mono ?_; rintro e w3 ⟨rfl, hb⟩; replace RK : Hid (Own w3 w.heap.size (.slice a1 q c1) zs) := RK.out.later hb; replace HB : Hid (Below w.heap.size w w3) := HB.out.trans (hb.mono HB.out.size); have hsw3 : w.heap.size ≤ w3.heap.size := HB.out.size; clear hb) | (go_at_call 17; refine (implUnmix_c a1 q c1 b zs _ HZ.out (by omega) RK.out.rd'.2 u gb HG.out).mono ?_; rintro e w4 ⟨rfl, hb⟩; replace RK : Hid (Own w4 w.heap.size (.slice a1 q c1) zs) := RK.out.later hb; replace HB : Hid (Below w.heap.size w w4) := HB.out.trans (hb.mono HB.out.size); have hsw4 : w.heap.size ≤ w4.heap.size := HB.out.size; clear hb) | (go_at_call 18; refine (specUnmix_c a1 q c1 b zs _ HZ.out (by omega) RK.out.rd'.2 u gb HG.out).mono ?_; rintro e w5 ⟨rfl, hb⟩; replace RK : Hid (Own w5 w.heap.size (.slice a1 q c1) zs) := RK.out.later hb; replace HB : Hid (Below w.heap.size w w5) := HB.out.trans (hb.mono HB.out.size); have hsw5 : w.heap.size ≤ w5.heap.size := HB.out.size; clear hb))
  go_cut [15, 16, 17, 18] (fun _ _ _ _ wx => Hid (Below w.heap.size w wx))
  case first => as_aux_lemma =>
    rcases mix_parts HF.out with ⟨rfl, hk, Bn, rfl, hB, hr⟩ | ⟨rfl, _⟩
    · have hu : ((unmixN (nums zs) Bn : Nat) : Int) = u ∧ true = gb := by have h := HG.out; rw [unmix_of hk hB] at h; simpa using h
      obtain ⟨hu, rfl⟩ := hu
      have hr1 := mixN_lt (ks := nums zs) hB
      have hu1 := unmixN_lt (ks := nums zs) hB
      have HF2 : Hid (unmixF zs ((mixN (nums zs) Bn : Nat) : Int) = ((Bn : Int), true)) := by show _ = _; rw [unmix_of hk hr1, unmix_mix hB]
      have HG2 : Hid (mixF zs ((unmixN (nums zs) Bn : Nat) : Int) = ((Bn : Int), true)) := by show _ = _; rw [mix_of hk hu1, mix_unmix hB]
      rw [← hr] at HF2
      rw [hu] at HG2
      have e5 : ((Bn : Int) != (Bn : Int)) = false := by simp
      clear hr hu hr1 hu1 hk hB
      go_wp2_with (first | (go_at_call 17; refine (implUnmix_c a1 q c1 r zs _ HZ.out (by omega) RK.out.rd'.2 Bn true HF2.out).mono ?_; rintro e w6 ⟨rfl, hb⟩; replace RK : Hid (Own w6 w.heap.size (.slice a1 q c1) zs) := RK.out.later hb; replace HB : Hid (Below w.heap.size w w6) := HB.out.trans (hb.mono HB.out.size); have hsw6 : w.heap.size ≤ w6.heap.size := HB.out.size; clear hb) | (go_at_call 15; refine (implMix_c a1 q c1 u zs _ HZ.out (by omega) RK.out.rd'.2 Bn true HG2.out).mono ?_; rintro e w7 ⟨rfl, hb⟩; replace RK : Hid (Own w7 w.heap.size (.slice a1 q c1) zs) := RK.out.later hb; replace HB : Hid (Below w.heap.size w w7) := HB.out.trans (hb.mono HB.out.size); have hsw7 : w.heap.size ≤ w7.heap.size := HB.out.size; clear hb))
      go_meet
      exact HB
    · go_wp2
      go_meet
      exact HB
  case rest => as_aux_lemma =>
    clear HB RK HF HG HZ e1 e2 e3 e4 HN
    have HB := hcut
    clear hcut hl
    have hswc : w.heap.size ≤ wc.heap.size := HB.out.size
    go_wp2_with (go_at_call 19; refine (drawMixText_c bo m d _ hm (HM.out.later HB.out HB.out.size)).mono ?_; rintro e w1 ⟨⟨a2, q2, c2, ys, st, s, rfl, hq2, hyl, ho, hss⟩, hb⟩; have RT : Hid (Own w1 w.heap.size (.slice a2 q2 c2) ys) := ho.mono HB.out.size; have HY : Hid (ys.length = q2) := hyl; replace HB : Hid (Below w.heap.size w w1) := HB.out.trans (hb.mono HB.out.size); have hsw1 : w.heap.size ≤ w1.heap.size := HB.out.size; clear ho hb hyl)
    obtain ⟨t, tb, hF⟩ : ∃ t tb, mixTF ys st s = (t, tb) := ⟨_, _, rfl⟩
    have HF : Hid (mixTF ys st s = (t, tb)) := hF
    obtain ⟨v, vb, hG⟩ : ∃ v vb, unmixTF ys st s = (v, vb) := ⟨_, _, rfl⟩
    have HG : Hid (unmixTF ys st s = (v, vb)) := hG
    have e1 : (tb != tb) = false := by simp
    have e2 : (vb != vb) = false := by simp
    have e3 : (t.toList == t.toList) = true := by simp
    have e4 : (v.toList == v.toList) = true := by simp
    clear hF hG
    go_upto_if 172 with (first | (go_at_call 20; refine (implMixT_c a2 q2 c2 st s ys _ HY.out (by omega) (by omega) RT.out.rd'.2 t tb HF.out).mono ?_; rintro e w2 ⟨rfl, hb⟩; replace RT : Hid (Own w2 w.heap.size (.slice a2 q2 c2) ys) := RT.out.later hb; replace HB : Hid (Below w.heap.size w w2) := HB.out.trans (hb.mono HB.out.size); have hsw2 : w.heap.size ≤ w2.heap.size := HB.out.size; clear hb) | (go_at_call 21; refine (specMixT_c a2 q2 c2 st s ys _ HY.out (by omega) (by omega) RT.out.rd'.2 t tb HF.out).mono ?_; rintro e w3 ⟨rfl, hb⟩; replace RT : Hid (Own w3 w.heap.size (.slice a2 q2 c2) ys) := RT.out.later hb; replace HB : Hid (Below w.heap.size w w3) := HB.out.trans (hb.mono HB.out.size); have hsw3 : w.heap.size ≤ w3.heap.size := HB.out.size; clear hb) | (go_at_call 22; refine (implUnmixT_c a2 q2 c2 st s ys _ HY.out (by omega) (by omega) RT.out.rd'.2 v vb HG.out).mono ?_; rintro e w4 ⟨rfl, hb⟩; replace RT : Hid (Own w4 w.heap.size (.slice a2 q2 c2) ys) := RT.out.later hb; replace HB : Hid (Below w.heap.size w w4) := HB.out.trans (hb.mono HB.out.size); have hsw4 : w.heap.size ≤ w4.heap.size := HB.out.size; clear hb) | (go_at_call 23; refine (specUnmixT_c a2 q2 c2 st s ys _ HY.out (by omega) (by omega) RT.out.rd'.2 v vb HG.out).mono ?_; rintro e w5 ⟨rfl, hb⟩; replace RT : Hid (Own w5 w.heap.size (.slice a2 q2 c2) ys) := RT.out.later hb; replace HB : Hid (Below w.heap.size w w5) := HB.out.trans (hb.mono HB.out.size); have hsw5 : w.heap.size ≤ w5.heap.size := HB.out.size; clear hb))
    go_cut [30, 31] (fun _ _ wx => Hid (Below w.heap.size w wx))
    case first => as_aux_lemma =>
      cases tb
      · go_wp2
        go_meet
        exact HB
      · obtain ⟨hbk, hsz⟩ := text_back HF.out
        have HBK : Hid (unmixTF ys st t = (s, true)) := hbk
        have e5 : (s.toList == s.toList) = true := by simp
        have e6 : ((t.size : Int) != (s.size : Int)) = false := by rw [hsz]; simp
        have hts : t.size ≤ 100 := by omega
        clear hbk hsz
        go_wp2_with ((go_at_call 22; refine (implUnmixT_c a2 q2 c2 st t ys _ HY.out (by omega) (by omega) RT.out.rd'.2 s true HBK.out).mono ?_; rintro e w6 ⟨rfl, hb⟩; replace RT : Hid (Own w6 w.heap.size (.slice a2 q2 c2) ys) := RT.out.later hb; replace HB : Hid (Below w.heap.size w w6) := HB.out.trans (hb.mono HB.out.size); have hsw6 : w.heap.size ≤ w6.heap.size := HB.out.size; clear hb))
        go_meet
        exact HB
    case rest => as_aux_lemma =>
      clear HB RT HF HG HY e1 e2 e3 e4
      have HB := hcut
      clear hcut
      have hswd := HB.out.size
      go_wp2_with (go_at_call 24; refine (drawRound_c bo m d _ hm (HM.out.later HB.out HB.out.size)).mono ?_; rintro e w1 ⟨⟨x, y, rfl⟩, hb⟩; replace HB : Hid (Below w.heap.size w w1) := HB.out.trans (hb.mono HB.out.size); have hsw1 : w.heap.size ≤ w1.heap.size := HB.out.size; clear hb)
      obtain ⟨rr, rb, hF⟩ : ∃ rr rb, roundF x y = (rr, rb) := ⟨_, _, rfl⟩
      have HF : Hid (roundF x y = (rr, rb)) := hF
      have e1 : (rb == rb) = true := by simp
      have e2 : (rr == rr) = true := by simp
      clear hF
      go_wp2_with (first | (go_at_call 25; refine (implRound_c x y _ rr rb HF.out).mono ?_; rintro e w' ⟨rfl, hw⟩; subst w') | (go_at_call 26; refine (specRound_c x y _ rr rb HF.out).mono ?_; rintro e w' ⟨rfl, hw⟩; subst w'))
      go_ret
      exact ⟨by simp, HB.out⟩

end Go.Proofs.Ytlmamlhpjakcoaa
