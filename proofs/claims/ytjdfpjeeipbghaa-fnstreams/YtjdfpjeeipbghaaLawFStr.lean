/- The law FnStreams, walked: true at every two texts. -/
import Derived.Test.YtjdfpjeeipbghaaSM3
import Derived.Test.YtjdfpjeeipbghaaU3
import Derived.Deep.DeepCutAuto
import Derived.Deep.Light
namespace Go.Proofs.Ytjdfpjeeipbghaa
set_option linter.unusedVariables false
set_option linter.unusedSimpArgs false
open Go.RowKit

set_option maxHeartbeats 16000000 in
set_option maxRecDepth 1000000 in
theorem lawFnStreams_c (ao : Option Addr) (n c : Nat) (bo : Option Addr) (m d : Nat) (w : World) (hn : n ≤ 9223372036854775807) (hm : m ≤ 9223372036854775807) (h1 : CodeOk w w.heap.size ao n) (h2 : CodeOk w w.heap.size bo m) :
    Calls Try.prog 4 #[.slice ao n c, .slice bo m d] w fun e w' => e = .returned (.bool true) ∧ Below w.heap.size w w' := by
  by_cases hl : 1048576 < wrap64 ((n : Int) + (m : Int))
  · clear h1 h2
    go_enter Try.func4, Try.ntmps4
    go_wp2
    go_ret
    exact ⟨rfl, Below.refl _ _⟩
  have HN : Hid (CodeOk w w.heap.size ao n) := h1
  have HM : Hid (CodeOk w w.heap.size bo m) := h2
  have HB : Hid (Below w.heap.size w w) := Below.refl _ _
  clear h1 h2
  go_enter Try.func4, Try.ntmps4
  go_wp2_with (go_at_call 19; refine (drawStreamOf_c ao n c _ hn (HN.out.later HB.out HB.out.size)).mono ?_; rintro e w1 ⟨⟨a0, n0, c0, xs, a1, q1, c1, fs, many, rfl, hn0, hq1, hl1, hm0, hm1, ho, hob⟩, hb⟩; have RX : Hid (Own w1 w.heap.size (.slice a0 n0 c0) xs) := ho; have RF : Hid (OwnB w1 w.heap.size (.slice a1 q1 c1) fs) := hob; have HL1 : Hid (fs.length = q1) := hl1; replace HB : Hid (Below w.heap.size w w1) := HB.out.trans (hb.mono HB.out.size); have hsw1 : w.heap.size ≤ w1.heap.size := HB.out.size; clear ho hob hb hl1)
  obtain ⟨zs, fb, hF⟩ : ∃ zs fb, streamF xs fs many = (zs, fb) := ⟨_, _, rfl⟩
  have HF : Hid (streamF xs fs many = (zs, fb)) := hF
  obtain ⟨p, hp⟩ : ∃ p, zs.length = p := ⟨_, rfl⟩
  have HP : Hid (zs.length = p) := hp
  have hp4 : p ≤ 40 := by rw [← hp]; exact streamF_short hF
  have hfb : (fb != fb) = false := by simp
  clear hF hp
  go_upto_region 8 with (first | (go_at_call 24; refine (implStream_c a0 n0 c0 a1 q1 c1 many xs fs _ RX.out.rd'.1 HL1.out (by omega) (by omega) RX.out.rd'.2 RF.out.rd'.2 zs fb p HF.out HP.out).mono ?_; rintro e w2 ⟨a2, c2, rfl, ho, hb⟩; have RG : Hid (OwnB w2 w.heap.size (.slice a2 p c2) zs) := ho.mono HB.out.size; replace RX : Hid (Own w2 w.heap.size (.slice a0 n0 c0) xs) := RX.out.later hb; replace RF : Hid (OwnB w2 w.heap.size (.slice a1 q1 c1) fs) := RF.out.later hb; replace HB : Hid (Below w.heap.size w w2) := HB.out.trans (hb.mono HB.out.size); have hsw2 : w.heap.size ≤ w2.heap.size := HB.out.size; clear ho hb) | (go_at_call 25; refine (specStream_c a0 n0 c0 a1 q1 c1 many xs fs _ RX.out.rd'.1 HL1.out (by omega) (by omega) RX.out.rd'.2 RF.out.rd'.2 zs fb p HF.out HP.out).mono ?_; rintro e w3 ⟨a3, c3, rfl, ho, hb⟩; have RZ : Hid (OwnB w3 w.heap.size (.slice a3 p c3) zs) := ho.mono HB.out.size; replace RX : Hid (Own w3 w.heap.size (.slice a0 n0 c0) xs) := RX.out.later hb; replace RF : Hid (OwnB w3 w.heap.size (.slice a1 q1 c1) fs) := RF.out.later hb; replace RG : Hid (OwnB w3 w.heap.size (.slice a2 p c2) zs) := RG.out.later hb; replace HB : Hid (Below w.heap.size w w3) := HB.out.trans (hb.mono HB.out.size); have hsw3 : w.heap.size ≤ w3.heap.size := HB.out.size; clear ho hb) | (go_at_call 26; refine (sameBools_c a2 a3 p p c2 c3 zs zs _ HP.out HP.out (by omega) (by omega) RG.out.rd'.2 RZ.out.rd'.2).mono ?_; rw [decide_eq_true rfl]; rintro e w4 ⟨rfl, hb⟩; replace RX : Hid (Own w4 w.heap.size (.slice a0 n0 c0) xs) := RX.out.later hb; replace RF : Hid (OwnB w4 w.heap.size (.slice a1 q1 c1) fs) := RF.out.later hb; replace RG : Hid (OwnB w4 w.heap.size (.slice a2 p c2) zs) := RG.out.later hb; replace HB : Hid (Below w.heap.size w w4) := HB.out.trans (hb.mono HB.out.size); have hsw4 : w.heap.size ≤ w4.heap.size := HB.out.size; clear hb))
  go_cut [89] (fun s89 wx => ∃ b : Bool, s89 = .bool b ∧ Hid (b = true → fb = true ∧ (q1 : Int) ≤ many) ∧ wx = w4)
  case first => as_aux_lemma =>
    cases fb
    · go_wp2
      go_meet
      exact ⟨false, rfl, fun h => (by cases h), rfl⟩
    · by_cases hge : (q1 : Int) ≤ many
      · go_wp2
        go_meet
        exact ⟨true, rfl, fun _ => ⟨rfl, hge⟩, rfl⟩
      · go_wp2
        go_meet
        exact ⟨false, rfl, fun h => (by cases h), rfl⟩
  case rest => as_aux_lemma =>
  obtain ⟨b, rfl, HBC, hw⟩ := hcut
  subst wc
  go_upto_if 89 with fail
  go_cut [12, 13] (fun s12 s13 wx => Hid (Below w.heap.size w wx))
  case first => as_aux_lemma =>
    cases b
    · go_wp2
      go_meet
      exact HB
    · obtain ⟨hfb1, hge⟩ := HBC.out rfl
      subst hfb1
      have hF := HF.out
      unfold streamF at hF
      split at hF
      · rename_i hc
        simp only [Prod.mk.injEq, and_true] at hF
        obtain ⟨hk, hmy0, hmy1⟩ := hc
        clear HBC
        obtain ⟨K, rfl⟩ : ∃ K : Nat, many = K := ⟨many.toNat, by omega⟩
        have eK : ((K : Int)).toNat = K := by omega
        rw [eK] at hF
        have hmk : makesF xs (fs.length : Int) zs = (true, true) := by rw [← hF]; exact stream_makes hk (by rw [HL1.out]; omega) (by omega)
        rw [HL1.out] at hmk
        have HMK : Hid (makesF xs (q1 : Int) zs = (true, true)) := hmk
        have hpK : p = K := by rw [← HP.out, ← hF, streamL_length]
        subst hpK
        clear hF hk hmk eK
        go_wp2_with (go_at_call 18; refine (implMakes_c a0 n0 c0 q1 a2 p c2 xs zs _ RX.out.rd'.1 HP.out (by omega) (by omega) RX.out.rd'.2 RG.out.rd'.2 true true HMK.out).mono ?_; rintro e w5 ⟨rfl, hb⟩; replace HB : Hid (Below w.heap.size w w5) := HB.out.trans (hb.mono HB.out.size); have hsw5 : w.heap.size ≤ w5.heap.size := HB.out.size; clear hb)
        go_meet
        exact HB
      · simp at hF
  case rest => as_aux_lemma =>
    clear HB RX RF RG HL1 HF HP hfb HBC
    have HB := hcut
    clear hcut
    have hswc : w.heap.size ≤ wc.heap.size := HB.out.size
    go_wp2_with (go_at_call 27; refine (drawPeriodOf_c bo m d _ hm (HM.out.later HB.out HB.out.size)).mono ?_; rintro e w1 ⟨⟨a0, n0, c0, xs, a1, q1, c1, fs, rfl, hn0, hq1, hl1, ho, hob⟩, hb⟩; have RX : Hid (Own w1 w.heap.size (.slice a0 n0 c0) xs) := ho.mono HB.out.size; have RF : Hid (OwnB w1 w.heap.size (.slice a1 q1 c1) fs) := hob.mono HB.out.size; have HL1 : Hid (fs.length = q1) := hl1; replace HB : Hid (Below w.heap.size w w1) := HB.out.trans (hb.mono HB.out.size); have hsw1 : w.heap.size ≤ w1.heap.size := HB.out.size; clear ho hob hb hl1)
    obtain ⟨R, fb, hF⟩ : ∃ R fb, perF xs fs = (R, fb) := ⟨_, _, rfl⟩
    have HF : Hid (perF xs fs = (R, fb)) := hF
    have hfb : (fb != fb) = false := by simp
    have hRb : (R != R) = false := by simp
    clear hF
    have hR0 : 0 ≤ R ∧ R ≤ 5000 := by
      cases fb
      · have h := HF.out
        unfold perF at h
        split at h
        · have := perFrom_zero h
          omega
        · simp only [Prod.mk.injEq, and_true] at h
          omega
      · obtain ⟨_, q, h1, h2, h3, _⟩ := period_back HF.out
        omega
    obtain ⟨hR1, hR2⟩ := hR0
    go_upto_region 17 with (first | (go_at_call 28; refine (implPeriod_c a0 n0 c0 a1 q1 c1 xs fs _ RX.out.rd'.1 HL1.out (by omega) (by omega) RX.out.rd'.2 RF.out.rd'.2 R fb HF.out).mono ?_; rintro e w2 ⟨rfl, hb⟩; replace RX : Hid (Own w2 w.heap.size (.slice a0 n0 c0) xs) := RX.out.later hb; replace RF : Hid (OwnB w2 w.heap.size (.slice a1 q1 c1) fs) := RF.out.later hb; replace HB : Hid (Below w.heap.size w w2) := HB.out.trans (hb.mono HB.out.size); have hsw2 : w.heap.size ≤ w2.heap.size := HB.out.size; clear hb) | (go_at_call 29; refine (specPeriod_c a0 n0 c0 a1 q1 c1 xs fs _ RX.out.rd'.1 HL1.out (by omega) (by omega) RX.out.rd'.2 RF.out.rd'.2 R fb HF.out).mono ?_; rintro e w3 ⟨rfl, hb⟩; replace RX : Hid (Own w3 w.heap.size (.slice a0 n0 c0) xs) := RX.out.later hb; replace RF : Hid (OwnB w3 w.heap.size (.slice a1 q1 c1) fs) := RF.out.later hb; replace HB : Hid (Below w.heap.size w w3) := HB.out.trans (hb.mono HB.out.size); have hsw3 : w.heap.size ≤ w3.heap.size := HB.out.size; clear hb))
    go_cut [142] (fun s142 wx => ∃ b : Bool, s142 = .bool b ∧ Hid (b = true → fb = true ∧ R + (q1 : Int) ≤ 40) ∧ wx = w3)
    case first => as_aux_lemma =>
      cases fb
      · go_wp2
        go_meet
        exact ⟨false, rfl, fun h => (by cases h), rfl⟩
      · by_cases hge : R + (q1 : Int) ≤ 40
        · go_wp2
          go_meet
          exact ⟨true, rfl, fun _ => ⟨rfl, hge⟩, rfl⟩
        · go_wp2
          go_meet
          exact ⟨false, rfl, fun h => (by cases h), rfl⟩
    case rest => as_aux_lemma =>
    obtain ⟨b, rfl, HBC, hw⟩ := hcut
    subst wc
    go_upto_if 142 with fail
    go_cut [20, 21] (fun s20 s21 wx => Hid (Below w.heap.size w wx))
    case first => as_aux_lemma =>
      cases b
      · go_wp2
        go_meet
        exact HB
      · obtain ⟨hfb1, hge⟩ := HBC.out rfl
        subst hfb1
        obtain ⟨hk, P, rfl, hP1, hP2, hdr⟩ := period_back HF.out
        rw [HL1.out] at hdr
        clear HBC
        have hq1p0 : 0 < q1 := by
          rcases Nat.eq_zero_or_pos q1 with h | h
          · have h5 := HF.out
            unfold perF at h5
            split at h5
            · rename_i hc
              have := List.length_pos_of_mem hc.2
              rw [HL1.out] at this
              exact this
            · simp at h5
          · exact h
        have hsf : streamF xs fs ((P : Int) + (q1 : Int)) = (streamL xs fs (P + q1), true) := by
          unfold streamF
          rw [if_pos ⟨hk, by omega, by omega⟩, show ((P : Int) + (q1 : Int)).toNat = P + q1 by omega]
        have HSF : Hid (streamF xs fs ((P : Int) + (q1 : Int)) = (streamL xs fs (P + q1), true)) := hsf
        have HSL : Hid ((streamL xs fs (P + q1)).length = P + q1) := streamL_length _ _ _
        have HDR : Hid ((streamL xs fs (P + q1)).drop P = fs) := hdr
        generalize streamL xs fs (P + q1) = zs at HSF HSL HDR
        obtain ⟨p, hp⟩ : ∃ p, p = P + q1 := ⟨_, rfl⟩
        rw [← hp] at HSL
        have hp1 : P < p := by have := hq1p0; omega
        have hp2 : p ≤ 40 := by omega
        have hp3 : p - P ≤ 40 := by omega
        clear hsf hdr hk hp
        go_wp2_with (first | (go_at_call 24; refine (implStream_c a0 n0 c0 a1 q1 c1 ((P : Int) + (q1 : Int)) xs fs _ RX.out.rd'.1 HL1.out (by omega) (by omega) RX.out.rd'.2 RF.out.rd'.2 zs true p HSF.out HSL.out).mono ?_; rintro e w4 ⟨a2, c2, rfl, ho, hb⟩; obtain ⟨gG, rfl, hpc, hcm⟩ := own_someB ho (by omega); unfold maxLen at hcm; have RG : Hid (OwnB w4 w.heap.size (.slice (some ⟨gG, 0, none⟩) p c2) zs) := ho.mono HB.out.size; have hq0 : (P : Int) ≤ (p : Int) := (by omega); have hq2 : ¬ c2 = P := (by omega); replace RX : Hid (Own w4 w.heap.size (.slice a0 n0 c0) xs) := RX.out.later hb; replace RF : Hid (OwnB w4 w.heap.size (.slice a1 q1 c1) fs) := RF.out.later hb; replace HB : Hid (Below w.heap.size w w4) := HB.out.trans (hb.mono HB.out.size); have hsw4 : w.heap.size ≤ w4.heap.size := HB.out.size; clear ho hb) | (go_at_call 26; refine (sameBools_c (some ⟨gG, P, none⟩) a1 (p - P) q1 (c2 - P) c1 (zs.drop P) fs _ (by rw [List.length_drop, HSL.out]) HL1.out (by omega) (by omega) (own_dropB RG.out) RF.out.rd'.2).mono ?_; rw [decide_eq_true HDR.out]; rintro e w5 ⟨rfl, hb⟩; replace HB : Hid (Below w.heap.size w w5) := HB.out.trans (hb.mono HB.out.size); have hsw5 : w.heap.size ≤ w5.heap.size := HB.out.size; clear hb))
        go_meet
        exact HB
    case rest => as_aux_lemma =>
      clear HB RX RF HL1 HF hfb hRb HBC
      have HB := hcut
      clear hcut
      go_wp2_with (go_at_call 30; refine (drawBitsOf_c bo m d _ hm (HM.out.later HB.out HB.out.size)).mono ?_; rintro e w1 ⟨⟨s, rfl, hs5⟩, hb⟩; have HS5 : Hid (fiveS s) := hs5; replace HB : Hid (Below w.heap.size w w1) := HB.out.trans (hb.mono HB.out.size); have hsw1 : w.heap.size ≤ w1.heap.size := HB.out.size; clear hb hs5)
      obtain ⟨bz, fb, hF⟩ : ∃ bz fb, bitsF s = (bz, fb) := ⟨_, _, rfl⟩
      have HF : Hid (bitsF s = (bz, fb)) := hF
      obtain ⟨p, hp⟩ : ∃ p, bz.length = p := ⟨_, rfl⟩
      have HP : Hid (bz.length = p) := hp
      have hp4 : p ≤ 40 := by rw [← hp]; exact bitsF_short hF
      have hfb : (fb != fb) = false := by simp
      have hsz : s.size ≤ 17592186044416 := by rcases HS5.out with h | h | h | h | h <;> rw [h] <;> decide
      clear hF hp
      go_wp2_with (first | (go_at_call 31; refine (implBits_c s _ hsz bz fb p HF.out HP.out).mono ?_; rintro e w2 ⟨a2, c2, rfl, ho, hb⟩; have RG : Hid (OwnB w2 w.heap.size (.slice a2 p c2) bz) := ho.mono HB.out.size; replace HB : Hid (Below w.heap.size w w2) := HB.out.trans (hb.mono HB.out.size); have hsw2 : w.heap.size ≤ w2.heap.size := HB.out.size; clear ho hb) | (go_at_call 32; refine (specBits_c s _ hsz bz fb p HF.out HP.out).mono ?_; rintro e w3 ⟨a3, c3, rfl, ho, hb⟩; have RZ : Hid (OwnB w3 w.heap.size (.slice a3 p c3) bz) := ho.mono HB.out.size; replace RG : Hid (OwnB w3 w.heap.size (.slice a2 p c2) bz) := RG.out.later hb; replace HB : Hid (Below w.heap.size w w3) := HB.out.trans (hb.mono HB.out.size); have hsw3 : w.heap.size ≤ w3.heap.size := HB.out.size; clear ho hb) | (go_at_call 33; refine (drawTextOf_c bo m d _ hm (HM.out.later HB.out HB.out.size)).mono ?_; rintro e w4 ⟨⟨a4, q4, c4, tz, rfl, hq4, hl4, ho⟩, hb⟩; have RT : Hid (OwnB w4 w.heap.size (.slice a4 q4 c4) tz) := ho.mono HB.out.size; have HL4 : Hid (tz.length = q4) := hl4; replace RG : Hid (OwnB w4 w.heap.size (.slice a2 p c2) bz) := RG.out.later hb; replace RZ : Hid (OwnB w4 w.heap.size (.slice a3 p c3) bz) := RZ.out.later hb; replace HB : Hid (Below w.heap.size w w4) := HB.out.trans (hb.mono HB.out.size); have hsw4 : w.heap.size ≤ w4.heap.size := HB.out.size; clear ho hb hl4))
      obtain ⟨st, f2, hF2⟩ : ∃ st f2, textF tz = (st, f2) := ⟨_, _, rfl⟩
      have HF2 : Hid (textF tz = (st, f2)) := hF2
      have hf2 : (f2 != f2) = false := by simp
      clear hF2
      go_upto_if 206 with (first | (go_at_call 34; refine (implText_c a4 q4 c4 tz _ HL4.out (by omega) RT.out.rd'.2 st f2 HF2.out).mono ?_; rintro e w5 ⟨rfl, hb⟩; replace RG : Hid (OwnB w5 w.heap.size (.slice a2 p c2) bz) := RG.out.later hb; replace RZ : Hid (OwnB w5 w.heap.size (.slice a3 p c3) bz) := RZ.out.later hb; replace RT : Hid (OwnB w5 w.heap.size (.slice a4 q4 c4) tz) := RT.out.later hb; replace HB : Hid (Below w.heap.size w w5) := HB.out.trans (hb.mono HB.out.size); have hsw5 : w.heap.size ≤ w5.heap.size := HB.out.size; clear hb) | (go_at_call 35; refine (specText_c a4 q4 c4 tz _ HL4.out (by omega) RT.out.rd'.2 st f2 HF2.out).mono ?_; rintro e w6 ⟨rfl, hb⟩; replace RG : Hid (OwnB w6 w.heap.size (.slice a2 p c2) bz) := RG.out.later hb; replace RZ : Hid (OwnB w6 w.heap.size (.slice a3 p c3) bz) := RZ.out.later hb; replace RT : Hid (OwnB w6 w.heap.size (.slice a4 q4 c4) tz) := RT.out.later hb; replace HB : Hid (Below w.heap.size w w6) := HB.out.trans (hb.mono HB.out.size); have hsw6 : w.heap.size ≤ w6.heap.size := HB.out.size; clear hb) | (go_at_call 26; refine (sameBools_c a2 a3 p p c2 c3 bz bz _ HP.out HP.out (by omega) (by omega) RG.out.rd'.2 RZ.out.rd'.2).mono ?_; rw [decide_eq_true rfl]; rintro e w7 ⟨rfl, hb⟩; replace RG : Hid (OwnB w7 w.heap.size (.slice a2 p c2) bz) := RG.out.later hb; replace HB : Hid (Below w.heap.size w w7) := HB.out.trans (hb.mono HB.out.size); have hsw7 : w.heap.size ≤ w7.heap.size := HB.out.size; clear hb))
      go_cut [32, 33] (fun s32 s33 wx => Hid (Below w.heap.size w wx))
      case first => as_aux_lemma =>
        cases fb
        · go_wp2
          go_meet
          exact HB
        · have HTB : Hid (textF bz = (s, true)) := text_back HS5.out HF.out
          go_wp2_with (go_at_call 34; refine (implText_c a2 p c2 bz _ HP.out (by omega) RG.out.rd'.2 s true HTB.out).mono ?_; rintro e w8 ⟨rfl, hb⟩; replace HB : Hid (Below w.heap.size w w8) := HB.out.trans (hb.mono HB.out.size); have hsw8 : w.heap.size ≤ w8.heap.size := HB.out.size; clear hb)
          go_meet
          exact HB
      case rest => as_aux_lemma =>
        clear HB RG RT HL4 HF HP hfb hf2 HF2 HS5
        have HB := hcut
        clear hcut
        go_wp2_with (go_at_call 36; refine (drawUnlikeBits_c bo m d _ hm (HM.out.later HB.out HB.out.size)).mono ?_; rintro e w1 ⟨⟨a0, n0, c0, xs, a1, q1, c1, fs, rfl, hn0, hq1, hl0, hl1, ho, hob⟩, hb⟩; have RX : Hid (OwnB w1 w.heap.size (.slice a0 n0 c0) xs) := ho.mono HB.out.size; have RF : Hid (OwnB w1 w.heap.size (.slice a1 q1 c1) fs) := hob.mono HB.out.size; have HL0 : Hid (xs.length = n0) := hl0; have HL1 : Hid (fs.length = q1) := hl1; replace HB : Hid (Below w.heap.size w w1) := HB.out.trans (hb.mono HB.out.size); have hsw1 : w.heap.size ≤ w1.heap.size := HB.out.size; clear ho hob hb hl0 hl1)
        obtain ⟨zs, fb, hF⟩ : ∃ zs fb, unlF xs fs = (zs, fb) := ⟨_, _, rfl⟩
        have HF : Hid (unlF xs fs = (zs, fb)) := hF
        obtain ⟨p, hp⟩ : ∃ p, zs.length = p := ⟨_, rfl⟩
        have HP : Hid (zs.length = p) := hp
        have hp4 : p ≤ 40 := by rw [← hp]; exact unlF_short hF
        have hfb : (fb != fb) = false := by simp
        clear hF hp
        go_wp2_with (first | (go_at_call 37; refine (implUnl_c a0 a1 n0 q1 c0 c1 xs fs _ HL0.out HL1.out (by omega) (by omega) RX.out.rd'.2 RF.out.rd'.2 zs fb p HF.out HP.out).mono ?_; rintro e w2 ⟨a2, c2, rfl, ho, hb⟩; have RG : Hid (OwnB w2 w.heap.size (.slice a2 p c2) zs) := ho.mono HB.out.size; replace RX : Hid (OwnB w2 w.heap.size (.slice a0 n0 c0) xs) := RX.out.later hb; replace RF : Hid (OwnB w2 w.heap.size (.slice a1 q1 c1) fs) := RF.out.later hb; replace HB : Hid (Below w.heap.size w w2) := HB.out.trans (hb.mono HB.out.size); have hsw2 : w.heap.size ≤ w2.heap.size := HB.out.size; clear ho hb) | (go_at_call 38; refine (specUnl_c a0 a1 n0 q1 c0 c1 xs fs _ HL0.out HL1.out (by omega) (by omega) RX.out.rd'.2 RF.out.rd'.2 zs fb p HF.out HP.out).mono ?_; rintro e w3 ⟨a3, c3, rfl, ho, hb⟩; have RZ : Hid (OwnB w3 w.heap.size (.slice a3 p c3) zs) := ho.mono HB.out.size; replace RX : Hid (OwnB w3 w.heap.size (.slice a0 n0 c0) xs) := RX.out.later hb; replace RF : Hid (OwnB w3 w.heap.size (.slice a1 q1 c1) fs) := RF.out.later hb; replace RG : Hid (OwnB w3 w.heap.size (.slice a2 p c2) zs) := RG.out.later hb; replace HB : Hid (Below w.heap.size w w3) := HB.out.trans (hb.mono HB.out.size); have hsw3 : w.heap.size ≤ w3.heap.size := HB.out.size; clear ho hb) | (go_at_call 39; refine (drawRunsOf_c bo m d _ hm (HM.out.later HB.out HB.out.size)).mono ?_; rintro e w4 ⟨⟨a4, q4, c4, tz, rfl, hq4, hl4, ho⟩, hb⟩; have RT : Hid (OwnB w4 w.heap.size (.slice a4 q4 c4) tz) := ho.mono HB.out.size; have HL4 : Hid (tz.length = q4) := hl4; replace RG : Hid (OwnB w4 w.heap.size (.slice a2 p c2) zs) := RG.out.later hb; replace RZ : Hid (OwnB w4 w.heap.size (.slice a3 p c3) zs) := RZ.out.later hb; replace HB : Hid (Below w.heap.size w w4) := HB.out.trans (hb.mono HB.out.size); have hsw4 : w.heap.size ≤ w4.heap.size := HB.out.size; clear ho hb hl4 RX RF))
        obtain ⟨rz, f2, hF2⟩ : ∃ rz f2, runsF tz = (rz, f2) := ⟨_, _, rfl⟩
        have HF2 : Hid (runsF tz = (rz, f2)) := hF2
        obtain ⟨r, hr⟩ : ∃ r, rz.length = r := ⟨_, rfl⟩
        have HR : Hid (rz.length = r) := hr
        have hr4 : r ≤ 40 := by rw [← hr]; exact runsF_short hF2
        have hf2 : (f2 != f2) = false := by simp
        clear hF2 hr
        go_upto_if 268 with (first | (go_at_call 40; refine (implRuns_c a4 q4 c4 tz _ HL4.out (by omega) RT.out.rd'.2 rz f2 r HF2.out HR.out).mono ?_; rintro e w5 ⟨a5, c5, rfl, ho, hb⟩; have RU : Hid (Own w5 w.heap.size (.slice a5 r c5) rz) := ho.mono HB.out.size; replace RG : Hid (OwnB w5 w.heap.size (.slice a2 p c2) zs) := RG.out.later hb; replace RZ : Hid (OwnB w5 w.heap.size (.slice a3 p c3) zs) := RZ.out.later hb; replace RT : Hid (OwnB w5 w.heap.size (.slice a4 q4 c4) tz) := RT.out.later hb; replace HB : Hid (Below w.heap.size w w5) := HB.out.trans (hb.mono HB.out.size); have hsw5 : w.heap.size ≤ w5.heap.size := HB.out.size; clear ho hb) | (go_at_call 41; refine (specRuns_c a4 q4 c4 tz _ HL4.out (by omega) RT.out.rd'.2 rz f2 r HF2.out HR.out).mono ?_; rintro e w6 ⟨a6, c6, rfl, ho, hb⟩; have RV : Hid (Own w6 w.heap.size (.slice a6 r c6) rz) := ho.mono HB.out.size; replace RG : Hid (OwnB w6 w.heap.size (.slice a2 p c2) zs) := RG.out.later hb; replace RZ : Hid (OwnB w6 w.heap.size (.slice a3 p c3) zs) := RZ.out.later hb; replace RT : Hid (OwnB w6 w.heap.size (.slice a4 q4 c4) tz) := RT.out.later hb; replace RU : Hid (Own w6 w.heap.size (.slice a5 r c5) rz) := RU.out.later hb; replace HB : Hid (Below w.heap.size w w6) := HB.out.trans (hb.mono HB.out.size); have hsw6 : w.heap.size ≤ w6.heap.size := HB.out.size; clear ho hb) | (go_at_call 26; refine (sameBools_c a2 a3 p p c2 c3 zs zs _ HP.out HP.out (by omega) (by omega) RG.out.rd'.2 RZ.out.rd'.2).mono ?_; rw [decide_eq_true rfl]; rintro e w7 ⟨rfl, hb⟩; replace RU : Hid (Own w7 w.heap.size (.slice a5 r c5) rz) := RU.out.later hb; replace RV : Hid (Own w7 w.heap.size (.slice a6 r c6) rz) := RV.out.later hb; replace HB : Hid (Below w.heap.size w w7) := HB.out.trans (hb.mono HB.out.size); have hsw7 : w.heap.size ≤ w7.heap.size := HB.out.size; clear hb) | (go_at_call 17; refine (sameInts_c a5 a6 r r c5 c6 rz rz _ HR.out HR.out (by omega) (by omega) RU.out.rd'.2 RV.out.rd'.2).mono ?_; rw [decide_eq_true rfl]; rintro e w8 ⟨rfl, hb⟩; replace RU : Hid (Own w8 w.heap.size (.slice a5 r c5) rz) := RU.out.later hb; replace HB : Hid (Below w.heap.size w w8) := HB.out.trans (hb.mono HB.out.size); have hsw8 : w.heap.size ≤ w8.heap.size := HB.out.size; clear hb))
        cases f2
        · go_wp2
          go_ret
          exact ⟨rfl, HB.out⟩
        · have hrz : rz = runsAt tz q4 := by
            have h := HF2.out
            unfold runsF at h
            split at h
            · simp only [Prod.mk.injEq, and_true] at h
              rw [← h, HL4.out]
            · simp at h
          have HSUM : Hid (sumAt rz r = (q4 : Int)) := by show sumAt rz r = _; rw [← HR.out, hrz]; exact (runs_sum tz q4).1
          have HPOS : Hid (∀ j, j < r → 1 ≤ rz.getD j 0 ∧ rz.getD j 0 ≤ 60) := fun j hj => ⟨by rw [hrz]; exact (runs_sum tz q4).2 j (by rw [← hrz, HR.out]; exact hj), by rw [hrz]; have := ((runsAt_ok tz q4).2.2 j).2; omega⟩
          have HCR : Hid (∀ b o, a5 = some ⟨b, o, none⟩ → ∀ j, j < r → w8.cell? ⟨b, o + j, none⟩ = some (.int .i64 (rz.getD j 0))) := fun b o h j hj => by
            obtain ⟨b', o', h', hc⟩ := RU.out.rd'.2.at HR.out (by omega)
            rw [h] at h'
            simp only [Option.some.injEq, Addr.mk.injEq, and_true] at h'
            obtain ⟨rfl, rfl⟩ := h'
            exact hc j hj
          clear hrz
          go_wp2
          go_loopg [45, 271] r (fun g s45 s271 wx => ∃ (j : Nat) (S : Int), j + g = r ∧ s271 = .int .i64 j ∧ s45 = .int .i64 S ∧ 0 ≤ S ∧ S ≤ 60 * j ∧ Hid (S = sumAt rz j) ∧ wx = w8)
          case atStart => exact ⟨0, 0, by omega, rfl, rfl, by omega, by omega, rfl, rfl⟩
          case round =>
            obtain ⟨j, S, hjg, rfl, rfl, hS0, hS1, hS, hw⟩ := hrel
            subst wr
            cases gk with
            | zero =>
              have hj : ¬ (j : Int) < (r : Int) := by omega
              obtain rfl : j = r := by omega
              have hSq : S = (q4 : Int) := by rw [hS.out]; exact HSUM.out
              subst hSq
              clear hS
              go_wp2
              go_ret
              exact ⟨by simp, HB.out⟩
            | succ g =>
              have hj : (j : Int) < (r : Int) := by omega
              have j0 : (0 : Int) ≤ (j : Int) := by omega
              obtain ⟨b', o', ha5, hc5⟩ := RU.out.rd'.2.at HR.out (by omega)
              have g5 := hc5 j (by omega)
              subst ha5
              obtain ⟨hy1, hy2⟩ := HPOS.out j (by omega)
              have HS2 : Hid (S + rz.getD j 0 = sumAt rz (j + 1)) := by show S + rz.getD j 0 = _; rw [hS.out]; rfl
              generalize rz.getD j 0 = y at g5 hy1 hy2 HS2
              have hyn : ¬ y < 1 := by omega
              clear hc5 hS
              go_wp2
              go_roundg g
              case measure => omega
              case rel => exact ⟨j + 1, S + y, by omega, by go_num, rfl, by omega, by push_cast; omega, HS2, rfl⟩

end Go.Proofs.Ytjdfpjeeipbghaa
