/- The law FnOrders, walked: true at every two texts. -/
import Derived.Test.YtlmamlhpjakcoaaD4S
import Derived.Test.YtlmamlhpjakcoaaFO4P
import Derived.Test.YtlmamlhpjakcoaaSM4
import Derived.Test.YtlmamlhpjakcoaaSI4
import Derived.Test.YtlmamlhpjakcoaaSJ4
import Derived.Deep.DeepCutAuto
import Derived.Deep.Light
namespace Go.Proofs.Ytlmamlhpjakcoaa
set_option linter.unusedVariables false
set_option linter.unusedSimpArgs false
open Go.RowKit

set_option maxHeartbeats 16000000 in
set_option maxRecDepth 1000000 in
theorem lawFnOrders_c (ao : Option Addr) (n c : Nat) (bo : Option Addr) (m d : Nat) (w : World) (hn : n ≤ 9223372036854775807) (hm : m ≤ 9223372036854775807) (h1 : CodeOk w w.heap.size ao n) (h2 : CodeOk w w.heap.size bo m) :
    Calls Try.prog 4 #[.slice ao n c, .slice bo m d] w fun e w' => e = .returned (.bool true) ∧ Below w.heap.size w w' := by
  by_cases hl : 1048576 < wrap64 ((n : Int) + (m : Int))
  · clear h1 h2
    go_enter Try.func4, Try.ntmps4
    go_wp2
    go_ret
    exact ⟨rfl, Below.refl _ _⟩
  have HN : Hid (CodeOk w w.heap.size ao n) := h1
  have HM : Hid (CodeOk w w.heap.size bo m) := h2
  have HB : Hid (Below w.heap.size w w) := Below.refl _ _
  clear h1 h2
  go_enter Try.func4, Try.ntmps4
  go_wp2_with (go_at_call 27; refine (drawOrderAt_c ao n c _ hn (HN.out.later HB.out HB.out.size)).mono ?_; rintro e w1 ⟨⟨x, y, rfl, hx0, hx1, hy0, hy1⟩, hb⟩; replace HB : Hid (Below w.heap.size w w1) := HB.out.trans (hb.mono HB.out.size); have hsw1 : w.heap.size ≤ w1.heap.size := HB.out.size; clear hb)
  obtain ⟨zs, fb, hF⟩ : ∃ zs fb, orderF x y = (zs, fb) := ⟨_, _, rfl⟩
  have HF : Hid (orderF x y = (zs, fb)) := hF
  obtain ⟨p, hp⟩ : ∃ p, zs.length = p := ⟨_, rfl⟩
  have HP : Hid (zs.length = p) := hp
  have hp9 : p ≤ 9 := by rw [← hp]; exact orderF_short hF
  have hfb : (fb != fb) = false := by simp
  clear hF hp
  go_upto_if 74 with (first | (go_at_call 28; refine (implOrder_c x y _ zs fb p HF.out HP.out).mono ?_; rintro e w2 ⟨a1, c1, rfl, ho, hb⟩; have RO : Hid (Own w2 w.heap.size (.slice a1 p c1) zs) := ho.mono HB.out.size; replace HB : Hid (Below w.heap.size w w2) := HB.out.trans (hb.mono HB.out.size); have hsw2 : w.heap.size ≤ w2.heap.size := HB.out.size; clear ho hb) | (go_at_call 29; refine (specOrder_c x y _ zs fb p HF.out HP.out).mono ?_; rintro e w3 ⟨a2, c2, rfl, ho, hb⟩; have RW : Hid (Own w3 w.heap.size (.slice a2 p c2) zs) := ho.mono HB.out.size; replace RO : Hid (Own w3 w.heap.size (.slice a1 p c1) zs) := RO.out.later hb; replace HB : Hid (Below w.heap.size w w3) := HB.out.trans (hb.mono HB.out.size); have hsw3 : w.heap.size ≤ w3.heap.size := HB.out.size; clear ho hb) | (go_at_call 30; refine (sameInts_c a1 a2 p p c1 c2 zs zs _ HP.out HP.out (by omega) (by omega) RO.out.rd'.2 RW.out.rd'.2).mono ?_; rw [decide_eq_true rfl]; rintro e w4 ⟨rfl, hb⟩; replace RO : Hid (Own w4 w.heap.size (.slice a1 p c1) zs) := RO.out.later hb; replace HB : Hid (Below w.heap.size w w4) := HB.out.trans (hb.mono HB.out.size); have hsw4 : w.heap.size ≤ w4.heap.size := HB.out.size; clear hb RW))
  go_cut [11, 12, 13, 14, 15, 16, 17, 18] (fun _ _ _ _ _ _ _ _ wx => Hid (Below w.heap.size w wx))
  case first => as_aux_lemma =>
    cases fb
    · go_wp2
      go_meet
      exact HB
    · obtain ⟨M, N, rfl, rfl, hM9, hNF, hzs⟩ := orderF_true HF.out
      have HZS : Hid (zs = ordL M (upI M) N) := hzs
      obtain rfl : p = M := by rw [← HP.out, hzs, ordL_length]
      have HNF : Hid (numberF zs = ((N : Int), true)) := by show _ = _; rw [hzs]; exact numberF_ord hM9 hNF
      have HOF : Hid (ordersF (p : Int) = (((fac p : Nat) : Int), true)) := ordersF_of hM9
      have hnn : ((N : Int) != (N : Int)) = false := by simp
      have hpp : ((p : Int) != (p : Int)) = false := by simp
      have HFP : Hid (N < fac p) := hNF
      generalize fac p = F at HOF hNF
      have hNF2 : (N : Int) < (F : Int) := by omega
      have hNFd : decide (F ≤ N) = false := decide_eq_false (by omega)
      clear hzs hfb hNF HF
      by_cases hN0 : N = 0
      · have hNz : ¬ (0 : Int) < (N : Int) := by omega
        clear hN0 HFP HZS
        go_wp2_with (first | (go_at_call 31; refine (implNumber_c a1 p c1 zs _ HP.out (by omega) RO.out.cap RO.out.rd'.2 N true HNF.out).mono ?_; rintro e w5 ⟨rfl, hb⟩; replace RO : Hid (Own w5 w.heap.size (.slice a1 p c1) zs) := RO.out.later hb; replace HB : Hid (Below w.heap.size w w5) := HB.out.trans (hb.mono HB.out.size); have hsw5 : w.heap.size ≤ w5.heap.size := HB.out.size; clear hb HNF) | (go_at_call 32; refine (implOrders_c p _ F true HOF.out).mono ?_; rintro e w' ⟨rfl, hw⟩; subst w'; clear HOF))
        go_meet
        exact HB
      · have hNz : (0 : Int) < (N : Int) := by omega
        obtain ⟨N1, hN1⟩ : ∃ N1, N = N1 + 1 := ⟨N - 1, by omega⟩
        have hNm : (N : Int) - 1 = (N1 : Int) := by omega
        have HF1 : Hid (orderF (p : Int) (N1 : Int) = (ordL p (upI p) N1, true)) := orderF_of (by omega) (by have := HFP.out; omega)
        have HFL : Hid (firstLess (ordL p (upI p) N1) zs = true) := by show _ = _; rw [HZS.out, hN1]; exact ord_less p (upI p) N1 (upI_length p) (up_upI p) (by have := HFP.out; omega)
        have HYL : Hid ((ordL p (upI p) N1).length = p) := ordL_length _ _ _
        generalize ordL p (upI p) N1 = ys at HF1 HFL HYL
        have hp0 : 0 < p := by
          rcases Nat.eq_zero_or_pos p with h | h
          · have h2 := HFP.out; rw [h] at h2; simp [fac] at h2; omega
          · exact h
        clear hN0 HFP HZS hN1
        go_wp2_with (first | (go_at_call 31; refine (implNumber_c a1 p c1 zs _ HP.out (by omega) RO.out.cap RO.out.rd'.2 N true HNF.out).mono ?_; rintro e w5 ⟨rfl, hb⟩; replace RO : Hid (Own w5 w.heap.size (.slice a1 p c1) zs) := RO.out.later hb; replace HB : Hid (Below w.heap.size w w5) := HB.out.trans (hb.mono HB.out.size); have hsw5 : w.heap.size ≤ w5.heap.size := HB.out.size; clear hb HNF) | (go_at_call 32; refine (implOrders_c p _ F true HOF.out).mono ?_; rintro e w' ⟨rfl, hw⟩; subst w'; clear HOF) | (go_at_call 28; refine (implOrder_c p N1 _ ys true p HF1.out HYL.out).mono ?_; rintro e w6 ⟨a6, c6, rfl, ho, hb⟩; have RY : Hid (Own w6 w.heap.size (.slice a6 p c6) ys) := ho.mono HB.out.size; replace RO : Hid (Own w6 w.heap.size (.slice a1 p c1) zs) := RO.out.later hb; replace HB : Hid (Below w.heap.size w w6) := HB.out.trans (hb.mono HB.out.size); have hsw6 : w.heap.size ≤ w6.heap.size := HB.out.size; clear ho hb HF1))
        obtain ⟨g1, hg1, hgb1⟩ := own_some RO.out hp0
        subst hg1
        obtain ⟨g6, hg6, hgb6⟩ := own_some RY.out hp0
        subst hg6
        clear hl HN hnn hNF2 hNz hNm hpp hNFd hM9 hx0 hx1 hy0 hy1
        have HFL0 : Hid (firstLess (ys.drop 0) (zs.drop 0) = true) := HFL.out
        go_loopg [17, 118] p (fun g lv iv wx => ∃ j : Nat, j + g = p ∧ iv = .int .i64 j ∧ lv = .bool false ∧ Hid (firstLess (ys.drop j) (zs.drop j) = true) ∧ Hid (Own wx w.heap.size (.slice (some ⟨g1, 0, none⟩) p c1) zs) ∧ Hid (Own wx w.heap.size (.slice (some ⟨g6, 0, none⟩) p c6) ys) ∧ Hid (Below w.heap.size w wx))
        case atStart => exact ⟨0, by omega, rfl, rfl, HFL0, RO, RY, HB⟩
        case round =>
          clear RO RY HB HFL0 HFL
          obtain ⟨j, hjg, rfl, rfl, hFL, RO, RY, HB⟩ := hrel
          cases gk with
          | zero =>
            exact absurd hFL.out (by rw [firstLess_end HYL.out (by omega)]; simp)
          | succ g =>
            have hj : (j : Int) < (p : Int) := by omega
            have hj0 : (0 : Int) ≤ (j : Int) := by omega
            have cO : wr.cell? ⟨g1, j, none⟩ = some (.int .i64 (zs.getD j 0)) := by have h := RO.out; rw [← HP.out] at h; exact h.cell j (by rw [HP.out]; omega)
            have cY : wr.cell? ⟨g6, j, none⟩ = some (.int .i64 (ys.getD j 0)) := by have h := RY.out; rw [← HYL.out] at h; exact h.cell j (by rw [HYL.out]; omega)
            have HST : Hid ((if ys.getD j 0 = zs.getD j 0 then firstLess (ys.drop (j + 1)) (zs.drop (j + 1)) else decide (ys.getD j 0 < zs.getD j 0)) = true) := by show _ = _; rw [← firstLess_step HYL.out HP.out (by omega)]; exact hFL.out
            generalize zs.getD j 0 = z at cO HST
            generalize ys.getD j 0 = y at cY HST
            clear hFL
            by_cases hyz : y = z
            · have hne : (y != z) = false := by simpa using hyz
              have HN2 : Hid (firstLess (ys.drop (j + 1)) (zs.drop (j + 1)) = true) := by show _ = _; have h := HST.out; rw [if_pos hyz] at h; exact h
              clear hyz HST
              go_wp2
              go_quiet (fail)
              go_wp2
              go_roundg g
              case measure => omega
              case rel => exact ⟨j + 1, by omega, by go_num, rfl, HN2, RO.out.later (below_drewN (Below.refl _ _) _), RY.out.later (below_drewN (Below.refl _ _) _), below_drewN HB.out _⟩
            · have hne : (y != z) = true := by simpa using hyz
              have hyl : y < z := by have h := HST.out; rw [if_neg hyz] at h; simpa using h
              clear hyz HST
              go_wp2
              go_quiet (fail)
              go_wp2
              go_quiet (fail)
              go_wp2
              go_meet
              exact below_drewN HB.out _
  case rest => as_aux_lemma =>
    clear HB RO HF HP hfb HN
    have HB := hcut
    clear hcut hl hx0 hx1 hy0 hy1
    have hswc : w.heap.size ≤ wc.heap.size := HB.out.size
    go_wp2_with (go_at_call 33; refine (drawNumber_c bo m d _ hm (HM.out.later HB.out HB.out.size)).mono ?_; rintro e w1 ⟨⟨a5, q5, c5, us, rfl, hq5, ho⟩, hb⟩; have RU : Hid (Own w1 w.heap.size (.slice a5 q5 c5) us) := ho.mono HB.out.size; replace HB : Hid (Below w.heap.size w w1) := HB.out.trans (hb.mono HB.out.size); have hsw1 : w.heap.size ≤ w1.heap.size := HB.out.size; clear ho hb)
    obtain ⟨r, gb, hF⟩ : ∃ r gb, numberF us = (r, gb) := ⟨_, _, rfl⟩
    have HF : Hid (numberF us = (r, gb)) := hF
    have e1 : (gb != gb) = false := by simp
    have e2 : (r != r) = false := by simp
    clear hF
    go_wp2_with (first | (go_at_call 31; refine (implNumber_c a5 q5 c5 us _ RU.out.rd'.1 (by omega) RU.out.cap RU.out.rd'.2 r gb HF.out).mono ?_; rintro e w2 ⟨rfl, hb⟩; replace RU : Hid (Own w2 w.heap.size (.slice a5 q5 c5) us) := RU.out.later hb; replace HB : Hid (Below w.heap.size w w2) := HB.out.trans (hb.mono HB.out.size); have hsw2 : w.heap.size ≤ w2.heap.size := HB.out.size; clear hb) | (go_at_call 34; refine (specNumber_c a5 q5 c5 us _ RU.out.rd'.1 (by omega) RU.out.cap RU.out.rd'.2 r gb HF.out).mono ?_; rintro e w3 ⟨rfl, hb⟩; replace RU : Hid (Own w3 w.heap.size (.slice a5 q5 c5) us) := RU.out.later hb; replace HB : Hid (Below w.heap.size w w3) := HB.out.trans (hb.mono HB.out.size); have hsw3 : w.heap.size ≤ w3.heap.size := HB.out.size; clear hb) | (go_at_call 35; refine (drawShuffle_c bo m d _ hm (HM.out.later HB.out HB.out.size)).mono ?_; rintro e w4 ⟨⟨a6, q, c6, ds, a7, c7, ls, rfl, hq, hdl, hll, ho, hos⟩, hb⟩; have RD : Hid (Own w4 w.heap.size (.slice a6 q c6) ds) := ho.mono HB.out.size; have RL : Hid (OwnS w4 w.heap.size (.slice a7 q c7) ls) := hos.mono HB.out.size; have HDL : Hid (ds.length = q) := hdl; have HLL : Hid (ls.length = q) := hll; replace HB : Hid (Below w.heap.size w w4) := HB.out.trans (hb.mono HB.out.size); have hsw4 : w.heap.size ≤ w4.heap.size := HB.out.size; clear ho hos hb hdl hll RU HF))
    obtain ⟨ss, sb, hF⟩ : ∃ ss sb, shuffleF ds ls = (ss, sb) := ⟨_, _, rfl⟩
    have HF : Hid (shuffleF ds ls = (ss, sb)) := hF
    obtain ⟨p8, hp8⟩ : ∃ p8, ss.length = p8 := ⟨_, rfl⟩
    have HP : Hid (ss.length = p8) := hp8
    have hp9' : p8 ≤ 9 := by rw [← hp8]; exact shuffleF_short hF
    have e3 : (sb != sb) = false := by simp
    clear hF hp8
    go_wp2_with (first | (go_at_call 36; refine (implShuf_c a6 a7 q c6 q c7 _ ds ls _ HDL.out HLL.out (by omega) (by omega) RD.out.rd'.2 RL.out ss sb p8 HF.out HP.out).mono ?_; rintro e w5 ⟨a8, c8, rfl, ho, hb⟩; have RS : Hid (OwnS w5 w.heap.size (.slice a8 p8 c8) ss) := ho.mono HB.out.size; replace RD : Hid (Own w5 w.heap.size (.slice a6 q c6) ds) := RD.out.later hb; replace RL : Hid (OwnS w5 w.heap.size (.slice a7 q c7) ls) := RL.out.later hb; replace HB : Hid (Below w.heap.size w w5) := HB.out.trans (hb.mono HB.out.size); have hsw5 : w.heap.size ≤ w5.heap.size := HB.out.size; clear ho hb) | (go_at_call 37; refine (specShuf_c a6 a7 q c6 q c7 _ ds ls _ HDL.out HLL.out (by omega) (by omega) RD.out.rd'.2 RL.out ss sb p8 HF.out HP.out).mono ?_; rintro e w6 ⟨a9, c9, rfl, ho, hb⟩; have RZ : Hid (OwnS w6 w.heap.size (.slice a9 p8 c9) ss) := ho.mono HB.out.size; replace RD : Hid (Own w6 w.heap.size (.slice a6 q c6) ds) := RD.out.later hb; replace RL : Hid (OwnS w6 w.heap.size (.slice a7 q c7) ls) := RL.out.later hb; replace RS : Hid (OwnS w6 w.heap.size (.slice a8 p8 c8) ss) := RS.out.later hb; replace HB : Hid (Below w.heap.size w w6) := HB.out.trans (hb.mono HB.out.size); have hsw6 : w.heap.size ≤ w6.heap.size := HB.out.size; clear ho hb) | (go_at_call 38; refine (drawOrders_c bo m d _ hm (HM.out.later HB.out HB.out.size)).mono ?_; rintro e w7 ⟨⟨oa, rfl⟩, hb⟩; replace RL : Hid (OwnS w7 w.heap.size (.slice a7 q c7) ls) := RL.out.later hb; replace RS : Hid (OwnS w7 w.heap.size (.slice a8 p8 c8) ss) := RS.out.later hb; replace RZ : Hid (OwnS w7 w.heap.size (.slice a9 p8 c9) ss) := RZ.out.later hb; replace HB : Hid (Below w.heap.size w w7) := HB.out.trans (hb.mono HB.out.size); have hsw7 : w.heap.size ≤ w7.heap.size := HB.out.size; clear hb RD))
    obtain ⟨ra, ab, hG⟩ : ∃ ra ab, ordersF oa = (ra, ab) := ⟨_, _, rfl⟩
    have HG : Hid (ordersF oa = (ra, ab)) := hG
    have e4 : (ab != ab) = false := by simp
    have e5 : (ra != ra) = false := by simp
    clear hG
    go_upto_if 216 with (first | (go_at_call 32; refine (implOrders_c oa _ ra ab HG.out).mono ?_; rintro e w' ⟨rfl, hw⟩; subst w') | (go_at_call 39; refine (specOrders_c oa _ ra ab HG.out).mono ?_; rintro e w' ⟨rfl, hw⟩; subst w') | (go_at_call 40; refine (sameTexts_c a8 a9 p8 p8 c8 c9 ss ss _ HP.out HP.out (by omega) (by omega) RS.out.rd'.2 RZ.out.rd'.2).mono ?_; rw [decide_eq_true rfl]; rintro e w8 ⟨rfl, hb⟩; replace RL : Hid (OwnS w8 w.heap.size (.slice a7 q c7) ls) := RL.out.later hb; replace RS : Hid (OwnS w8 w.heap.size (.slice a8 p8 c8) ss) := RS.out.later hb; replace HB : Hid (Below w.heap.size w w8) := HB.out.trans (hb.mono HB.out.size); have hsw8 : w.heap.size ≤ w8.heap.size := HB.out.size; clear hb RZ))
    cases sb
    · go_wp2
      go_ret
      exact ⟨rfl, HB.out⟩
    · have hcn := fun t => shuffle_cnt HF.out t
      obtain rfl : p8 = q := by rw [← HP.out, (hcn ByteArray.empty).2]; exact HLL.out
      have HCN : Hid (∀ t, cntS t ss = cntS t ls) := fun t => (hcn t).1
      clear hcn HF HG e1 e2 e3 e4 e5
      by_cases hq0 : p8 = 0
      · subst hq0
        go_wp2
        refine wp_loop_rounds 1 ?_
        rw [rounds_succ]
        go_wp2
        go_ret
        exact ⟨rfl, HB.out⟩
      · obtain ⟨gL, cL, hvL, hgL⟩ := own_formS RL.out HLL.out (by omega)
        obtain ⟨gS, cS, hvS, hgS⟩ := own_formS RS.out HP.out (by omega)
        simp only [Value.slice.injEq, true_and] at hvL hvS
        obtain ⟨hL1, hL2⟩ := hvL
        obtain ⟨hS1, hS2⟩ := hvS
        subst hL1 hL2 hS1 hS2
        have HCL : Hid (∀ j, j < p8 → w8.cell? ⟨gL, j, none⟩ = some (.string (ls.getD j ByteArray.empty))) := fun j hj => by
          have h := RL.out
          rw [← HLL.out] at h
          exact OwnS.cell h j (by rw [HLL.out]; exact hj)
        have HCS : Hid (∀ j, j < p8 → w8.cell? ⟨gS, j, none⟩ = some (.string (ss.getD j ByteArray.empty))) := fun j hj => by
          have h := RS.out
          rw [← HP.out] at h
          exact OwnS.cell h j (by rw [HP.out]; exact hj)
        clear RL RS hq0
        go_wp2
        go_loop [219] (fun i => ∃ k : Nat, k ≤ p8 ∧ i = .int .i64 k) (fun i => p8 - (intOf i).toNat)
        case atStart => exact ⟨0, Nat.zero_le _, rfl⟩
        case round =>
          obtain ⟨k, hk, rfl⟩ := hrel
          by_cases hlt : k < p8
          · have ct := HCL.out k hlt
            have hki : (k : Int) < (p8 : Int) := by omega
            generalize ls.getD k ByteArray.empty = t at ct
            go_wp2
            go_loop [37, 225] (fun nv i => ∃ j C : Nat, j ≤ p8 ∧ i = .int .i64 j ∧ nv = .int .i64 C ∧ C ≤ j ∧ Hid (C = cntS t (ls.take j))) (fun _ i => p8 - (intOf i).toNat)
            case atStart => exact ⟨0, 0, Nat.zero_le _, rfl, rfl, Nat.le_refl _, rfl⟩
            case round =>
              obtain ⟨j, C, hj, rfl, rfl, hCj, hC⟩ := hrel
              by_cases hlj : j < p8
              · have cx := HCL.out j hlj
                have hji : (j : Int) < (p8 : Int) := by omega
                have HS := cntS_step (t := t) HLL.out hlj
                rw [← hC.out] at HS
                generalize ls.getD j ByteArray.empty = x at cx HS
                have HSS : Hid (cntS t (ls.take (j + 1)) = C + (if (x.toList == t.toList) = true then 1 else 0)) := HS
                clear HS hC
                cases hxt : (x.toList == t.toList) with
                | true =>
                  go_wp2
                  go_round
                  case rel => exact ⟨j + 1, C + 1, by omega, by go_num, by go_num, by omega, by show _ = _; rw [HSS.out, hxt]; rfl⟩
                  case measure => simp [intOf]; omega
                | false =>
                  go_wp2
                  go_round
                  case rel => exact ⟨j + 1, C, by omega, by go_num, rfl, by omega, by show _ = _; rw [HSS.out, hxt]; rfl⟩
                  case measure => simp [intOf]; omega
              · have HCE : Hid (C = cntS t ls) := by show _ = _; rw [hC.out, List.take_of_length_le (by rw [HLL.out]; omega)]
                have hji : (p8 : Int) ≤ (j : Int) := by omega
                clear hC
                go_wp2
                go_loop [37, 237] (fun nv i => ∃ (j2 D : Nat) (z : Int), j2 ≤ p8 ∧ i = .int .i64 j2 ∧ nv = .int .i64 z ∧ D ≤ j2 ∧ z + D = C ∧ Hid (D = cntS t (ss.take j2))) (fun _ i => p8 - (intOf i).toNat)
                case atStart => exact ⟨0, 0, C, Nat.zero_le _, rfl, rfl, Nat.le_refl _, by omega, rfl⟩
                case round =>
                  obtain ⟨j2, D, z, hj2, rfl, rfl, hDj, hzD, hD⟩ := hrel
                  have HZD : Hid (z + D = (C : Int)) := hzD
                  by_cases hlj2 : j2 < p8
                  · have cx := HCS.out j2 hlj2
                    have hji2 : (j2 : Int) < (p8 : Int) := by omega
                    have HS := cntS_step (t := t) HP.out hlj2
                    rw [← hD.out] at HS
                    generalize ss.getD j2 ByteArray.empty = x at cx HS
                    have HSS : Hid (cntS t (ss.take (j2 + 1)) = D + (if (x.toList == t.toList) = true then 1 else 0)) := HS
                    have hzb : -20 ≤ z ∧ z ≤ 20 := by omega
                    obtain ⟨hzb1, hzb2⟩ := hzb
                    clear HS hD hzD
                    cases hxt : (x.toList == t.toList) with
                    | true =>
                      go_wp2
                      go_round
                      case rel => exact ⟨j2 + 1, D + 1, z - 1, by omega, by go_num, by go_num, by omega, by have := HZD.out; omega, by show _ = _; rw [HSS.out, hxt]; rfl⟩
                      case measure => simp [intOf]; omega
                    | false =>
                      go_wp2
                      go_round
                      case rel => exact ⟨j2 + 1, D, z, by omega, by go_num, rfl, by omega, HZD.out, by show _ = _; rw [HSS.out, hxt]; rfl⟩
                      case measure => simp [intOf]; omega
                  · have hDE : D = C := by rw [hD.out, List.take_of_length_le (by rw [HP.out]; omega), HCN.out t, ← HCE.out]
                    obtain rfl : z = 0 := by omega
                    have hji2 : (p8 : Int) ≤ (j2 : Int) := by omega
                    clear hD hzD hDE HZD
                    go_wp2
                    go_round
                    case rel => exact ⟨k + 1, by omega, by go_num⟩
                    case measure => simp [intOf]; omega
          · go_wp2
            go_ret
            exact ⟨rfl, HB.out⟩

end Go.Proofs.Ytlmamlhpjakcoaa
