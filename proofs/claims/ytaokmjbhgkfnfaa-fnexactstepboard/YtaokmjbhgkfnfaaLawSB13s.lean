/- The law on StepBoard, walked: it answers true at every argument and turns nothing that was there. -/
import Derived.Test.YtaokmjbhgkfnfaaLSA13s
import Derived.Test.YtaokmjbhgkfnfaaLSB13s
import Derived.Test.YtaokmjbhgkfnfaaLSC13s
namespace Go.Proofs.Ytaokmjbhgkfnfaa
set_option linter.unusedVariables false
set_option maxRecDepth 1000000
set_option linter.unusedSimpArgs false
open Go.RowKit

theorem good_small {b : BdV} (h : goodBd b = true) : SmallBd b := by
  have F := good_few h
  exact ⟨by have := F.s; omega, by have := F.l; omega, by have := F.t; omega, fun l hl => by have := F.z l hl; omega⟩
theorem zero_small : SmallBd zeroBd := ⟨by simp [zeroBd], by simp [zeroBd], by simp [zeroBd], fun l hl => by simp [zeroBd] at hl⟩
theorem stepV_small (b : BdV) (k m l : Int) : SmallBd (stepV b k m l) := by
  unfold stepV
  split
  · rename_i h
    cases h2 : stepO b k m l with
    | none => exact zero_small
    | some c => exact good_small (step_good h h2)
  · exact zero_small

set_option maxHeartbeats 16000000 in
theorem lawStepB_c (f e : Int) (sa : Option Addr) (sn sc : Nat) (la : Option Addr) (ln lc : Nat) (ta : Option Addr) (tn tc : Nat) (sg : List (List Int)) (li ls : List Int) (k m l : Int) (w : World) (hs : sg.length = sn) (hsn0 : sn ≤ 9223372036854775807) (hl : li.length = ln) (hln0 : ln ≤ 9223372036854775807) (ht : ls.length = tn) (htn0 : tn ≤ 9223372036854775807) (hrs : RdII w sa sg) (hrl : Rd w la li) (hrt : Rd w ta ls) (hsl0 : ∀ l ∈ sg, l.length ≤ 9223372036854775807) :
    Calls Try.prog 7 #[.agg #[.int .i64 f, .int .i64 e, .slice sa sn sc, .slice la ln lc, .slice ta tn tc], .agg #[.int .i64 k, .int .i64 m, .int .i64 l]] w fun e w' => e = .returned (.bool true) ∧ Below w.heap.size w w' := by
  obtain ⟨nb, hnb⟩ : ∃ nb, stepV ⟨f, e, sg, li, ls⟩ k m l = nb := ⟨_, rfl⟩
  obtain ⟨fb, hF⟩ : ∃ fb, stepB ⟨f, e, sg, li, ls⟩ k m l = fb := ⟨_, rfl⟩
  obtain ⟨nf, hn1⟩ : ∃ n, nb.f = n := ⟨_, rfl⟩
  obtain ⟨ne, hn2⟩ : ∃ n, nb.e = n := ⟨_, rfl⟩
  obtain ⟨ns, hn3⟩ : ∃ n, nb.sg.length = n := ⟨_, rfl⟩
  obtain ⟨nl, hn4⟩ : ∃ n, nb.li.length = n := ⟨_, rfl⟩
  obtain ⟨nt, hn5⟩ : ∃ n, nb.ls.length = n := ⟨_, rfl⟩
  have HSN : Hid (SmallBd nb) := by rw [← hnb]; exact stepV_small _ _ _ _
  have HQS : Hid (sn ≤ 1048576 → ln ≤ 1048576 → tn ≤ 1048576 → ∀ a1 c1 a2 c2 a3 c3 wx, ReadB wx a1 sn c1 a2 ln c2 a3 tn c3 ⟨f, e, sg, li, ls⟩ → Calls Try.prog 21 #[.agg #[.int .i64 f, .int .i64 e, .slice a1 sn c1, .slice a2 ln c2, .slice a3 tn c3], .agg #[.int .i64 k, .int .i64 m, .int .i64 l]] wx fun r w' => ∃ sa' sc' la' lc' ta' tc', r = .returned (.tuple #[.agg #[.int .i64 nf, .int .i64 ne, .slice sa' ns sc', .slice la' nl lc', .slice ta' nt tc'], .bool fb]) ∧ OwnBd w' wx.heap.size w'.heap.size (.slice sa' ns sc') (.slice la' nl lc') (.slice ta' nt tc') nb ∧ Below wx.heap.size wx w') := fun h1 h2 h3 a1 c1 a2 c2 a3 c3 wx h => by
    have := specStep_c f e a1 sn c1 a2 ln c2 a3 tn c3 sg li ls k m l wx h h1 h2 h3
    unfold BdOk at this
    rw [hnb, hF, hn1, hn2, hn3, hn4, hn5] at this
    exact this
  have HQI : Hid (sn ≤ 1048576 → ln ≤ 1048576 → tn ≤ 1048576 → ∀ a1 c1 a2 c2 a3 c3 wx, ReadB wx a1 sn c1 a2 ln c2 a3 tn c3 ⟨f, e, sg, li, ls⟩ → Calls Try.prog 20 #[.agg #[.int .i64 f, .int .i64 e, .slice a1 sn c1, .slice a2 ln c2, .slice a3 tn c3], .agg #[.int .i64 k, .int .i64 m, .int .i64 l]] wx fun r w' => ∃ sa' sc' la' lc' ta' tc', r = .returned (.tuple #[.agg #[.int .i64 nf, .int .i64 ne, .slice sa' ns sc', .slice la' nl lc', .slice ta' nt tc'], .bool fb]) ∧ OwnBd w' wx.heap.size w'.heap.size (.slice sa' ns sc') (.slice la' nl lc') (.slice ta' nt tc') nb ∧ Below wx.heap.size wx w') := fun h1 h2 h3 a1 c1 a2 c2 a3 c3 wx h => by
    have := implStep_c f e a1 sn c1 a2 ln c2 a3 tn c3 sg li ls k m l wx h.rd h.nn h1 h2 h3
    unfold BdOk at this
    rw [hnb, hF, hn1, hn2, hn3, hn4, hn5] at this
    exact this
  have HS : Hid (sg.length = sn) := hs
  have HL : Hid (li.length = ln) := hl
  have HT : Hid (ls.length = tn) := ht
  have HN1 : Hid (nb.sg.length = ns) := hn3
  have HN2 : Hid (nb.li.length = nl) := hn4
  have HN3 : Hid (nb.ls.length = nt) := hn5
  have HSL0 : Hid (∀ l ∈ sg, l.length ≤ 9223372036854775807) := hsl0
  have HR0RS : Hid (∀ wx, Below w.heap.size w wx → RdII wx sa sg) := fun wx h => hrs.later h
  have HR0RL : Hid (∀ wx, Below w.heap.size w wx → Rd wx la li) := fun wx h => hrl.later h
  have HR0RT : Hid (∀ wx, Below w.heap.size w wx → Rd wx ta ls) := fun wx h => hrt.later h
  have hfb : (fb != fb) = false := by simp
  obtain ⟨Mn, hMn⟩ : ∃ M : Int, 1 + ((numB nb : Nat) : Int) = M := ⟨_, rfl⟩
  have HNN : Hid (1 + ((numB nb : Nat) : Int) = Mn) := hMn
  obtain ⟨Ma, hMa⟩ : ∃ M : Int, 1 + ((numB ⟨f, e, sg, li, ls⟩ : Nat) : Int) = M := ⟨_, rfl⟩
  have HNA : Hid (1 + ((numB ⟨f, e, sg, li, ls⟩ : Nat) : Int) = Ma) := hMa
  have hmn : ¬ Mn < 0 := by omega
  have hma : ¬ Ma < 0 := by omega
  have hmm : (Mn != Mn) = false := by simp
  clear hF hnb hn1 hn2 hn3 hn4 hn5 hMn hMa hs hl ht hsl0
  have HB_0 : Hid (Below w.heap.size w w) := Below.refl _ _
  have RS_0 : Hid (RdII w sa sg) := hrs
  have RL_0 : Hid (Rd w la li) := hrl
  have RT_0 : Hid (Rd w ta ls) := hrt
  clear hrs hrl hrt
  have hHB := HB_0.out.alloc HB_0.out.size (.cells #[.int .i64 f, .int .i64 e, .slice sa sn sc, .slice la ln lc, .slice ta tn tc] 62)
  have hRS := RS_0.out.later (balloc w (.cells #[.int .i64 f, .int .i64 e, .slice sa sn sc, .slice la ln lc, .slice ta tn tc] 62))
  have hRL := RL_0.out.later (balloc w (.cells #[.int .i64 f, .int .i64 e, .slice sa sn sc, .slice la ln lc, .slice ta tn tc] 62))
  have hRT := RT_0.out.later (balloc w (.cells #[.int .i64 f, .int .i64 e, .slice sa sn sc, .slice la ln lc, .slice ta tn tc] 62))
  have hA := x5_new w (.int .i64 f) (.int .i64 e) (.slice sa sn sc) (.slice la ln lc) (.slice ta tn tc) 62 w.heap.size rfl
  have hz : (w.alloc (.cells #[.int .i64 f, .int .i64 e, .slice sa sn sc, .slice la ln lc, .slice ta tn tc] 62)).heap.size = w.heap.size + 1 := by simp
  obtain ⟨w1, hV1⟩ : ∃ V, w.alloc (.cells #[.int .i64 f, .int .i64 e, .slice sa sn sc, .slice la ln lc, .slice ta tn tc] 62) = V := ⟨_, rfl⟩
  rw [hV1] at hHB hRS hRL hRT hA hz
  have HB_1 : Hid (Below w.heap.size w w1) := hHB
  have RS_1 : Hid (RdII w1 sa sg) := hRS
  have RL_1 : Hid (Rd w1 la li) := hRL
  have RT_1 : Hid (Rd w1 ta ls) := hRT
  have A_1 : Hid (X5 w1 w.heap.size (.int .i64 f) (.int .i64 e) (.slice sa sn sc) (.slice la ln lc) (.slice ta tn tc)) := hA
  have z1 : w.heap.size + 1 ≤ w1.heap.size := by omega
  clear HB_0 RS_0 RL_0 RT_0 hHB hRS hRL hRT hA hz
  have hHB := HB_1.out.alloc HB_1.out.size (.cells #[.int .i64 k, .int .i64 m, .int .i64 l] 66)
  have hRS := RS_1.out.later (balloc w1 (.cells #[.int .i64 k, .int .i64 m, .int .i64 l] 66))
  have hRL := RL_1.out.later (balloc w1 (.cells #[.int .i64 k, .int .i64 m, .int .i64 l] 66))
  have hRT := RT_1.out.later (balloc w1 (.cells #[.int .i64 k, .int .i64 m, .int .i64 l] 66))
  have hA := A_1.out.later (balloc w1 (.cells #[.int .i64 k, .int .i64 m, .int .i64 l] 66))
  have hT := x3_new w1 (.int .i64 k) (.int .i64 m) (.int .i64 l) 66 w1.heap.size rfl
  have hz : (w1.alloc (.cells #[.int .i64 k, .int .i64 m, .int .i64 l] 66)).heap.size = w1.heap.size + 1 := by simp
  obtain ⟨w2, hV2⟩ : ∃ V, w1.alloc (.cells #[.int .i64 k, .int .i64 m, .int .i64 l] 66) = V := ⟨_, rfl⟩
  rw [hV2] at hHB hRS hRL hRT hA hT hz
  have HB_2 : Hid (Below w.heap.size w w2) := hHB
  have RS_2 : Hid (RdII w2 sa sg) := hRS
  have RL_2 : Hid (Rd w2 la li) := hRL
  have RT_2 : Hid (Rd w2 ta ls) := hRT
  have A_2 : Hid (X5 w2 w.heap.size (.int .i64 f) (.int .i64 e) (.slice sa sn sc) (.slice la ln lc) (.slice ta tn tc)) := hA
  have T_2 : Hid (X3 w2 w1.heap.size (.int .i64 k) (.int .i64 m) (.int .i64 l)) := hT
  have z2 : w1.heap.size + 1 ≤ w2.heap.size := by omega
  clear HB_1 RS_1 RL_1 RT_1 A_1 hHB hRS hRL hRT hA hT hz
  go_enter Try.func7, Try.ntmps7
  obtain ⟨⟨Aq0, Aq1, Aq2, Aq3, Aq4⟩, Af⟩ := id (A_2.out)
  clear Af
  go_wp2_with fail
  clear hV1 hV2
  refine (szBoard_c f e sa sn sc la ln lc ta tn tc sg _ HS.out hsn0 hln0 htn0 RS_2.out HSL0.out).mono ?_
  clear Aq0 Aq1 Aq2 Aq3 Aq4
  rintro x w3 ⟨r, rfl, hr2, hb⟩
  have hB : Below w2.heap.size w2 w3 := hb
  have HB_3 : Hid (Below w.heap.size w w3) := HB_2.out.trans (hB.mono HB_2.out.size)
  have RS_3 : Hid (RdII w3 sa sg) := RS_2.out.later hB
  have RL_3 : Hid (Rd w3 la li) := RL_2.out.later hB
  have RT_3 : Hid (Rd w3 ta ls) := RT_2.out.later hB
  have A_3 : Hid (X5 w3 w.heap.size (.int .i64 f) (.int .i64 e) (.slice sa sn sc) (.slice la ln lc) (.slice ta tn tc)) := A_2.out.later hB
  have T_3 : Hid (X3 w3 w1.heap.size (.int .i64 k) (.int .i64 m) (.int .i64 l)) := T_2.out.later hB
  have z3 : w2.heap.size ≤ w3.heap.size := hB.size
  clear hb hB HB_2 RS_2 RL_2 RT_2 A_2 T_2
  by_cases hr0 : r < 0
  · clear hr2
    go_wp2
    go_ret
    exact ⟨rfl, HB_3.out⟩
  obtain ⟨hsn, hln, htn, hsl⟩ := hr2 (by omega)
  have HSL : Hid (∀ l ∈ sg, l.length ≤ 1048576) := hsl
  have hrn : ¬ r < 0 := hr0
  clear hsl hr0
  have HSM : Hid (SmallBd ⟨f, e, sg, li, ls⟩) := (⟨by show sg.length ≤ _; rw [HS.out]; exact hsn, by show li.length ≤ _; rw [HL.out]; exact hln, by show ls.length ≤ _; rw [HT.out]; exact htn, HSL.out⟩ : SmallBd ⟨f, e, sg, li, ls⟩)
  obtain ⟨⟨Aq0, Aq1, Aq2, Aq3, Aq4⟩, Af⟩ := id (A_3.out)
  clear Af
  obtain ⟨⟨Tq0, Tq1, Tq2⟩, Tf⟩ := id (T_3.out)
  clear Tf
  go_upto_region 5 with fail
  clear Aq0 Aq1 Aq2 Aq3 Aq4
  clear Tq0 Tq1 Tq2
  refine wp_mono (sbReg5_w _ _ _ _ _ _ _ _ _ _ _ _ _ _ _ _ _ _ _ _ _ _ _ _ _ _ _ _ _ _ _ _ _ _ _ _ _ _ _ _ _ _ _ _ _ _ _ _ _ _ _ _ _ _ _ _ _ _ _ _ _ _ _ _ _ _ _ _ _ _ _ _ _ _ _ _ _ _ _ _ _ _ _ _ _ _ _ _ _ _ _ _ _ _ _ _ _ _ _ _ _ _ w.heap.size w1.heap.size f e sa sn sc la ln lc ta tn tc sg li ls k m l nf ne ns nl nt nb fb  _ w3 A_3.out T_3.out HS.out hsn HL.out hln HT.out htn RS_3.out RL_3.out RT_3.out HSL.out (HQS.out hsn hln htn) (fun sa9 sc9 la9 lc9 ta9 tc9 sa1 sc1 la1 lc1 ta1 tc1 gW loW hiW w4 h8 ho hd1 hd2 hd3 hd5 hd4 hbb => ?_)) (fun e a w h => by cases e <;> first | exact h | exact h.elim)
  have HB_4 : Hid (Below w.heap.size w w4) := HB_3.out.trans (hbb.mono HB_3.out.size)
  have RS_4 : Hid (RdII w4 sa sg) := RS_3.out.later hbb
  have RL_4 : Hid (Rd w4 la li) := RL_3.out.later hbb
  have RT_4 : Hid (Rd w4 ta ls) := RT_3.out.later hbb
  have A_4 : Hid (X5 w4 w.heap.size (.int .i64 f) (.int .i64 e) (.slice sa sn sc) (.slice la ln lc) (.slice ta tn tc)) := A_3.out.later hbb
  have T_4 : Hid (X3 w4 w1.heap.size (.int .i64 k) (.int .i64 m) (.int .i64 l)) := T_3.out.later hbb
  have z4 : w3.heap.size ≤ w4.heap.size := hbb.size
  have D_W : Hid (gW < loW ∨ hiW ≤ gW) := hd1
  have da_W : w3.heap.size ≤ gW := hd2
  have db_W : w3.heap.size ≤ loW := hd3
  have dc_W : hiW ≤ w4.heap.size := hd4
  have dd_W : gW < w4.heap.size := h8.lt
  have de_W : loW ≤ hiW := hd5
  have W_4 : Hid (X5 w4 gW (.int .i64 nf) (.int .i64 ne) (.slice sa1 ns sc1) (.slice la1 nl lc1) (.slice ta1 nt tc1)) := h8
  have WB_4 : Hid (OwnBd w4 loW hiW (.slice sa1 ns sc1) (.slice la1 nl lc1) (.slice ta1 nt tc1) nb) := ho
  clear h8 ho hd1 hd2 hd3 hd4 hd5 hbb HB_3 RS_3 RL_3 RT_3 A_3 T_3
  obtain ⟨⟨Aq0, Aq1, Aq2, Aq3, Aq4⟩, Af⟩ := id (A_4.out)
  clear Af
  go_wp2_with fail
  refine (toBoard_c f e sa sn sc la ln lc ta tn tc sg li ls _ HS.out hsn HL.out hln HT.out htn RS_4.out RL_4.out RT_4.out HSL.out).mono ?_
  clear Aq0 Aq1 Aq2 Aq3 Aq4
  rintro e w5 ⟨sa2, sc2, la2, lc2, ta2, tc2, rfl, ho, hb⟩
  have hB : Below w4.heap.size w4 w5 := hb
  have HB_5 : Hid (Below w.heap.size w w5) := HB_4.out.trans (hB.mono HB_4.out.size)
  have RS_5 : Hid (RdII w5 sa sg) := RS_4.out.later hB
  have RL_5 : Hid (Rd w5 la li) := RL_4.out.later hB
  have RT_5 : Hid (Rd w5 ta ls) := RT_4.out.later hB
  have A_5 : Hid (X5 w5 w.heap.size (.int .i64 f) (.int .i64 e) (.slice sa sn sc) (.slice la ln lc) (.slice ta tn tc)) := A_4.out.later hB
  have T_5 : Hid (X3 w5 w1.heap.size (.int .i64 k) (.int .i64 m) (.int .i64 l)) := T_4.out.later hB
  have W_5 : Hid (X5 w5 gW (.int .i64 nf) (.int .i64 ne) (.slice sa1 ns sc1) (.slice la1 nl lc1) (.slice ta1 nt tc1)) := W_4.out.later hB
  have WB_5 : Hid (OwnBd w5 loW hiW (.slice sa1 ns sc1) (.slice la1 nl lc1) (.slice ta1 nt tc1) nb) := WB_4.out.later hB
  have z5 : w4.heap.size ≤ w5.heap.size := hB.size
  have B2_5 : Hid (OwnBd w5 w4.heap.size w5.heap.size (.slice sa2 sn sc2) (.slice la2 ln lc2) (.slice ta2 tn tc2) ⟨f, e, sg, li, ls⟩) := ho
  clear hb hB HB_4 RS_4 RL_4 RT_4 A_4 T_4 W_4 WB_4 ho
  have hHB := HB_5.out.alloc HB_5.out.size (.cells #[.int .i64 f, .int .i64 e, .slice sa2 sn sc2, .slice la2 ln lc2, .slice ta2 tn tc2] 29)
  have hRS := RS_5.out.later (balloc w5 (.cells #[.int .i64 f, .int .i64 e, .slice sa2 sn sc2, .slice la2 ln lc2, .slice ta2 tn tc2] 29))
  have hRL := RL_5.out.later (balloc w5 (.cells #[.int .i64 f, .int .i64 e, .slice sa2 sn sc2, .slice la2 ln lc2, .slice ta2 tn tc2] 29))
  have hRT := RT_5.out.later (balloc w5 (.cells #[.int .i64 f, .int .i64 e, .slice sa2 sn sc2, .slice la2 ln lc2, .slice ta2 tn tc2] 29))
  have hA := A_5.out.later (balloc w5 (.cells #[.int .i64 f, .int .i64 e, .slice sa2 sn sc2, .slice la2 ln lc2, .slice ta2 tn tc2] 29))
  have hT := T_5.out.later (balloc w5 (.cells #[.int .i64 f, .int .i64 e, .slice sa2 sn sc2, .slice la2 ln lc2, .slice ta2 tn tc2] 29))
  have hW := W_5.out.later (balloc w5 (.cells #[.int .i64 f, .int .i64 e, .slice sa2 sn sc2, .slice la2 ln lc2, .slice ta2 tn tc2] 29))
  have hWB := WB_5.out.later (balloc w5 (.cells #[.int .i64 f, .int .i64 e, .slice sa2 sn sc2, .slice la2 ln lc2, .slice ta2 tn tc2] 29))
  have hB2 := B2_5.out.later (balloc w5 (.cells #[.int .i64 f, .int .i64 e, .slice sa2 sn sc2, .slice la2 ln lc2, .slice ta2 tn tc2] 29))
  have hY := x5_new w5 (.int .i64 f) (.int .i64 e) (.slice sa2 sn sc2) (.slice la2 ln lc2) (.slice ta2 tn tc2) 29 w5.heap.size rfl
  have hz : (w5.alloc (.cells #[.int .i64 f, .int .i64 e, .slice sa2 sn sc2, .slice la2 ln lc2, .slice ta2 tn tc2] 29)).heap.size = w5.heap.size + 1 := by simp
  obtain ⟨w6, hV6⟩ : ∃ V, w5.alloc (.cells #[.int .i64 f, .int .i64 e, .slice sa2 sn sc2, .slice la2 ln lc2, .slice ta2 tn tc2] 29) = V := ⟨_, rfl⟩
  rw [hV6] at hHB hRS hRL hRT hA hT hW hWB hB2 hY hz
  have HB_6 : Hid (Below w.heap.size w w6) := hHB
  have RS_6 : Hid (RdII w6 sa sg) := hRS
  have RL_6 : Hid (Rd w6 la li) := hRL
  have RT_6 : Hid (Rd w6 ta ls) := hRT
  have A_6 : Hid (X5 w6 w.heap.size (.int .i64 f) (.int .i64 e) (.slice sa sn sc) (.slice la ln lc) (.slice ta tn tc)) := hA
  have T_6 : Hid (X3 w6 w1.heap.size (.int .i64 k) (.int .i64 m) (.int .i64 l)) := hT
  have W_6 : Hid (X5 w6 gW (.int .i64 nf) (.int .i64 ne) (.slice sa1 ns sc1) (.slice la1 nl lc1) (.slice ta1 nt tc1)) := hW
  have WB_6 : Hid (OwnBd w6 loW hiW (.slice sa1 ns sc1) (.slice la1 nl lc1) (.slice ta1 nt tc1) nb) := hWB
  have B2_6 : Hid (OwnBd w6 w4.heap.size w5.heap.size (.slice sa2 sn sc2) (.slice la2 ln lc2) (.slice ta2 tn tc2) ⟨f, e, sg, li, ls⟩) := hB2
  have Y_6 : Hid (X5 w6 w5.heap.size (.int .i64 f) (.int .i64 e) (.slice sa2 sn sc2) (.slice la2 ln lc2) (.slice ta2 tn tc2)) := hY
  have z6 : w5.heap.size + 1 ≤ w6.heap.size := by omega
  clear HB_5 RS_5 RL_5 RT_5 A_5 T_5 W_5 WB_5 B2_5 hHB hRS hRL hRT hA hT hW hWB hB2 hY hz
  obtain ⟨⟨Yq0, Yq1, Yq2, Yq3, Yq4⟩, Yf⟩ := id (Y_6.out)
  clear Yf
  obtain ⟨⟨Tq0, Tq1, Tq2⟩, Tf⟩ := id (T_6.out)
  clear Tf
  go_upto_region 7 with fail
  clear hV6
  clear Yq0 Yq1 Yq2 Yq3 Yq4
  clear Tq0 Tq1 Tq2
  refine wp_mono (sbReg7_w _ _ _ _ _ _ _ _ _ _ _ _ _ _ _ _ _ _ _ _ _ _ _ _ _ _ _ _ _ _ _ _ _ _ _ _ _ _ _ _ _ _ _ _ _ _ _ _ _ _ _ _ _ _ _ _ _ _ _ _ _ _ _ _ _ _ _ _ _ _ _ _ _ _ _ _ _ _ _ _ _ _ _ _ _ _ _ _ _ _ _ _ _ _ _ _ _ _ _ _ _ _ w5.heap.size w1.heap.size f e sa sn sc la ln lc ta tn tc sg li ls k m l nf ne ns nl nt nb fb sa2 sc2 la2 lc2 ta2 tc2 _ w6 Y_6.out T_6.out B2_6.out.read (HQI.out hsn hln htn) (fun  sa3 sc3 la3 lc3 ta3 tc3 gG loG hiG w7 h8 ho hd1 hd2 hd3 hd5 hd4 hbb => ?_)) (fun e a w h => by cases e <;> first | exact h | exact h.elim)
  have HB_7 : Hid (Below w.heap.size w w7) := HB_6.out.trans (hbb.mono HB_6.out.size)
  have RS_7 : Hid (RdII w7 sa sg) := RS_6.out.later hbb
  have RL_7 : Hid (Rd w7 la li) := RL_6.out.later hbb
  have RT_7 : Hid (Rd w7 ta ls) := RT_6.out.later hbb
  have A_7 : Hid (X5 w7 w.heap.size (.int .i64 f) (.int .i64 e) (.slice sa sn sc) (.slice la ln lc) (.slice ta tn tc)) := A_6.out.later hbb
  have T_7 : Hid (X3 w7 w1.heap.size (.int .i64 k) (.int .i64 m) (.int .i64 l)) := T_6.out.later hbb
  have W_7 : Hid (X5 w7 gW (.int .i64 nf) (.int .i64 ne) (.slice sa1 ns sc1) (.slice la1 nl lc1) (.slice ta1 nt tc1)) := W_6.out.later hbb
  have WB_7 : Hid (OwnBd w7 loW hiW (.slice sa1 ns sc1) (.slice la1 nl lc1) (.slice ta1 nt tc1) nb) := WB_6.out.later hbb
  have B2_7 : Hid (OwnBd w7 w4.heap.size w5.heap.size (.slice sa2 sn sc2) (.slice la2 ln lc2) (.slice ta2 tn tc2) ⟨f, e, sg, li, ls⟩) := B2_6.out.later hbb
  have Y_7 : Hid (X5 w7 w5.heap.size (.int .i64 f) (.int .i64 e) (.slice sa2 sn sc2) (.slice la2 ln lc2) (.slice ta2 tn tc2)) := Y_6.out.later hbb
  have z7 : w6.heap.size ≤ w7.heap.size := hbb.size
  have D_G : Hid (gG < loG ∨ hiG ≤ gG) := hd1
  have da_G : w6.heap.size ≤ gG := hd2
  have db_G : w6.heap.size ≤ loG := hd3
  have dc_G : hiG ≤ w7.heap.size := hd4
  have dd_G : gG < w7.heap.size := h8.lt
  have de_G : loG ≤ hiG := hd5
  have G_7 : Hid (X5 w7 gG (.int .i64 nf) (.int .i64 ne) (.slice sa3 ns sc3) (.slice la3 nl lc3) (.slice ta3 nt tc3)) := h8
  have GB_7 : Hid (OwnBd w7 loG hiG (.slice sa3 ns sc3) (.slice la3 nl lc3) (.slice ta3 nt tc3) nb) := ho
  clear h8 ho hd1 hd2 hd3 hd4 hd5 hbb HB_6 RS_6 RL_6 RT_6 A_6 T_6 W_6 WB_6 B2_6 Y_6
  obtain ⟨⟨Gq0, Gq1, Gq2, Gq3, Gq4⟩, Gf⟩ := id (G_7.out)
  clear Gf
  obtain ⟨⟨Wq0, Wq1, Wq2, Wq3, Wq4⟩, Wf⟩ := id (W_7.out)
  clear Wf
  go_wp2_with fail
  refine (eqBoard_c nf ne sa3 ns sc3 la3 nl lc3 ta3 nt tc3 sa1 sc1 la1 lc1 ta1 tc1 nb _ HSN.out GB_7.out.rd WB_7.out.rd).mono ?_
  clear Gq0 Gq1 Gq2 Gq3 Gq4
  clear Wq0 Wq1 Wq2 Wq3 Wq4
  rintro e w8 ⟨rfl, hb⟩
  have hB : Below w7.heap.size w7 w8 := hb
  have HB_8 : Hid (Below w.heap.size w w8) := HB_7.out.trans (hB.mono HB_7.out.size)
  have RS_8 : Hid (RdII w8 sa sg) := RS_7.out.later hB
  have RL_8 : Hid (Rd w8 la li) := RL_7.out.later hB
  have RT_8 : Hid (Rd w8 ta ls) := RT_7.out.later hB
  have A_8 : Hid (X5 w8 w.heap.size (.int .i64 f) (.int .i64 e) (.slice sa sn sc) (.slice la ln lc) (.slice ta tn tc)) := A_7.out.later hB
  have T_8 : Hid (X3 w8 w1.heap.size (.int .i64 k) (.int .i64 m) (.int .i64 l)) := T_7.out.later hB
  have W_8 : Hid (X5 w8 gW (.int .i64 nf) (.int .i64 ne) (.slice sa1 ns sc1) (.slice la1 nl lc1) (.slice ta1 nt tc1)) := W_7.out.later hB
  have WB_8 : Hid (OwnBd w8 loW hiW (.slice sa1 ns sc1) (.slice la1 nl lc1) (.slice ta1 nt tc1) nb) := WB_7.out.later hB
  have B2_8 : Hid (OwnBd w8 w4.heap.size w5.heap.size (.slice sa2 sn sc2) (.slice la2 ln lc2) (.slice ta2 tn tc2) ⟨f, e, sg, li, ls⟩) := B2_7.out.later hB
  have Y_8 : Hid (X5 w8 w5.heap.size (.int .i64 f) (.int .i64 e) (.slice sa2 sn sc2) (.slice la2 ln lc2) (.slice ta2 tn tc2)) := Y_7.out.later hB
  have G_8 : Hid (X5 w8 gG (.int .i64 nf) (.int .i64 ne) (.slice sa3 ns sc3) (.slice la3 nl lc3) (.slice ta3 nt tc3)) := G_7.out.later hB
  have GB_8 : Hid (OwnBd w8 loG hiG (.slice sa3 ns sc3) (.slice la3 nl lc3) (.slice ta3 nt tc3) nb) := GB_7.out.later hB
  have z8 : w7.heap.size ≤ w8.heap.size := hB.size
  clear hb hB HB_7 RS_7 RL_7 RT_7 A_7 T_7 W_7 WB_7 B2_7 Y_7 G_7 GB_7 
  obtain ⟨⟨Aq0, Aq1, Aq2, Aq3, Aq4⟩, Af⟩ := id (A_8.out)
  clear Af
  obtain ⟨⟨Yq0, Yq1, Yq2, Yq3, Yq4⟩, Yf⟩ := id (Y_8.out)
  clear Yf
  go_wp2_with fail
  refine wp_region_held_drew (S := (fun X => (X.cell? ⟨w5.heap.size, 0, none⟩ = some (.int .i64 f) ∧ X.cell? ⟨w5.heap.size, 1, none⟩ = some (.int .i64 e) ∧ X.cell? ⟨w5.heap.size, 2, none⟩ = some (.slice sa2 sn sc2) ∧ X.cell? ⟨w5.heap.size, 3, none⟩ = some (.slice la2 ln lc2) ∧ X.cell? ⟨w5.heap.size, 4, none⟩ = some (.slice ta2 tn tc2)) ∧ (X.cell? ⟨w.heap.size, 0, none⟩ = some (.int .i64 f) ∧ X.cell? ⟨w.heap.size, 1, none⟩ = some (.int .i64 e) ∧ X.cell? ⟨w.heap.size, 2, none⟩ = some (.slice sa sn sc) ∧ X.cell? ⟨w.heap.size, 3, none⟩ = some (.slice la ln lc) ∧ X.cell? ⟨w.heap.size, 4, none⟩ = some (.slice ta tn tc)))) (by kernel_rfl) ?_ (fun hHeld => ?_)
  · exact ⟨(Y_8.out.later (Below.refl _ _).drew).1, (A_8.out.later (Below.refl _ _).drew).1⟩
  clear Aq0 Aq1 Aq2 Aq3 Aq4
  clear Yq0 Yq1 Yq2 Yq3 Yq4
  obtain ⟨D0, hD0⟩ : ∃ D, w8.drew = D := ⟨_, rfl⟩
  have hb0 : Below w8.heap.size w8 D0 := by rw [← hD0]; exact (Below.refl _ _).drew
  rw [hD0] at hHeld ⊢
  have HD0 : Hid (Below w8.heap.size w8 D0) := hb0
  clear hb0 hD0
  refine takeV13 (i := 0) (oi := _) (v := ?_) (d := some 47) rfl (by kernel_rfl) (by kernel_rfl) (by kernel_rfl) (by kernel_rfl) (fun _ _ _ h => h) (Or.inl ⟨by rfl, ?_⟩) (by assumption) ?_
  rotate_left
  · (intro w hSw; (try dsimp only at hSw); go_simp <;> with_reducible rfl)
  try simp only [Act.put, List.setIfInBounds_toArray, List.set_cons_zero, List.set_cons_succ]
  refine takeV13 (i := 1) (oi := _) (v := ?_) (d := some 48) rfl (by kernel_rfl) (by kernel_rfl) (by kernel_rfl) (by kernel_rfl) (fun _ _ _ h => h) (Or.inl ⟨by rfl, ?_⟩) (by assumption) ?_
  rotate_left
  · (intro w hSw; (try dsimp only at hSw); go_simp <;> with_reducible rfl)
  try simp only [Act.put, List.setIfInBounds_toArray, List.set_cons_zero, List.set_cons_succ]
  refine wpAnyH_ready (rs := [2]) (by kernel_rfl) (by simp) ?_
  refine AllReadyH.cons (o := _) rfl (fun K hK => ?_) AllReadyH.nil
  go_simp
  refine (toBoard_c f e sa sn sc la ln lc ta tn tc sg li ls _ HS.out hsn HL.out hln HT.out htn (RS_8.out.later HD0.out) (RL_8.out.later HD0.out) (RT_8.out.later HD0.out) HSL.out).mono ?_
  rintro x D1 ⟨sa4, sc4, la4, lc4, ta4, tc4, rfl, ho, hb⟩
  have HD1 : Hid (Below w8.heap.size w8 D1) := HD0.out.trans (hb.mono HD0.out.size)
  have HN1 : Hid (RdBd D1 sa4 sn sc4 la4 ln lc4 ta4 tn tc4 ⟨f, e, sg, li, ls⟩) := ho.rd
  clear ho hb HD0
  refine hK.out _ _ ?_ (fun hHeld => ?_)
  · exact ⟨(Y_8.out.later HD1.out).1, (A_8.out.later HD1.out).1⟩
  clear hK K
  try simp only [Act.put, List.setIfInBounds_toArray, List.set_cons_zero, List.set_cons_succ]
  refine wpAnyH_ready (rs := [3]) (by kernel_rfl) (by simp) ?_
  refine AllReadyH.cons (o := _) rfl (fun K hK => ?_) AllReadyH.nil
  go_simp
  refine (eqBoard_c f e sa2 sn sc2 la2 ln lc2 ta2 tn tc2 sa4 sc4 la4 lc4 ta4 tc4 ⟨f, e, sg, li, ls⟩ _ HSM.out (B2_8.out.later HD1.out).rd HN1.out).mono ?_
  rintro x w10 ⟨rfl, hb⟩
  have HD2 : Hid (Below w8.heap.size w8 w10) := HD1.out.trans (hb.mono HD1.out.size)
  clear hb HD1 HN1
  refine hK.out _ _ ?_ (fun hHeld => ?_)
  · exact ⟨(Y_8.out.later HD2.out).1, (A_8.out.later HD2.out).1⟩
  clear hK K
  try simp only [Act.put, List.setIfInBounds_toArray, List.set_cons_zero, List.set_cons_succ]
  refine takeV13 (i := 4) (oi := _) (v := ?_) (d := some 51) rfl (by kernel_rfl) (by kernel_rfl) (by kernel_rfl) (by kernel_rfl) (fun _ _ _ h => h) (Or.inl ⟨by rfl, ?_⟩) (by assumption) ?_
  rotate_left
  · (intro w hSw; (try dsimp only at hSw); go_simp <;> with_reducible rfl)
  try simp only [Act.put, List.setIfInBounds_toArray, List.set_cons_zero, List.set_cons_succ]
  refine wpAnyH_done (by kernel_rfl) ?_ _
  clear hHeld
  have HB_10 : Hid (Below w.heap.size w w10) := HB_8.out.trans (HD2.out.mono HB_8.out.size)
  have RS_10 : Hid (RdII w10 sa sg) := RS_8.out.later HD2.out
  have RL_10 : Hid (Rd w10 la li) := RL_8.out.later HD2.out
  have RT_10 : Hid (Rd w10 ta ls) := RT_8.out.later HD2.out
  have A_10 : Hid (X5 w10 w.heap.size (.int .i64 f) (.int .i64 e) (.slice sa sn sc) (.slice la ln lc) (.slice ta tn tc)) := A_8.out.later HD2.out
  have T_10 : Hid (X3 w10 w1.heap.size (.int .i64 k) (.int .i64 m) (.int .i64 l)) := T_8.out.later HD2.out
  have W_10 : Hid (X5 w10 gW (.int .i64 nf) (.int .i64 ne) (.slice sa1 ns sc1) (.slice la1 nl lc1) (.slice ta1 nt tc1)) := W_8.out.later HD2.out
  have WB_10 : Hid (OwnBd w10 loW hiW (.slice sa1 ns sc1) (.slice la1 nl lc1) (.slice ta1 nt tc1) nb) := WB_8.out.later HD2.out
  have B2_10 : Hid (OwnBd w10 w4.heap.size w5.heap.size (.slice sa2 sn sc2) (.slice la2 ln lc2) (.slice ta2 tn tc2) ⟨f, e, sg, li, ls⟩) := B2_8.out.later HD2.out
  have Y_10 : Hid (X5 w10 w5.heap.size (.int .i64 f) (.int .i64 e) (.slice sa2 sn sc2) (.slice la2 ln lc2) (.slice ta2 tn tc2)) := Y_8.out.later HD2.out
  have G_10 : Hid (X5 w10 gG (.int .i64 nf) (.int .i64 ne) (.slice sa3 ns sc3) (.slice la3 nl lc3) (.slice ta3 nt tc3)) := G_8.out.later HD2.out
  have GB_10 : Hid (OwnBd w10 loG hiG (.slice sa3 ns sc3) (.slice la3 nl lc3) (.slice ta3 nt tc3) nb) := GB_8.out.later HD2.out
  have z10 : w8.heap.size ≤ w10.heap.size := HD2.out.size
  clear HD2 HB_8 RS_8 RL_8 RT_8 A_8 T_8 W_8 WB_8 B2_8 Y_8 G_8 GB_8
  obtain ⟨⟨Yq0, Yq1, Yq2, Yq3, Yq4⟩, Yf⟩ := id (Y_10.out)
  clear Yf
  go_wp2_with fail
  refine (markBoard_c f e sa2 sn sc2 la2 ln lc2 ta2 tn tc2 w4.heap.size w5.heap.size ⟨f, e, sg, li, ls⟩ _ HSM.out (by omega) B2_10.out).mono ?_
  rw [HNA.out]
  clear Yq0 Yq1 Yq2 Yq3 Yq4
  rintro x w11 ⟨rfl, ho, hr⟩
  have z11 : w10.heap.size ≤ w11.heap.size := hr.size
  have HB_11 : Hid (Below w.heap.size w w11) := HB_10.out.trans (hr.below (fun k h => by have := HB_10.out.size; have h9 := h; have h8 := D_W.out; have h7 := D_G.out; omega) HB_10.out.size)
  have A_11 : Hid (X5 w11 w.heap.size (.int .i64 f) (.int .i64 e) (.slice sa sn sc) (.slice la ln lc) (.slice ta tn tc)) := A_10.out.rngP hr (fun h => by have h9 := h; have h8 := D_W.out; have h7 := D_G.out; omega)
  have T_11 : Hid (X3 w11 w1.heap.size (.int .i64 k) (.int .i64 m) (.int .i64 l)) := T_10.out.rngP hr (fun h => by have h9 := h; have h8 := D_W.out; have h7 := D_G.out; omega)
  have W_11 : Hid (X5 w11 gW (.int .i64 nf) (.int .i64 ne) (.slice sa1 ns sc1) (.slice la1 nl lc1) (.slice ta1 nt tc1)) := W_10.out.rngP hr (fun h => by have h9 := h; have h8 := D_W.out; have h7 := D_G.out; omega)
  have WB_11 : Hid (OwnBd w11 loW hiW (.slice sa1 ns sc1) (.slice la1 nl lc1) (.slice ta1 nt tc1) nb) := WB_10.out.rng hr (fun k1 h1 h2 h => by have h9 := h; have h8 := D_W.out; have h7 := D_G.out; omega)
  have Y_11 : Hid (X5 w11 w5.heap.size (.int .i64 f) (.int .i64 e) (.slice sa2 sn sc2) (.slice la2 ln lc2) (.slice ta2 tn tc2)) := Y_10.out.rngP hr (fun h => by have h9 := h; have h8 := D_W.out; have h7 := D_G.out; omega)
  have G_11 : Hid (X5 w11 gG (.int .i64 nf) (.int .i64 ne) (.slice sa3 ns sc3) (.slice la3 nl lc3) (.slice ta3 nt tc3)) := G_10.out.rngP hr (fun h => by have h9 := h; have h8 := D_W.out; have h7 := D_G.out; omega)
  have GB_11 : Hid (OwnBd w11 loG hiG (.slice sa3 ns sc3) (.slice la3 nl lc3) (.slice ta3 nt tc3) nb) := GB_10.out.rng hr (fun k1 h1 h2 h => by have h9 := h; have h8 := D_W.out; have h7 := D_G.out; omega)
  have RS_11 : Hid (RdII w11 sa sg) := HR0RS.out _ HB_11.out
  have RL_11 : Hid (Rd w11 la li) := HR0RL.out _ HB_11.out
  have RT_11 : Hid (Rd w11 ta ls) := HR0RT.out _ HB_11.out
  clear ho hr HB_10 RS_10 RL_10 RT_10 A_10 T_10 W_10 WB_10 B2_10 Y_10 G_10 GB_10
  obtain ⟨⟨Gq0, Gq1, Gq2, Gq3, Gq4⟩, Gf⟩ := id (G_11.out)
  clear Gf
  obtain ⟨⟨Wq0, Wq1, Wq2, Wq3, Wq4⟩, Wf⟩ := id (W_11.out)
  clear Wf
  go_wp2_with fail
  refine (eqBoard_c nf ne sa3 ns sc3 la3 nl lc3 ta3 nt tc3 sa1 sc1 la1 lc1 ta1 tc1 nb _ HSN.out GB_11.out.rd WB_11.out.rd).mono ?_
  clear Gq0 Gq1 Gq2 Gq3 Gq4
  clear Wq0 Wq1 Wq2 Wq3 Wq4
  rintro e w12 ⟨rfl, hb⟩
  have hB : Below w11.heap.size w11 w12 := hb
  have HB_12 : Hid (Below w.heap.size w w12) := HB_11.out.trans (hB.mono HB_11.out.size)
  have RS_12 : Hid (RdII w12 sa sg) := RS_11.out.later hB
  have RL_12 : Hid (Rd w12 la li) := RL_11.out.later hB
  have RT_12 : Hid (Rd w12 ta ls) := RT_11.out.later hB
  have A_12 : Hid (X5 w12 w.heap.size (.int .i64 f) (.int .i64 e) (.slice sa sn sc) (.slice la ln lc) (.slice ta tn tc)) := A_11.out.later hB
  have T_12 : Hid (X3 w12 w1.heap.size (.int .i64 k) (.int .i64 m) (.int .i64 l)) := T_11.out.later hB
  have W_12 : Hid (X5 w12 gW (.int .i64 nf) (.int .i64 ne) (.slice sa1 ns sc1) (.slice la1 nl lc1) (.slice ta1 nt tc1)) := W_11.out.later hB
  have WB_12 : Hid (OwnBd w12 loW hiW (.slice sa1 ns sc1) (.slice la1 nl lc1) (.slice ta1 nt tc1) nb) := WB_11.out.later hB
  have Y_12 : Hid (X5 w12 w5.heap.size (.int .i64 f) (.int .i64 e) (.slice sa2 sn sc2) (.slice la2 ln lc2) (.slice ta2 tn tc2)) := Y_11.out.later hB
  have G_12 : Hid (X5 w12 gG (.int .i64 nf) (.int .i64 ne) (.slice sa3 ns sc3) (.slice la3 nl lc3) (.slice ta3 nt tc3)) := G_11.out.later hB
  have GB_12 : Hid (OwnBd w12 loG hiG (.slice sa3 ns sc3) (.slice la3 nl lc3) (.slice ta3 nt tc3) nb) := GB_11.out.later hB
  have z12 : w11.heap.size ≤ w12.heap.size := hB.size
  clear hb hB HB_11 RS_11 RL_11 RT_11 A_11 T_11 W_11 WB_11 Y_11 G_11 GB_11 
  obtain ⟨⟨Gq0, Gq1, Gq2, Gq3, Gq4⟩, Gf⟩ := id (G_12.out)
  clear Gf
  go_wp2_with fail
  refine (markBoard_c nf ne sa3 ns sc3 la3 nl lc3 ta3 nt tc3 loG hiG nb _ HSN.out (by omega) GB_12.out).mono ?_
  rw [HNN.out]
  clear Gq0 Gq1 Gq2 Gq3 Gq4
  rintro x w13 ⟨rfl, ho, hr⟩
  have z13 : w12.heap.size ≤ w13.heap.size := hr.size
  have HB_13 : Hid (Below w.heap.size w w13) := HB_12.out.trans (hr.below (fun k h => by have := HB_12.out.size; have h9 := h; have h8 := D_G.out; omega) HB_12.out.size)
  have A_13 : Hid (X5 w13 w.heap.size (.int .i64 f) (.int .i64 e) (.slice sa sn sc) (.slice la ln lc) (.slice ta tn tc)) := A_12.out.rngP hr (fun h => by have h9 := h; have h8 := D_G.out; omega)
  have T_13 : Hid (X3 w13 w1.heap.size (.int .i64 k) (.int .i64 m) (.int .i64 l)) := T_12.out.rngP hr (fun h => by have h9 := h; have h8 := D_G.out; omega)
  have W_13 : Hid (X5 w13 gW (.int .i64 nf) (.int .i64 ne) (.slice sa1 ns sc1) (.slice la1 nl lc1) (.slice ta1 nt tc1)) := W_12.out.rngP hr (fun h => by have h9 := h; have h8 := D_G.out; omega)
  have WB_13 : Hid (OwnBd w13 loW hiW (.slice sa1 ns sc1) (.slice la1 nl lc1) (.slice ta1 nt tc1) nb) := WB_12.out.rng hr (fun k1 h1 h2 h => by have h9 := h; have h8 := D_G.out; omega)
  have Y_13 : Hid (X5 w13 w5.heap.size (.int .i64 f) (.int .i64 e) (.slice sa2 sn sc2) (.slice la2 ln lc2) (.slice ta2 tn tc2)) := Y_12.out.rngP hr (fun h => by have h9 := h; have h8 := D_G.out; omega)
  have G_13 : Hid (X5 w13 gG (.int .i64 nf) (.int .i64 ne) (.slice sa3 ns sc3) (.slice la3 nl lc3) (.slice ta3 nt tc3)) := G_12.out.rngP hr (fun h => by have h9 := h; have h8 := D_G.out; omega)
  have RS_13 : Hid (RdII w13 sa sg) := HR0RS.out _ HB_13.out
  have RL_13 : Hid (Rd w13 la li) := HR0RL.out _ HB_13.out
  have RT_13 : Hid (Rd w13 ta ls) := HR0RT.out _ HB_13.out
  have GB_13 : Hid (OwnBd w13 loG hiG (.slice sa3 ns sc3) (.slice la3 nl lc3) (.slice ta3 nt tc3) (markB nb)) := ho
  clear ho hr HB_12 RS_12 RL_12 RT_12 A_12 T_12 W_12 WB_12 Y_12 G_12 GB_12
  obtain ⟨⟨Gq0, Gq1, Gq2, Gq3, Gq4⟩, Gf⟩ := id (G_13.out)
  clear Gf
  go_wp2_with fail
  refine (heldBoard_c nf ne sa3 ns sc3 la3 nl lc3 ta3 nt tc3 loG hiG nb _ HSN.out HN1.out HN2.out HN3.out GB_13.out).mono ?_
  rw [HNN.out]
  clear Gq0 Gq1 Gq2 Gq3 Gq4
  rintro e w14 ⟨rfl, hb⟩
  have hB : Below w13.heap.size w13 w14 := hb
  have HB_14 : Hid (Below w.heap.size w w14) := HB_13.out.trans (hB.mono HB_13.out.size)
  have RS_14 : Hid (RdII w14 sa sg) := RS_13.out.later hB
  have RL_14 : Hid (Rd w14 la li) := RL_13.out.later hB
  have RT_14 : Hid (Rd w14 ta ls) := RT_13.out.later hB
  have A_14 : Hid (X5 w14 w.heap.size (.int .i64 f) (.int .i64 e) (.slice sa sn sc) (.slice la ln lc) (.slice ta tn tc)) := A_13.out.later hB
  have T_14 : Hid (X3 w14 w1.heap.size (.int .i64 k) (.int .i64 m) (.int .i64 l)) := T_13.out.later hB
  have W_14 : Hid (X5 w14 gW (.int .i64 nf) (.int .i64 ne) (.slice sa1 ns sc1) (.slice la1 nl lc1) (.slice ta1 nt tc1)) := W_13.out.later hB
  have WB_14 : Hid (OwnBd w14 loW hiW (.slice sa1 ns sc1) (.slice la1 nl lc1) (.slice ta1 nt tc1) nb) := WB_13.out.later hB
  have Y_14 : Hid (X5 w14 w5.heap.size (.int .i64 f) (.int .i64 e) (.slice sa2 sn sc2) (.slice la2 ln lc2) (.slice ta2 tn tc2)) := Y_13.out.later hB
  have G_14 : Hid (X5 w14 gG (.int .i64 nf) (.int .i64 ne) (.slice sa3 ns sc3) (.slice la3 nl lc3) (.slice ta3 nt tc3)) := G_13.out.later hB
  have GB_14 : Hid (OwnBd w14 loG hiG (.slice sa3 ns sc3) (.slice la3 nl lc3) (.slice ta3 nt tc3) (markB nb)) := GB_13.out.later hB
  have z14 : w13.heap.size ≤ w14.heap.size := hB.size
  clear hb hB HB_13 RS_13 RL_13 RT_13 A_13 T_13 W_13 WB_13 Y_13 G_13 GB_13 
  obtain ⟨⟨Aq0, Aq1, Aq2, Aq3, Aq4⟩, Af⟩ := id (A_14.out)
  clear Af
  obtain ⟨⟨Tq0, Tq1, Tq2⟩, Tf⟩ := id (T_14.out)
  clear Tf
  go_upto_region 24 with fail
  clear Aq0 Aq1 Aq2 Aq3 Aq4
  clear Tq0 Tq1 Tq2
  refine wp_mono (sbReg24_w _ _ _ _ _ _ _ _ _ _ _ _ _ _ _ _ _ _ _ _ _ _ _ _ _ _ _ _ _ _ _ _ _ _ _ _ _ _ _ _ _ _ _ _ _ _ _ _ _ _ _ _ _ _ _ _ _ _ _ _ _ _ _ _ _ _ _ _ _ _ _ _ _ _ _ _ _ _ _ _ _ _ _ _ _ _ _ _ _ _ _ _ _ _ _ _ _ _ _ _ _ _ w.heap.size w1.heap.size f e sa sn sc la ln lc ta tn tc sg li ls k m l nf ne ns nl nt nb fb  _ w14 A_14.out T_14.out HS.out hsn HL.out hln HT.out htn RS_14.out RL_14.out RT_14.out HSL.out (HQI.out hsn hln htn) (fun sa8 sc8 la8 lc8 ta8 tc8 sa5 sc5 la5 lc5 ta5 tc5 gU loU hiU w15 h8 ho hd1 hd2 hd3 hd5 hd4 hbb => ?_)) (fun e a w h => by cases e <;> first | exact h | exact h.elim)
  have HB_15 : Hid (Below w.heap.size w w15) := HB_14.out.trans (hbb.mono HB_14.out.size)
  have RS_15 : Hid (RdII w15 sa sg) := RS_14.out.later hbb
  have RL_15 : Hid (Rd w15 la li) := RL_14.out.later hbb
  have RT_15 : Hid (Rd w15 ta ls) := RT_14.out.later hbb
  have A_15 : Hid (X5 w15 w.heap.size (.int .i64 f) (.int .i64 e) (.slice sa sn sc) (.slice la ln lc) (.slice ta tn tc)) := A_14.out.later hbb
  have T_15 : Hid (X3 w15 w1.heap.size (.int .i64 k) (.int .i64 m) (.int .i64 l)) := T_14.out.later hbb
  have W_15 : Hid (X5 w15 gW (.int .i64 nf) (.int .i64 ne) (.slice sa1 ns sc1) (.slice la1 nl lc1) (.slice ta1 nt tc1)) := W_14.out.later hbb
  have WB_15 : Hid (OwnBd w15 loW hiW (.slice sa1 ns sc1) (.slice la1 nl lc1) (.slice ta1 nt tc1) nb) := WB_14.out.later hbb
  have Y_15 : Hid (X5 w15 w5.heap.size (.int .i64 f) (.int .i64 e) (.slice sa2 sn sc2) (.slice la2 ln lc2) (.slice ta2 tn tc2)) := Y_14.out.later hbb
  have G_15 : Hid (X5 w15 gG (.int .i64 nf) (.int .i64 ne) (.slice sa3 ns sc3) (.slice la3 nl lc3) (.slice ta3 nt tc3)) := G_14.out.later hbb
  have GB_15 : Hid (OwnBd w15 loG hiG (.slice sa3 ns sc3) (.slice la3 nl lc3) (.slice ta3 nt tc3) (markB nb)) := GB_14.out.later hbb
  have z15 : w14.heap.size ≤ w15.heap.size := hbb.size
  have D_U : Hid (gU < loU ∨ hiU ≤ gU) := hd1
  have da_U : w14.heap.size ≤ gU := hd2
  have db_U : w14.heap.size ≤ loU := hd3
  have dc_U : hiU ≤ w15.heap.size := hd4
  have dd_U : gU < w15.heap.size := h8.lt
  have de_U : loU ≤ hiU := hd5
  have U_15 : Hid (X5 w15 gU (.int .i64 nf) (.int .i64 ne) (.slice sa5 ns sc5) (.slice la5 nl lc5) (.slice ta5 nt tc5)) := h8
  have UB_15 : Hid (OwnBd w15 loU hiU (.slice sa5 ns sc5) (.slice la5 nl lc5) (.slice ta5 nt tc5) nb) := ho
  clear h8 ho hd1 hd2 hd3 hd4 hd5 hbb HB_14 RS_14 RL_14 RT_14 A_14 T_14 W_14 WB_14 Y_14 G_14 GB_14
  obtain ⟨⟨Uq0, Uq1, Uq2, Uq3, Uq4⟩, Uf⟩ := id (U_15.out)
  clear Uf
  obtain ⟨⟨Wq0, Wq1, Wq2, Wq3, Wq4⟩, Wf⟩ := id (W_15.out)
  clear Wf
  go_wp2_with fail
  refine (eqBoard_c nf ne sa5 ns sc5 la5 nl lc5 ta5 nt tc5 sa1 sc1 la1 lc1 ta1 tc1 nb _ HSN.out UB_15.out.rd WB_15.out.rd).mono ?_
  clear Uq0 Uq1 Uq2 Uq3 Uq4
  clear Wq0 Wq1 Wq2 Wq3 Wq4
  rintro e w16 ⟨rfl, hb⟩
  have hB : Below w15.heap.size w15 w16 := hb
  have HB_16 : Hid (Below w.heap.size w w16) := HB_15.out.trans (hB.mono HB_15.out.size)
  have RS_16 : Hid (RdII w16 sa sg) := RS_15.out.later hB
  have RL_16 : Hid (Rd w16 la li) := RL_15.out.later hB
  have RT_16 : Hid (Rd w16 ta ls) := RT_15.out.later hB
  have A_16 : Hid (X5 w16 w.heap.size (.int .i64 f) (.int .i64 e) (.slice sa sn sc) (.slice la ln lc) (.slice ta tn tc)) := A_15.out.later hB
  have T_16 : Hid (X3 w16 w1.heap.size (.int .i64 k) (.int .i64 m) (.int .i64 l)) := T_15.out.later hB
  have W_16 : Hid (X5 w16 gW (.int .i64 nf) (.int .i64 ne) (.slice sa1 ns sc1) (.slice la1 nl lc1) (.slice ta1 nt tc1)) := W_15.out.later hB
  have WB_16 : Hid (OwnBd w16 loW hiW (.slice sa1 ns sc1) (.slice la1 nl lc1) (.slice ta1 nt tc1) nb) := WB_15.out.later hB
  have Y_16 : Hid (X5 w16 w5.heap.size (.int .i64 f) (.int .i64 e) (.slice sa2 sn sc2) (.slice la2 ln lc2) (.slice ta2 tn tc2)) := Y_15.out.later hB
  have G_16 : Hid (X5 w16 gG (.int .i64 nf) (.int .i64 ne) (.slice sa3 ns sc3) (.slice la3 nl lc3) (.slice ta3 nt tc3)) := G_15.out.later hB
  have GB_16 : Hid (OwnBd w16 loG hiG (.slice sa3 ns sc3) (.slice la3 nl lc3) (.slice ta3 nt tc3) (markB nb)) := GB_15.out.later hB
  have U_16 : Hid (X5 w16 gU (.int .i64 nf) (.int .i64 ne) (.slice sa5 ns sc5) (.slice la5 nl lc5) (.slice ta5 nt tc5)) := U_15.out.later hB
  have UB_16 : Hid (OwnBd w16 loU hiU (.slice sa5 ns sc5) (.slice la5 nl lc5) (.slice ta5 nt tc5) nb) := UB_15.out.later hB
  have z16 : w15.heap.size ≤ w16.heap.size := hB.size
  clear hb hB HB_15 RS_15 RL_15 RT_15 A_15 T_15 W_15 WB_15 Y_15 G_15 GB_15 U_15 UB_15 
  obtain ⟨⟨Gq0, Gq1, Gq2, Gq3, Gq4⟩, Gf⟩ := id (G_16.out)
  clear Gf
  go_wp2_with fail
  refine (heldBoard_c nf ne sa3 ns sc3 la3 nl lc3 ta3 nt tc3 loG hiG nb _ HSN.out HN1.out HN2.out HN3.out GB_16.out).mono ?_
  rw [HNN.out]
  clear Gq0 Gq1 Gq2 Gq3 Gq4
  rintro e w17 ⟨rfl, hb⟩
  have hB : Below w16.heap.size w16 w17 := hb
  have HB_17 : Hid (Below w.heap.size w w17) := HB_16.out.trans (hB.mono HB_16.out.size)
  have RS_17 : Hid (RdII w17 sa sg) := RS_16.out.later hB
  have RL_17 : Hid (Rd w17 la li) := RL_16.out.later hB
  have RT_17 : Hid (Rd w17 ta ls) := RT_16.out.later hB
  have A_17 : Hid (X5 w17 w.heap.size (.int .i64 f) (.int .i64 e) (.slice sa sn sc) (.slice la ln lc) (.slice ta tn tc)) := A_16.out.later hB
  have T_17 : Hid (X3 w17 w1.heap.size (.int .i64 k) (.int .i64 m) (.int .i64 l)) := T_16.out.later hB
  have W_17 : Hid (X5 w17 gW (.int .i64 nf) (.int .i64 ne) (.slice sa1 ns sc1) (.slice la1 nl lc1) (.slice ta1 nt tc1)) := W_16.out.later hB
  have WB_17 : Hid (OwnBd w17 loW hiW (.slice sa1 ns sc1) (.slice la1 nl lc1) (.slice ta1 nt tc1) nb) := WB_16.out.later hB
  have Y_17 : Hid (X5 w17 w5.heap.size (.int .i64 f) (.int .i64 e) (.slice sa2 sn sc2) (.slice la2 ln lc2) (.slice ta2 tn tc2)) := Y_16.out.later hB
  have G_17 : Hid (X5 w17 gG (.int .i64 nf) (.int .i64 ne) (.slice sa3 ns sc3) (.slice la3 nl lc3) (.slice ta3 nt tc3)) := G_16.out.later hB
  have GB_17 : Hid (OwnBd w17 loG hiG (.slice sa3 ns sc3) (.slice la3 nl lc3) (.slice ta3 nt tc3) (markB nb)) := GB_16.out.later hB
  have U_17 : Hid (X5 w17 gU (.int .i64 nf) (.int .i64 ne) (.slice sa5 ns sc5) (.slice la5 nl lc5) (.slice ta5 nt tc5)) := U_16.out.later hB
  have UB_17 : Hid (OwnBd w17 loU hiU (.slice sa5 ns sc5) (.slice la5 nl lc5) (.slice ta5 nt tc5) nb) := UB_16.out.later hB
  have z17 : w16.heap.size ≤ w17.heap.size := hB.size
  clear hb hB HB_16 RS_16 RL_16 RT_16 A_16 T_16 W_16 WB_16 Y_16 G_16 GB_16 U_16 UB_16 
  go_wp2
  go_ret
  exact ⟨rfl, HB_17.out⟩

end Go.Proofs.Ytaokmjbhgkfnfaa
