/- The law on TogetherSay, walked: it answers true at every argument and turns nothing that was there. -/
import Derived.Test.YtheagikallnppaaSS15B
namespace Go.Proofs.Ytheagikallnppaa
set_option linter.unusedVariables false
set_option maxRecDepth 1000000
set_option linter.unusedSimpArgs false
open Go.RowKit

set_option maxHeartbeats 16000000 in
theorem lawTogether_c (f : Int) (sa : Option Addr) (sn sc : Nat) (la : Option Addr) (ln lc : Nat) (ps : List (List Int)) (cs : List Int) (wo : Option Addr) (wn wc : Nat) (ws : List Int) (w : World) (hs : ps.length = sn) (hsn0 : sn ≤ 9223372036854775807) (hl : cs.length = ln) (hln0 : ln ≤ 9223372036854775807) (hrs : RdII w sa ps) (hrl : Rd w la cs) (hsl0 : ∀ l ∈ ps, l.length ≤ 9223372036854775807) (hf0 : -9223372036854775808 ≤ f) (hf1 : f ≤ 9223372036854775807) (hw : ws.length = wn) (hwn0 : wn ≤ 9223372036854775807) (hrw : Rd w wo ws) :
    Calls Try.prog 11 #[.agg #[.int .i64 f, .slice sa sn sc, .slice la ln lc], .slice wo wn wc] w fun e w' => e = .returned (.bool true) ∧ Below w.heap.size w w' := by
  by_cases hwn17 : ¬ wn ≤ 17592186044416
  · have hz2 : (1048576 : Int) < (wn : Int) := by omega
    go_enter Try.func11, Try.ntmps11
    go_wp2
    go_ret
    exact ⟨rfl, balloc w _⟩
  have hwn17 : wn ≤ 17592186044416 := Decidable.not_not.1 hwn17
  obtain ⟨l, hl0⟩ : ∃ l, togV ⟨f, ps, cs⟩ ws = l := ⟨_, rfl⟩
  obtain ⟨fb, hF⟩ : ∃ fb, togB ⟨f, ps, cs⟩ ws = fb := ⟨_, rfl⟩
  obtain ⟨q, hq⟩ : ∃ q, l.length = q := ⟨_, rfl⟩
  have hq6 : q ≤ 1000 := by rw [← hq, ← hl0]; exact togV_short _ _
  have HQS : Hid (∀ sx sxc lx lxc p k wx, RdT wx sx sn sxc lx ln lxc ⟨f, ps, cs⟩ → Rd wx p ws → (p = none → wn = 0 ∧ k = 0) → Calls Try.prog 30 #[.agg #[.int .i64 f, .slice sx sn sxc, .slice lx ln lxc], .slice p wn k] wx fun r w' => ∃ a' c', r = .returned (.tuple #[.slice a' q c', .bool fb]) ∧ Own w' wx.heap.size (.slice a' q c') l ∧ Below wx.heap.size wx w') := fun sx sxc lx lxc p k wx h h2 h3 => by
    have := specTog_c sx sn sxc lx ln lxc ⟨f, ps, cs⟩ p wn k ws wx h hw hwn17 h2
    unfold TellI at this
    rw [hl0, hF, hq] at this
    exact this
  have HQI : Hid (∀ sx sxc lx lxc p k wx, RdT wx sx sn sxc lx ln lxc ⟨f, ps, cs⟩ → Rd wx p ws → (p = none → wn = 0 ∧ k = 0) → Calls Try.prog 29 #[.agg #[.int .i64 f, .slice sx sn sxc, .slice lx ln lxc], .slice p wn k] wx fun r w' => ∃ a' c', r = .returned (.tuple #[.slice a' q c', .bool fb]) ∧ Own w' wx.heap.size (.slice a' q c') l ∧ Below wx.heap.size wx w') := fun sx sxc lx lxc p k wx h h2 h3 => by
    have := implTog_c sx sn sxc lx ln lxc ⟨f, ps, cs⟩ p wn k ws wx h hw hwn17 h2 h3
    unfold TellI at this
    rw [hl0, hF, hq] at this
    exact this
  have HW : Hid (ws.length = wn) := hw
  have HR0RW : Hid (∀ wx, Below w.heap.size w wx → Rd wx wo ws) := fun wx h => hrw.later h
  have HQ : Hid (l.length = q) := hq
  have hfb : (fb != fb) = false := by simp
  obtain ⟨Mn, hMn⟩ : ∃ M : Int, 1 + ((numT ⟨f, ps, cs⟩ : Nat) : Int) = M := ⟨_, rfl⟩
  have HNA : Hid (1 + ((numT ⟨f, ps, cs⟩ : Nat) : Int) = Mn) := hMn
  have hmn : ¬ Mn < 0 := by omega
  have hmo : ¬ (1 : Int) + (q : Int) < 0 := by omega
  have hmm : ((1 : Int) + (q : Int) != 1 + (q : Int)) = false := by simp
  have hmn1 : 1 ≤ Mn := by omega
  have hmn2 : sn ≤ 1048576 → ln ≤ 1048576 → (∀ l ∈ ps, l.length ≤ 1048576) → Mn ≤ 17592186044000 := fun h1 h2 h3 => by
    have := cum_le h3 ps.length (Nat.le_refl _)
    have h4 : ps.length * 1048576 ≤ 1048576 * 1048576 := Nat.mul_le_mul_right _ (by rw [hs]; exact h1)
    rw [← hMn]; unfold numT; dsimp only; omega
  have HMN : Hid (sn ≤ 1048576 → ln ≤ 1048576 → (∀ l ∈ ps, l.length ≤ 1048576) → Mn ≤ 17592186044000) := hmn2
  have hmp : ¬ Mn + (wn : Int) < 0 := by omega
  clear hmn2
  clear hF hl0 hq hMn hw
  have HS : Hid (ps.length = sn) := hs
  have HL : Hid (cs.length = ln) := hl
  have HSL0 : Hid (∀ l ∈ ps, l.length ≤ 9223372036854775807) := hsl0
  have HR0RS : Hid (∀ wx, Below w.heap.size w wx → RdII wx sa ps) := fun wx h => hrs.later h
  have HR0RL : Hid (∀ wx, Below w.heap.size w wx → Rd wx la cs) := fun wx h => hrl.later h
  clear hs hl hsl0
  have HB_0 : Hid (Below w.heap.size w w) := Below.refl _ _
  have RW_0 : Hid (Rd w wo ws) := hrw
  clear hrw
  have RS_0 : Hid (RdII w sa ps) := hrs
  have RL_0 : Hid (Rd w la cs) := hrl
  clear hrs hrl
  have hHB := HB_0.out.alloc HB_0.out.size (.cells #[.int .i64 f, .slice sa sn sc, .slice la ln lc] 50)
  have hRW := RW_0.out.later (balloc w (.cells #[.int .i64 f, .slice sa sn sc, .slice la ln lc] 50))
  have hRS := RS_0.out.later (balloc w (.cells #[.int .i64 f, .slice sa sn sc, .slice la ln lc] 50))
  have hRL := RL_0.out.later (balloc w (.cells #[.int .i64 f, .slice sa sn sc, .slice la ln lc] 50))
  have hA := x3_new w (.int .i64 f) (.slice sa sn sc) (.slice la ln lc) 50 w.heap.size rfl
  have hz : (w.alloc (.cells #[.int .i64 f, .slice sa sn sc, .slice la ln lc] 50)).heap.size = w.heap.size + 1 := by simp
  obtain ⟨w1, hV1⟩ : ∃ V, w.alloc (.cells #[.int .i64 f, .slice sa sn sc, .slice la ln lc] 50) = V := ⟨_, rfl⟩
  rw [hV1] at hHB hRW hRS hRL hA hz
  have HB_1 : Hid (Below w.heap.size w w1) := hHB
  have RW_1 : Hid (Rd w1 wo ws) := hRW
  have RS_1 : Hid (RdII w1 sa ps) := hRS
  have RL_1 : Hid (Rd w1 la cs) := hRL
  have A_1 : Hid (X3 w1 w.heap.size (.int .i64 f) (.slice sa sn sc) (.slice la ln lc)) := hA
  have z1 : w.heap.size + 1 ≤ w1.heap.size := by omega
  clear HB_0 RW_0 RS_0 RL_0 hHB hRW hRS hRL hA hz
  by_cases hz : 1048576 < wn
  · have hz2 : (1048576 : Int) < (wn : Int) := by omega
    go_enter Try.func11, Try.ntmps11
    go_wp2
    go_ret
    exact ⟨rfl, HB_1.out⟩
  have hz2 : ¬ (1048576 : Int) < (wn : Int) := by omega
  go_enter Try.func11, Try.ntmps11
  obtain ⟨⟨Aq0, Aq1, Aq2⟩, Af⟩ := id (A_1.out)
  clear Af
  go_wp2_with fail
  clear hV1
  refine (szTable_c f sa sn sc la ln lc ps _ HS.out hsn0 hln0 RS_1.out HSL0.out).mono ?_
  clear Aq0 Aq1 Aq2
  rintro x w2 ⟨r, rfl, hr2, hb⟩
  have hB : Below w1.heap.size w1 w2 := hb
  have HB_2 : Hid (Below w.heap.size w w2) := HB_1.out.trans (hB.mono HB_1.out.size)
  have RW_2 : Hid (Rd w2 wo ws) := RW_1.out.later hB
  have RS_2 : Hid (RdII w2 sa ps) := RS_1.out.later hB
  have RL_2 : Hid (Rd w2 la cs) := RL_1.out.later hB
  have A_2 : Hid (X3 w2 w.heap.size (.int .i64 f) (.slice sa sn sc) (.slice la ln lc)) := A_1.out.later hB
  have z2 : w1.heap.size ≤ w2.heap.size := hB.size
  clear hb hB HB_1 RW_1 RS_1 RL_1 A_1
  by_cases hr0 : r < 0
  · clear hr2
    go_wp2
    go_ret
    exact ⟨rfl, HB_2.out⟩
  obtain ⟨hsn, hln, hsl⟩ := hr2 (by omega)
  have HSL : Hid (∀ l ∈ ps, l.length ≤ 1048576) := hsl
  have hrn : ¬ r < 0 := hr0
  clear hsl hr0 hr2
  have HSM : Hid (SmallTb ⟨f, ps, cs⟩) := (⟨by show ps.length ≤ _; rw [HS.out]; exact hsn, by show cs.length ≤ _; rw [HL.out]; exact hln, HSL.out⟩ : SmallTb ⟨f, ps, cs⟩)
  have hmn2 := HMN.out hsn hln HSL.out
  obtain ⟨⟨Aq0, Aq1, Aq2⟩, Af⟩ := id (A_2.out)
  clear Af
  go_wp2_with fail
  refine (toTable_c f sa sn sc la ln lc ps cs _ HS.out hsn HL.out hln RS_2.out RL_2.out HSL.out).mono ?_
  clear Aq0 Aq1 Aq2
  rintro e w3 ⟨sa1, sc1, la1, lc1, rfl, ho, hb⟩
  have hB : Below w2.heap.size w2 w3 := hb
  have HB_3 : Hid (Below w.heap.size w w3) := HB_2.out.trans (hB.mono HB_2.out.size)
  have RW_3 : Hid (Rd w3 wo ws) := RW_2.out.later hB
  have RS_3 : Hid (RdII w3 sa ps) := RS_2.out.later hB
  have RL_3 : Hid (Rd w3 la cs) := RL_2.out.later hB
  have A_3 : Hid (X3 w3 w.heap.size (.int .i64 f) (.slice sa sn sc) (.slice la ln lc)) := A_2.out.later hB
  have z3 : w2.heap.size ≤ w3.heap.size := hB.size
  have B1_3 : Hid (OwnTb w3 w2.heap.size w3.heap.size (.slice sa1 sn sc1) (.slice la1 ln lc1) ⟨f, ps, cs⟩) := ho
  clear hb hB HB_2 RW_2 RS_2 RL_2 A_2 ho
  go_wp2_with fail
  refine (toIntS_c wo wn wc ws _ HW.out (by omega) RW_3.out).mono ?_
  rintro e w4 ⟨wa1, wk1, rfl, ho, hb⟩
  have hB : Below w3.heap.size w3 w4 := hb
  have HB_4 : Hid (Below w.heap.size w w4) := HB_3.out.trans (hB.mono HB_3.out.size)
  have RW_4 : Hid (Rd w4 wo ws) := RW_3.out.later hB
  have RS_4 : Hid (RdII w4 sa ps) := RS_3.out.later hB
  have RL_4 : Hid (Rd w4 la cs) := RL_3.out.later hB
  have A_4 : Hid (X3 w4 w.heap.size (.int .i64 f) (.slice sa sn sc) (.slice la ln lc)) := A_3.out.later hB
  have B1_4 : Hid (OwnTb w4 w2.heap.size w3.heap.size (.slice sa1 sn sc1) (.slice la1 ln lc1) ⟨f, ps, cs⟩) := B1_3.out.later hB
  have z4 : w3.heap.size ≤ w4.heap.size := hB.size
  have P1_4 : Hid (Own w4 w3.heap.size (Value.slice wa1 wn wk1) (ws)) := ho
  have I_P1 : Hid (∀ k, (Value.slice wa1 wn wk1).ownBlock = some k → w3.heap.size ≤ k ∧ k < w4.heap.size) := World.ownsRow.lt P1_4.out
  clear hb hB HB_3 RW_3 RS_3 RL_3 A_3 B1_3 ho
  go_wp2_with fail
  refine (HQS.out sa1 sc1 la1 lc1 wa1 wk1 _ (rdT_of HSM.out B1_4.out.rd) P1_4.out.rd'.2 P1_4.out.nil).mono ?_
  rintro e w5 ⟨a1, c1, rfl, ho, hb⟩
  have hB : Below w4.heap.size w4 w5 := hb
  have HB_5 : Hid (Below w.heap.size w w5) := HB_4.out.trans (hB.mono HB_4.out.size)
  have RW_5 : Hid (Rd w5 wo ws) := RW_4.out.later hB
  have RS_5 : Hid (RdII w5 sa ps) := RS_4.out.later hB
  have RL_5 : Hid (Rd w5 la cs) := RL_4.out.later hB
  have A_5 : Hid (X3 w5 w.heap.size (.int .i64 f) (.slice sa sn sc) (.slice la ln lc)) := A_4.out.later hB
  have z5 : w4.heap.size ≤ w5.heap.size := hB.size
  have W1_5 : Hid (Own w5 w4.heap.size (Value.slice a1 q c1) (l)) := ho
  have I_W1 : Hid (∀ k, (Value.slice a1 q c1).ownBlock = some k → w4.heap.size ≤ k ∧ k < w5.heap.size) := World.ownsRow.lt W1_5.out
  clear hb hB HB_4 RW_4 RS_4 RL_4 A_4 B1_4 P1_4 ho
  obtain ⟨⟨Aq0, Aq1, Aq2⟩, Af⟩ := id (A_5.out)
  clear Af
  go_wp2_with fail
  refine (toTable_c f sa sn sc la ln lc ps cs _ HS.out hsn HL.out hln RS_5.out RL_5.out HSL.out).mono ?_
  clear Aq0 Aq1 Aq2
  rintro e w6 ⟨sa2, sc2, la2, lc2, rfl, ho, hb⟩
  have hB : Below w5.heap.size w5 w6 := hb
  have HB_6 : Hid (Below w.heap.size w w6) := HB_5.out.trans (hB.mono HB_5.out.size)
  have RW_6 : Hid (Rd w6 wo ws) := RW_5.out.later hB
  have RS_6 : Hid (RdII w6 sa ps) := RS_5.out.later hB
  have RL_6 : Hid (Rd w6 la cs) := RL_5.out.later hB
  have A_6 : Hid (X3 w6 w.heap.size (.int .i64 f) (.slice sa sn sc) (.slice la ln lc)) := A_5.out.later hB
  have W1_6 : Hid (Own w6 w4.heap.size (Value.slice a1 q c1) (l)) := W1_5.out.later hB
  have z6 : w5.heap.size ≤ w6.heap.size := hB.size
  have B2_6 : Hid (OwnTb w6 w5.heap.size w6.heap.size (.slice sa2 sn sc2) (.slice la2 ln lc2) ⟨f, ps, cs⟩) := ho
  clear hb hB HB_5 RW_5 RS_5 RL_5 A_5 W1_5 ho
  have hHB := HB_6.out.alloc HB_6.out.size (.cells #[.int .i64 f, .slice sa2 sn sc2, .slice la2 ln lc2] 26)
  have hRW := RW_6.out.later (balloc w6 (.cells #[.int .i64 f, .slice sa2 sn sc2, .slice la2 ln lc2] 26))
  have hRS := RS_6.out.later (balloc w6 (.cells #[.int .i64 f, .slice sa2 sn sc2, .slice la2 ln lc2] 26))
  have hRL := RL_6.out.later (balloc w6 (.cells #[.int .i64 f, .slice sa2 sn sc2, .slice la2 ln lc2] 26))
  have hA := A_6.out.later (balloc w6 (.cells #[.int .i64 f, .slice sa2 sn sc2, .slice la2 ln lc2] 26))
  have hW1 := W1_6.out.later (balloc w6 (.cells #[.int .i64 f, .slice sa2 sn sc2, .slice la2 ln lc2] 26))
  have hB2 := B2_6.out.later (balloc w6 (.cells #[.int .i64 f, .slice sa2 sn sc2, .slice la2 ln lc2] 26))
  have hY := x3_new w6 (.int .i64 f) (.slice sa2 sn sc2) (.slice la2 ln lc2) 26 w6.heap.size rfl
  have hz : (w6.alloc (.cells #[.int .i64 f, .slice sa2 sn sc2, .slice la2 ln lc2] 26)).heap.size = w6.heap.size + 1 := by simp
  obtain ⟨w7, hV7⟩ : ∃ V, w6.alloc (.cells #[.int .i64 f, .slice sa2 sn sc2, .slice la2 ln lc2] 26) = V := ⟨_, rfl⟩
  rw [hV7] at hHB hRW hRS hRL hA hW1 hB2 hY hz
  have HB_7 : Hid (Below w.heap.size w w7) := hHB
  have RW_7 : Hid (Rd w7 wo ws) := hRW
  have RS_7 : Hid (RdII w7 sa ps) := hRS
  have RL_7 : Hid (Rd w7 la cs) := hRL
  have A_7 : Hid (X3 w7 w.heap.size (.int .i64 f) (.slice sa sn sc) (.slice la ln lc)) := hA
  have W1_7 : Hid (Own w7 w4.heap.size (Value.slice a1 q c1) (l)) := hW1
  have B2_7 : Hid (OwnTb w7 w5.heap.size w6.heap.size (.slice sa2 sn sc2) (.slice la2 ln lc2) ⟨f, ps, cs⟩) := hB2
  have Y_7 : Hid (X3 w7 w6.heap.size (.int .i64 f) (.slice sa2 sn sc2) (.slice la2 ln lc2)) := hY
  have z7 : w6.heap.size + 1 ≤ w7.heap.size := by omega
  clear HB_6 RW_6 RS_6 RL_6 A_6 W1_6 B2_6 hHB hRW hRS hRL hA hW1 hB2 hY hz
  go_wp2_with fail
  clear hV7
  refine (toIntS_c wo wn wc ws _ HW.out (by omega) RW_7.out).mono ?_
  rintro e w8 ⟨wa2, wk2, rfl, ho, hb⟩
  have hB : Below w7.heap.size w7 w8 := hb
  have HB_8 : Hid (Below w.heap.size w w8) := HB_7.out.trans (hB.mono HB_7.out.size)
  have RW_8 : Hid (Rd w8 wo ws) := RW_7.out.later hB
  have RS_8 : Hid (RdII w8 sa ps) := RS_7.out.later hB
  have RL_8 : Hid (Rd w8 la cs) := RL_7.out.later hB
  have A_8 : Hid (X3 w8 w.heap.size (.int .i64 f) (.slice sa sn sc) (.slice la ln lc)) := A_7.out.later hB
  have W1_8 : Hid (Own w8 w4.heap.size (Value.slice a1 q c1) (l)) := W1_7.out.later hB
  have B2_8 : Hid (OwnTb w8 w5.heap.size w6.heap.size (.slice sa2 sn sc2) (.slice la2 ln lc2) ⟨f, ps, cs⟩) := B2_7.out.later hB
  have Y_8 : Hid (X3 w8 w6.heap.size (.int .i64 f) (.slice sa2 sn sc2) (.slice la2 ln lc2)) := Y_7.out.later hB
  have z8 : w7.heap.size ≤ w8.heap.size := hB.size
  have P2_8 : Hid (Own w8 w7.heap.size (Value.slice wa2 wn wk2) (ws)) := ho
  have I_P2 : Hid (∀ k, (Value.slice wa2 wn wk2).ownBlock = some k → w7.heap.size ≤ k ∧ k < w8.heap.size) := World.ownsRow.lt P2_8.out
  clear hb hB HB_7 RW_7 RS_7 RL_7 A_7 W1_7 B2_7 Y_7 ho
  obtain ⟨⟨Yq0, Yq1, Yq2⟩, Yf⟩ := id (Y_8.out)
  clear Yf
  go_wp2_with fail
  refine (HQI.out sa2 sc2 la2 lc2 wa2 wk2 _ (rdT_of HSM.out B2_8.out.rd) P2_8.out.rd'.2 P2_8.out.nil).mono ?_
  clear Yq0 Yq1 Yq2
  rintro e w9 ⟨a2, c2, rfl, ho, hb⟩
  have hB : Below w8.heap.size w8 w9 := hb
  have HB_9 : Hid (Below w.heap.size w w9) := HB_8.out.trans (hB.mono HB_8.out.size)
  have RW_9 : Hid (Rd w9 wo ws) := RW_8.out.later hB
  have RS_9 : Hid (RdII w9 sa ps) := RS_8.out.later hB
  have RL_9 : Hid (Rd w9 la cs) := RL_8.out.later hB
  have A_9 : Hid (X3 w9 w.heap.size (.int .i64 f) (.slice sa sn sc) (.slice la ln lc)) := A_8.out.later hB
  have W1_9 : Hid (Own w9 w4.heap.size (Value.slice a1 q c1) (l)) := W1_8.out.later hB
  have B2_9 : Hid (OwnTb w9 w5.heap.size w6.heap.size (.slice sa2 sn sc2) (.slice la2 ln lc2) ⟨f, ps, cs⟩) := B2_8.out.later hB
  have Y_9 : Hid (X3 w9 w6.heap.size (.int .i64 f) (.slice sa2 sn sc2) (.slice la2 ln lc2)) := Y_8.out.later hB
  have P2_9 : Hid (Own w9 w7.heap.size (Value.slice wa2 wn wk2) (ws)) := P2_8.out.later hB
  have z9 : w8.heap.size ≤ w9.heap.size := hB.size
  have G2_9 : Hid (Own w9 w8.heap.size (Value.slice a2 q c2) (l)) := ho
  have I_G2 : Hid (∀ k, (Value.slice a2 q c2).ownBlock = some k → w8.heap.size ≤ k ∧ k < w9.heap.size) := World.ownsRow.lt G2_9.out
  clear hb hB HB_8 RW_8 RS_8 RL_8 A_8 W1_8 B2_8 Y_8 P2_8 ho
  go_wp2_with fail
  refine (eqIntS_c a2 a1 q q c2 c1 l l _ HQ.out HQ.out (by omega) (by omega) G2_9.out.rd'.2 W1_9.out.rd'.2).mono ?_
  rw [decide_eq_true rfl]
  rintro e w10 ⟨rfl, hb⟩
  have hB : Below w9.heap.size w9 w10 := hb
  have HB_10 : Hid (Below w.heap.size w w10) := HB_9.out.trans (hB.mono HB_9.out.size)
  have RW_10 : Hid (Rd w10 wo ws) := RW_9.out.later hB
  have RS_10 : Hid (RdII w10 sa ps) := RS_9.out.later hB
  have RL_10 : Hid (Rd w10 la cs) := RL_9.out.later hB
  have A_10 : Hid (X3 w10 w.heap.size (.int .i64 f) (.slice sa sn sc) (.slice la ln lc)) := A_9.out.later hB
  have W1_10 : Hid (Own w10 w4.heap.size (Value.slice a1 q c1) (l)) := W1_9.out.later hB
  have B2_10 : Hid (OwnTb w10 w5.heap.size w6.heap.size (.slice sa2 sn sc2) (.slice la2 ln lc2) ⟨f, ps, cs⟩) := B2_9.out.later hB
  have Y_10 : Hid (X3 w10 w6.heap.size (.int .i64 f) (.slice sa2 sn sc2) (.slice la2 ln lc2)) := Y_9.out.later hB
  have P2_10 : Hid (Own w10 w7.heap.size (Value.slice wa2 wn wk2) (ws)) := P2_9.out.later hB
  have G2_10 : Hid (Own w10 w8.heap.size (Value.slice a2 q c2) (l)) := G2_9.out.later hB
  have z10 : w9.heap.size ≤ w10.heap.size := hB.size
  clear hb hB HB_9 RW_9 RS_9 RL_9 A_9 W1_9 B2_9 Y_9 P2_9 G2_9 
  obtain ⟨⟨Aq0, Aq1, Aq2⟩, Af⟩ := id (A_10.out)
  clear Af
  obtain ⟨⟨Yq0, Yq1, Yq2⟩, Yf⟩ := id (Y_10.out)
  clear Yf
  go_wp2_with fail
  refine wp_region_held_drew (S := (fun X => (X.cell? ⟨w6.heap.size, 0, none⟩ = some (.int .i64 f) ∧ X.cell? ⟨w6.heap.size, 1, none⟩ = some (.slice sa2 sn sc2) ∧ X.cell? ⟨w6.heap.size, 2, none⟩ = some (.slice la2 ln lc2)) ∧ (X.cell? ⟨w.heap.size, 0, none⟩ = some (.int .i64 f) ∧ X.cell? ⟨w.heap.size, 1, none⟩ = some (.slice sa sn sc) ∧ X.cell? ⟨w.heap.size, 2, none⟩ = some (.slice la ln lc)))) (by kernel_rfl) ?_ (fun hHeld => ?_)
  · exact ⟨(Y_10.out.later (Below.refl _ _).drew).1, (A_10.out.later (Below.refl _ _).drew).1⟩
  clear Aq0 Aq1 Aq2
  clear Yq0 Yq1 Yq2
  obtain ⟨D0, hD0⟩ : ∃ D, w10.drew = D := ⟨_, rfl⟩
  have hb0 : Below w10.heap.size w10 D0 := by rw [← hD0]; exact (Below.refl _ _).drew
  rw [hD0] at hHeld ⊢
  have HD0 : Hid (Below w10.heap.size w10 D0) := hb0
  clear hb0 hD0
  refine takeSG15 (i := 0) (oi := _) (v := ?_) (d := some 52) rfl (by kernel_rfl) (by kernel_rfl) (by kernel_rfl) (by kernel_rfl) (fun _ _ _ h => h) (Or.inl ⟨by rfl, ?_⟩) (by assumption) ?_
  rotate_left
  · (intro w hSw; (try dsimp only at hSw); go_simp <;> with_reducible rfl)
  try simp only [Act.put, List.setIfInBounds_toArray, List.set_cons_zero, List.set_cons_succ]
  refine takeSG15 (i := 1) (oi := _) (v := ?_) (d := some 53) rfl (by kernel_rfl) (by kernel_rfl) (by kernel_rfl) (by kernel_rfl) (fun _ _ _ h => h) (Or.inl ⟨by rfl, ?_⟩) (by assumption) ?_
  rotate_left
  · (intro w hSw; (try dsimp only at hSw); go_simp <;> with_reducible rfl)
  try simp only [Act.put, List.setIfInBounds_toArray, List.set_cons_zero, List.set_cons_succ]
  refine wpAnyH_ready (rs := [2]) (by kernel_rfl) (by simp) ?_
  refine AllReadyH.cons (o := _) rfl (fun K hK => ?_) AllReadyH.nil
  go_simp
  refine (toTable_c f sa sn sc la ln lc ps cs _ HS.out hsn HL.out hln (RS_10.out.later HD0.out) (RL_10.out.later HD0.out) HSL.out).mono ?_
  rintro x D1 ⟨sa3, sc3, la3, lc3, rfl, ho, hb⟩
  have HD1 : Hid (Below w10.heap.size w10 D1) := HD0.out.trans (hb.mono HD0.out.size)
  have HN1 : Hid (RdTb D1 sa3 sn sc3 la3 ln lc3 ⟨f, ps, cs⟩) := ho.rd
  clear ho hb HD0
  refine hK.out _ _ ?_ (fun hHeld => ?_)
  · exact ⟨(Y_10.out.later HD1.out).1, (A_10.out.later HD1.out).1⟩
  clear hK K
  try simp only [Act.put, List.setIfInBounds_toArray, List.set_cons_zero, List.set_cons_succ]
  refine wpAnyH_ready (rs := [3]) (by kernel_rfl) (by simp) ?_
  refine AllReadyH.cons (o := _) rfl (fun K hK => ?_) AllReadyH.nil
  go_simp
  refine (eqTable_c f sa2 sn sc2 la2 ln lc2 sa3 sc3 la3 lc3 ⟨f, ps, cs⟩ _ HSM.out (B2_10.out.later HD1.out).rd HN1.out).mono ?_
  rintro x w12 ⟨rfl, hb⟩
  have HD2 : Hid (Below w10.heap.size w10 w12) := HD1.out.trans (hb.mono HD1.out.size)
  clear hb HD1 HN1
  refine hK.out _ _ ?_ (fun hHeld => ?_)
  · exact ⟨(Y_10.out.later HD2.out).1, (A_10.out.later HD2.out).1⟩
  clear hK K
  try simp only [Act.put, List.setIfInBounds_toArray, List.set_cons_zero, List.set_cons_succ]
  refine takeSG15 (i := 4) (oi := _) (v := ?_) (d := some 56) rfl (by kernel_rfl) (by kernel_rfl) (by kernel_rfl) (by kernel_rfl) (fun _ _ _ h => h) (Or.inl ⟨by rfl, ?_⟩) (by assumption) ?_
  rotate_left
  · (intro w hSw; (try dsimp only at hSw); go_simp <;> with_reducible rfl)
  try simp only [Act.put, List.setIfInBounds_toArray, List.set_cons_zero, List.set_cons_succ]
  refine wpAnyH_done (by kernel_rfl) ?_ _
  clear hHeld
  have HB_12 : Hid (Below w.heap.size w w12) := HB_10.out.trans (HD2.out.mono HB_10.out.size)
  have RW_12 : Hid (Rd w12 wo ws) := RW_10.out.later HD2.out
  have RS_12 : Hid (RdII w12 sa ps) := RS_10.out.later HD2.out
  have RL_12 : Hid (Rd w12 la cs) := RL_10.out.later HD2.out
  have A_12 : Hid (X3 w12 w.heap.size (.int .i64 f) (.slice sa sn sc) (.slice la ln lc)) := A_10.out.later HD2.out
  have W1_12 : Hid (Own w12 w4.heap.size (Value.slice a1 q c1) (l)) := W1_10.out.later HD2.out
  have B2_12 : Hid (OwnTb w12 w5.heap.size w6.heap.size (.slice sa2 sn sc2) (.slice la2 ln lc2) ⟨f, ps, cs⟩) := B2_10.out.later HD2.out
  have Y_12 : Hid (X3 w12 w6.heap.size (.int .i64 f) (.slice sa2 sn sc2) (.slice la2 ln lc2)) := Y_10.out.later HD2.out
  have P2_12 : Hid (Own w12 w7.heap.size (Value.slice wa2 wn wk2) (ws)) := P2_10.out.later HD2.out
  have G2_12 : Hid (Own w12 w8.heap.size (Value.slice a2 q c2) (l)) := G2_10.out.later HD2.out
  have z12 : w10.heap.size ≤ w12.heap.size := HD2.out.size
  clear HD2 HB_10 RW_10 RS_10 RL_10 A_10 W1_10 B2_10 Y_10 P2_10 G2_10
  go_wp2_with fail
  refine (toIntS_c wo wn wc ws _ HW.out (by omega) RW_12.out).mono ?_
  rintro e w13 ⟨wa3, wk3, rfl, ho, hb⟩
  have hB : Below w12.heap.size w12 w13 := hb
  have HB_13 : Hid (Below w.heap.size w w13) := HB_12.out.trans (hB.mono HB_12.out.size)
  have RW_13 : Hid (Rd w13 wo ws) := RW_12.out.later hB
  have RS_13 : Hid (RdII w13 sa ps) := RS_12.out.later hB
  have RL_13 : Hid (Rd w13 la cs) := RL_12.out.later hB
  have A_13 : Hid (X3 w13 w.heap.size (.int .i64 f) (.slice sa sn sc) (.slice la ln lc)) := A_12.out.later hB
  have W1_13 : Hid (Own w13 w4.heap.size (Value.slice a1 q c1) (l)) := W1_12.out.later hB
  have B2_13 : Hid (OwnTb w13 w5.heap.size w6.heap.size (.slice sa2 sn sc2) (.slice la2 ln lc2) ⟨f, ps, cs⟩) := B2_12.out.later hB
  have Y_13 : Hid (X3 w13 w6.heap.size (.int .i64 f) (.slice sa2 sn sc2) (.slice la2 ln lc2)) := Y_12.out.later hB
  have P2_13 : Hid (Own w13 w7.heap.size (Value.slice wa2 wn wk2) (ws)) := P2_12.out.later hB
  have G2_13 : Hid (Own w13 w8.heap.size (Value.slice a2 q c2) (l)) := G2_12.out.later hB
  have z13 : w12.heap.size ≤ w13.heap.size := hB.size
  have P3_13 : Hid (Own w13 w12.heap.size (Value.slice wa3 wn wk3) (ws)) := ho
  have I_P3 : Hid (∀ k, (Value.slice wa3 wn wk3).ownBlock = some k → w12.heap.size ≤ k ∧ k < w13.heap.size) := World.ownsRow.lt P3_13.out
  clear hb hB HB_12 RW_12 RS_12 RL_12 A_12 W1_12 B2_12 Y_12 P2_12 G2_12 ho
  go_wp2_with fail
  refine (eqIntS_c wa2 wa3 wn wn wk2 wk3 ws ws _ HW.out HW.out (by omega) (by omega) P2_13.out.rd'.2 P3_13.out.rd'.2).mono ?_
  rw [decide_eq_true rfl]
  rintro e w14 ⟨rfl, hb⟩
  have hB : Below w13.heap.size w13 w14 := hb
  have HB_14 : Hid (Below w.heap.size w w14) := HB_13.out.trans (hB.mono HB_13.out.size)
  have RW_14 : Hid (Rd w14 wo ws) := RW_13.out.later hB
  have RS_14 : Hid (RdII w14 sa ps) := RS_13.out.later hB
  have RL_14 : Hid (Rd w14 la cs) := RL_13.out.later hB
  have A_14 : Hid (X3 w14 w.heap.size (.int .i64 f) (.slice sa sn sc) (.slice la ln lc)) := A_13.out.later hB
  have W1_14 : Hid (Own w14 w4.heap.size (Value.slice a1 q c1) (l)) := W1_13.out.later hB
  have B2_14 : Hid (OwnTb w14 w5.heap.size w6.heap.size (.slice sa2 sn sc2) (.slice la2 ln lc2) ⟨f, ps, cs⟩) := B2_13.out.later hB
  have Y_14 : Hid (X3 w14 w6.heap.size (.int .i64 f) (.slice sa2 sn sc2) (.slice la2 ln lc2)) := Y_13.out.later hB
  have P2_14 : Hid (Own w14 w7.heap.size (Value.slice wa2 wn wk2) (ws)) := P2_13.out.later hB
  have G2_14 : Hid (Own w14 w8.heap.size (Value.slice a2 q c2) (l)) := G2_13.out.later hB
  have z14 : w13.heap.size ≤ w14.heap.size := hB.size
  clear hb hB HB_13 RW_13 RS_13 RL_13 A_13 W1_13 B2_13 Y_13 P2_13 G2_13 P3_13 
  obtain ⟨⟨Yq0, Yq1, Yq2⟩, Yf⟩ := id (Y_14.out)
  clear Yf
  go_wp2_with fail
  refine (markTable_c f sa2 sn sc2 la2 ln lc2 w5.heap.size w6.heap.size ⟨f, ps, cs⟩ _ HSM.out (by omega) B2_14.out).mono ?_
  rw [HNA.out]
  clear Yq0 Yq1 Yq2
  rintro x w15 ⟨rfl, ho, hr⟩
  have z15 : w14.heap.size ≤ w15.heap.size := hr.size
  have HB_15 : Hid (Below w.heap.size w w15) := HB_14.out.trans (hr.below (fun k h => by have := HB_14.out.size; have h9 := h; omega) HB_14.out.size)
  have A_15 : Hid (X3 w15 w.heap.size (.int .i64 f) (.slice sa sn sc) (.slice la ln lc)) := A_14.out.rngP hr (fun h => by have h9 := h; omega)
  have W1_15 : Hid (Own w15 w4.heap.size (Value.slice a1 q c1) (l)) := W1_14.out.rngP hr (fun k0 h0 h => by have := I_W1.out k0 h0; have h9 := h; omega)
  have Y_15 : Hid (X3 w15 w6.heap.size (.int .i64 f) (.slice sa2 sn sc2) (.slice la2 ln lc2)) := Y_14.out.rngP hr (fun h => by have h9 := h; omega)
  have P2_15 : Hid (Own w15 w7.heap.size (Value.slice wa2 wn wk2) (ws)) := P2_14.out.rngP hr (fun k0 h0 h => by have := I_P2.out k0 h0; have h9 := h; omega)
  have G2_15 : Hid (Own w15 w8.heap.size (Value.slice a2 q c2) (l)) := G2_14.out.rngP hr (fun k0 h0 h => by have := I_G2.out k0 h0; have h9 := h; omega)
  have RW_15 : Hid (Rd w15 wo ws) := HR0RW.out _ HB_15.out
  have RS_15 : Hid (RdII w15 sa ps) := HR0RS.out _ HB_15.out
  have RL_15 : Hid (Rd w15 la cs) := HR0RL.out _ HB_15.out
  clear ho hr HB_14 RW_14 RS_14 RL_14 A_14 W1_14 B2_14 Y_14 P2_14 G2_14
  go_wp2_with fail
  refine (markIntS_c wa2 wn wk2 Mn w7.heap.size ws _ (by omega) (by omega) (by omega) P2_15.out).mono ?_
  rintro x w16 ⟨rfl, ho, hg⟩
  have z16 : w15.heap.size ≤ w16.heap.size := hg.size
  have hr := RngP.ofGrown hg (pp := fun k => (Value.slice wa2 wn wk2).ownBlock = some k) (fun k h => h)
  have HB_16 : Hid (Below w.heap.size w w16) := HB_15.out.trans (hr.below (fun k h => by have := HB_15.out.size; have h9 := I_P2.out _ h; omega) HB_15.out.size)
  have A_16 : Hid (X3 w16 w.heap.size (.int .i64 f) (.slice sa sn sc) (.slice la ln lc)) := A_15.out.rngP hr (fun h => by have h9 := I_P2.out _ h; omega)
  have W1_16 : Hid (Own w16 w4.heap.size (Value.slice a1 q c1) (l)) := W1_15.out.rngP hr (fun k0 h0 h => by have := I_W1.out k0 h0; have h9 := I_P2.out _ h; omega)
  have Y_16 : Hid (X3 w16 w6.heap.size (.int .i64 f) (.slice sa2 sn sc2) (.slice la2 ln lc2)) := Y_15.out.rngP hr (fun h => by have h9 := I_P2.out _ h; omega)
  have G2_16 : Hid (Own w16 w8.heap.size (Value.slice a2 q c2) (l)) := G2_15.out.rngP hr (fun k0 h0 h => by have := I_G2.out k0 h0; have h9 := I_P2.out _ h; omega)
  have RW_16 : Hid (Rd w16 wo ws) := HR0RW.out _ HB_16.out
  have RS_16 : Hid (RdII w16 sa ps) := HR0RS.out _ HB_16.out
  have RL_16 : Hid (Rd w16 la cs) := HR0RL.out _ HB_16.out
  have P2_16 : Hid (Own w16 w7.heap.size (Value.slice wa2 wn wk2) (marks Mn wn)) := ho
  clear ho hg hr HB_15 RW_15 RS_15 RL_15 A_15 W1_15 Y_15 P2_15 G2_15
  clear P2_16
  go_wp2_with fail
  refine (eqIntS_c a2 a1 q q c2 c1 l l _ HQ.out HQ.out (by omega) (by omega) G2_16.out.rd'.2 W1_16.out.rd'.2).mono ?_
  rw [decide_eq_true rfl]
  rintro e w17 ⟨rfl, hb⟩
  have hB : Below w16.heap.size w16 w17 := hb
  have HB_17 : Hid (Below w.heap.size w w17) := HB_16.out.trans (hB.mono HB_16.out.size)
  have RW_17 : Hid (Rd w17 wo ws) := RW_16.out.later hB
  have RS_17 : Hid (RdII w17 sa ps) := RS_16.out.later hB
  have RL_17 : Hid (Rd w17 la cs) := RL_16.out.later hB
  have A_17 : Hid (X3 w17 w.heap.size (.int .i64 f) (.slice sa sn sc) (.slice la ln lc)) := A_16.out.later hB
  have W1_17 : Hid (Own w17 w4.heap.size (Value.slice a1 q c1) (l)) := W1_16.out.later hB
  have Y_17 : Hid (X3 w17 w6.heap.size (.int .i64 f) (.slice sa2 sn sc2) (.slice la2 ln lc2)) := Y_16.out.later hB
  have G2_17 : Hid (Own w17 w8.heap.size (Value.slice a2 q c2) (l)) := G2_16.out.later hB
  have z17 : w16.heap.size ≤ w17.heap.size := hB.size
  clear hb hB HB_16 RW_16 RS_16 RL_16 A_16 W1_16 Y_16 G2_16 
  go_wp2_with fail
  refine (markIntS_c a2 q c2 1 w8.heap.size l _ (by omega) (by omega) (by omega) G2_17.out).mono ?_
  rintro x w18 ⟨rfl, ho, hg⟩
  have z18 : w17.heap.size ≤ w18.heap.size := hg.size
  have hr := RngP.ofGrown hg (pp := fun k => (Value.slice a2 q c2).ownBlock = some k) (fun k h => h)
  have HB_18 : Hid (Below w.heap.size w w18) := HB_17.out.trans (hr.below (fun k h => by have := HB_17.out.size; have h9 := I_G2.out _ h; omega) HB_17.out.size)
  have A_18 : Hid (X3 w18 w.heap.size (.int .i64 f) (.slice sa sn sc) (.slice la ln lc)) := A_17.out.rngP hr (fun h => by have h9 := I_G2.out _ h; omega)
  have W1_18 : Hid (Own w18 w4.heap.size (Value.slice a1 q c1) (l)) := W1_17.out.rngP hr (fun k0 h0 h => by have := I_W1.out k0 h0; have h9 := I_G2.out _ h; omega)
  have Y_18 : Hid (X3 w18 w6.heap.size (.int .i64 f) (.slice sa2 sn sc2) (.slice la2 ln lc2)) := Y_17.out.rngP hr (fun h => by have h9 := I_G2.out _ h; omega)
  have RW_18 : Hid (Rd w18 wo ws) := HR0RW.out _ HB_18.out
  have RS_18 : Hid (RdII w18 sa ps) := HR0RS.out _ HB_18.out
  have RL_18 : Hid (Rd w18 la cs) := HR0RL.out _ HB_18.out
  have G2_18 : Hid (Own w18 w8.heap.size (Value.slice a2 q c2) (marks 1 q)) := ho
  clear ho hg hr HB_17 RW_17 RS_17 RL_17 A_17 W1_17 Y_17 G2_17
  go_wp2_with fail
  refine (heldIntS_c a2 q c2 1 w8.heap.size _ (by omega) (by omega) (by omega) G2_18.out).mono ?_
  rintro e w' ⟨rfl, hw⟩
  subst w'
  obtain ⟨⟨Aq0, Aq1, Aq2⟩, Af⟩ := id (A_18.out)
  clear Af
  go_wp2_with fail
  refine (toTable_c f sa sn sc la ln lc ps cs _ HS.out hsn HL.out hln RS_18.out RL_18.out HSL.out).mono ?_
  clear Aq0 Aq1 Aq2
  rintro e w19 ⟨sa4, sc4, la4, lc4, rfl, ho, hb⟩
  have hB : Below w18.heap.size w18 w19 := hb
  have HB_19 : Hid (Below w.heap.size w w19) := HB_18.out.trans (hB.mono HB_18.out.size)
  have RW_19 : Hid (Rd w19 wo ws) := RW_18.out.later hB
  have RS_19 : Hid (RdII w19 sa ps) := RS_18.out.later hB
  have RL_19 : Hid (Rd w19 la cs) := RL_18.out.later hB
  have A_19 : Hid (X3 w19 w.heap.size (.int .i64 f) (.slice sa sn sc) (.slice la ln lc)) := A_18.out.later hB
  have W1_19 : Hid (Own w19 w4.heap.size (Value.slice a1 q c1) (l)) := W1_18.out.later hB
  have Y_19 : Hid (X3 w19 w6.heap.size (.int .i64 f) (.slice sa2 sn sc2) (.slice la2 ln lc2)) := Y_18.out.later hB
  have G2_19 : Hid (Own w19 w8.heap.size (Value.slice a2 q c2) (marks 1 q)) := G2_18.out.later hB
  have z19 : w18.heap.size ≤ w19.heap.size := hB.size
  have B4_19 : Hid (OwnTb w19 w18.heap.size w19.heap.size (.slice sa4 sn sc4) (.slice la4 ln lc4) ⟨f, ps, cs⟩) := ho
  clear hb hB HB_18 RW_18 RS_18 RL_18 A_18 W1_18 Y_18 G2_18 ho
  go_wp2_with fail
  refine (toIntS_c wo wn wc ws _ HW.out (by omega) RW_19.out).mono ?_
  rintro e w20 ⟨wa4, wk4, rfl, ho, hb⟩
  have hB : Below w19.heap.size w19 w20 := hb
  have HB_20 : Hid (Below w.heap.size w w20) := HB_19.out.trans (hB.mono HB_19.out.size)
  have RW_20 : Hid (Rd w20 wo ws) := RW_19.out.later hB
  have RS_20 : Hid (RdII w20 sa ps) := RS_19.out.later hB
  have RL_20 : Hid (Rd w20 la cs) := RL_19.out.later hB
  have A_20 : Hid (X3 w20 w.heap.size (.int .i64 f) (.slice sa sn sc) (.slice la ln lc)) := A_19.out.later hB
  have W1_20 : Hid (Own w20 w4.heap.size (Value.slice a1 q c1) (l)) := W1_19.out.later hB
  have Y_20 : Hid (X3 w20 w6.heap.size (.int .i64 f) (.slice sa2 sn sc2) (.slice la2 ln lc2)) := Y_19.out.later hB
  have G2_20 : Hid (Own w20 w8.heap.size (Value.slice a2 q c2) (marks 1 q)) := G2_19.out.later hB
  have B4_20 : Hid (OwnTb w20 w18.heap.size w19.heap.size (.slice sa4 sn sc4) (.slice la4 ln lc4) ⟨f, ps, cs⟩) := B4_19.out.later hB
  have z20 : w19.heap.size ≤ w20.heap.size := hB.size
  have P4_20 : Hid (Own w20 w19.heap.size (Value.slice wa4 wn wk4) (ws)) := ho
  have I_P4 : Hid (∀ k, (Value.slice wa4 wn wk4).ownBlock = some k → w19.heap.size ≤ k ∧ k < w20.heap.size) := World.ownsRow.lt P4_20.out
  clear hb hB HB_19 RW_19 RS_19 RL_19 A_19 W1_19 Y_19 G2_19 B4_19 ho
  go_wp2_with fail
  refine (HQI.out sa4 sc4 la4 lc4 wa4 wk4 _ (rdT_of HSM.out B4_20.out.rd) P4_20.out.rd'.2 P4_20.out.nil).mono ?_
  rintro e w21 ⟨a4, c4, rfl, ho, hb⟩
  have hB : Below w20.heap.size w20 w21 := hb
  have HB_21 : Hid (Below w.heap.size w w21) := HB_20.out.trans (hB.mono HB_20.out.size)
  have RW_21 : Hid (Rd w21 wo ws) := RW_20.out.later hB
  have RS_21 : Hid (RdII w21 sa ps) := RS_20.out.later hB
  have RL_21 : Hid (Rd w21 la cs) := RL_20.out.later hB
  have A_21 : Hid (X3 w21 w.heap.size (.int .i64 f) (.slice sa sn sc) (.slice la ln lc)) := A_20.out.later hB
  have W1_21 : Hid (Own w21 w4.heap.size (Value.slice a1 q c1) (l)) := W1_20.out.later hB
  have Y_21 : Hid (X3 w21 w6.heap.size (.int .i64 f) (.slice sa2 sn sc2) (.slice la2 ln lc2)) := Y_20.out.later hB
  have G2_21 : Hid (Own w21 w8.heap.size (Value.slice a2 q c2) (marks 1 q)) := G2_20.out.later hB
  have z21 : w20.heap.size ≤ w21.heap.size := hB.size
  have H4_21 : Hid (Own w21 w20.heap.size (Value.slice a4 q c4) (l)) := ho
  have I_H4 : Hid (∀ k, (Value.slice a4 q c4).ownBlock = some k → w20.heap.size ≤ k ∧ k < w21.heap.size) := World.ownsRow.lt H4_21.out
  clear hb hB HB_20 RW_20 RS_20 RL_20 A_20 W1_20 Y_20 G2_20 B4_20 P4_20 ho
  go_wp2_with fail
  refine (eqIntS_c a4 a1 q q c4 c1 l l _ HQ.out HQ.out (by omega) (by omega) H4_21.out.rd'.2 W1_21.out.rd'.2).mono ?_
  rw [decide_eq_true rfl]
  rintro e w22 ⟨rfl, hb⟩
  have hB : Below w21.heap.size w21 w22 := hb
  have HB_22 : Hid (Below w.heap.size w w22) := HB_21.out.trans (hB.mono HB_21.out.size)
  have RW_22 : Hid (Rd w22 wo ws) := RW_21.out.later hB
  have RS_22 : Hid (RdII w22 sa ps) := RS_21.out.later hB
  have RL_22 : Hid (Rd w22 la cs) := RL_21.out.later hB
  have A_22 : Hid (X3 w22 w.heap.size (.int .i64 f) (.slice sa sn sc) (.slice la ln lc)) := A_21.out.later hB
  have W1_22 : Hid (Own w22 w4.heap.size (Value.slice a1 q c1) (l)) := W1_21.out.later hB
  have Y_22 : Hid (X3 w22 w6.heap.size (.int .i64 f) (.slice sa2 sn sc2) (.slice la2 ln lc2)) := Y_21.out.later hB
  have G2_22 : Hid (Own w22 w8.heap.size (Value.slice a2 q c2) (marks 1 q)) := G2_21.out.later hB
  have H4_22 : Hid (Own w22 w20.heap.size (Value.slice a4 q c4) (l)) := H4_21.out.later hB
  have z22 : w21.heap.size ≤ w22.heap.size := hB.size
  clear hb hB HB_21 RW_21 RS_21 RL_21 A_21 W1_21 Y_21 G2_21 H4_21 
  go_wp2_with fail
  refine (heldIntS_c a2 q c2 1 w8.heap.size _ (by omega) (by omega) (by omega) G2_22.out).mono ?_
  rintro e w' ⟨rfl, hw⟩
  subst w'
  go_wp2
  go_ret
  exact ⟨rfl, HB_22.out⟩

end Go.Proofs.Ytheagikallnppaa
