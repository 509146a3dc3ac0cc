/- The law on OtherCoins, walked: it answers true at every argument and turns nothing that was there. -/
import Derived.Test.YtheagikallnppaaOS15
namespace Go.Proofs.Ytheagikallnppaa
set_option linter.unusedVariables false
set_option maxRecDepth 1000000
set_option linter.unusedSimpArgs false
open Go.RowKit

theorem othV_small (t : TbV) (a b x : Int) : SmallTb (othV t a b x) := by
  unfold othV
  split
  · rename_i h
    have h2 : wayB t a b = true := by unfold othB at h; rw [Bool.and_eq_true] at h; exact h.1
    have g := wayB_good h2
    exact ⟨by show t.ps.length ≤ _; have := g.pl; omega, by show (flipL t.cs _ x).length ≤ _; rw [flipL_length]; have := g.pl; have := g.cl; omega, fun l hl => by
      obtain ⟨j, hj, e⟩ := of_mem_getD [] hl
      rw [← e, (g.two j hj).1]; omega⟩
  · exact ⟨by simp, by simp, fun l hl => by simp at hl⟩

set_option maxHeartbeats 16000000 in
theorem lawOther_c (f : Int) (sa : Option Addr) (sn sc : Nat) (la : Option Addr) (ln lc : Nat) (ps : List (List Int)) (cs : List Int) (a b word : Int) (w : World) (hs : ps.length = sn) (hsn0 : sn ≤ 9223372036854775807) (hl : cs.length = ln) (hln0 : ln ≤ 9223372036854775807) (hrs : RdII w sa ps) (hrl : Rd w la cs) (hsl0 : ∀ l ∈ ps, l.length ≤ 9223372036854775807) (hf0 : -9223372036854775808 ≤ f) (hf1 : f ≤ 9223372036854775807) :
    Calls Try.prog 10 #[.agg #[.int .i64 f, .slice sa sn sc, .slice la ln lc], .int .i64 a, .int .i64 b, .int .i64 word] w fun e w' => e = .returned (.bool true) ∧ Below w.heap.size w w' := by
  obtain ⟨nb, hnb⟩ : ∃ nb, othV ⟨f, ps, cs⟩ a b word = nb := ⟨_, rfl⟩
  obtain ⟨fb, hF⟩ : ∃ fb, othB ⟨f, ps, cs⟩ a b word = fb := ⟨_, rfl⟩
  obtain ⟨nf, hn1⟩ : ∃ n, nb.s = n := ⟨_, rfl⟩
  obtain ⟨ns, hn2⟩ : ∃ n, nb.ps.length = n := ⟨_, rfl⟩
  obtain ⟨nl, hn3⟩ : ∃ n, nb.cs.length = n := ⟨_, rfl⟩
  have HSN : Hid (SmallTb nb) := by rw [← hnb]; exact othV_small _ _ _ _
  have HQS : Hid (∀ sx sxc lx lxc wx, RdT wx sx sn sxc lx ln lxc ⟨f, ps, cs⟩ → Calls Try.prog 24 #[.agg #[.int .i64 f, .slice sx sn sxc, .slice lx ln lxc], .int .i64 a, .int .i64 b, .int .i64 word] wx fun r w' => ∃ sa' sc' la' lc', r = .returned (.tuple #[.agg #[.int .i64 nf, .slice sa' ns sc', .slice la' nl lc'], .bool fb]) ∧ OwnTb w' wx.heap.size w'.heap.size (.slice sa' ns sc') (.slice la' nl lc') nb ∧ Below wx.heap.size wx w') := fun sx sxc lx lxc wx h => by
    have := specOth_c sx sn sxc lx ln lxc ⟨f, ps, cs⟩ a b word wx h
    unfold TellT at this
    rw [hnb, hF, hn1, hn2, hn3] at this
    exact this
  have HQI : Hid (∀ sx sxc lx lxc wx, RdT wx sx sn sxc lx ln lxc ⟨f, ps, cs⟩ → Calls Try.prog 21 #[.agg #[.int .i64 f, .slice sx sn sxc, .slice lx ln lxc], .int .i64 a, .int .i64 b, .int .i64 word] wx fun r w' => ∃ sa' sc' la' lc', r = .returned (.tuple #[.agg #[.int .i64 nf, .slice sa' ns sc', .slice la' nl lc'], .bool fb]) ∧ OwnTb w' wx.heap.size w'.heap.size (.slice sa' ns sc') (.slice la' nl lc') nb ∧ Below wx.heap.size wx w') := fun sx sxc lx lxc wx h => by
    have := implOth_c sx sn sxc lx ln lxc ⟨f, ps, cs⟩ a b word wx h
    unfold TellT at this
    rw [hnb, hF, hn1, hn2, hn3] at this
    exact this
  have HN1 : Hid (nb.ps.length = ns) := hn2
  have HN2 : Hid (nb.cs.length = nl) := hn3
  have hfb : (fb != fb) = false := by simp
  obtain ⟨Mn, hMn⟩ : ∃ M : Int, 1 + ((numT nb : Nat) : Int) = M := ⟨_, rfl⟩
  have HNN : Hid (1 + ((numT nb : Nat) : Int) = Mn) := hMn
  obtain ⟨Ma, hMa⟩ : ∃ M : Int, 1 + ((numT ⟨f, ps, cs⟩ : Nat) : Int) = M := ⟨_, rfl⟩
  have HNA : Hid (1 + ((numT ⟨f, ps, cs⟩ : Nat) : Int) = Ma) := hMa
  have hmn : ¬ Mn < 0 := by omega
  have hma : ¬ Ma < 0 := by omega
  have hmm : (Mn != Mn) = false := by simp
  clear hF hnb hn1 hn2 hn3 hMn hMa
  have HS : Hid (ps.length = sn) := hs
  have HL : Hid (cs.length = ln) := hl
  have HSL0 : Hid (∀ l ∈ ps, l.length ≤ 9223372036854775807) := hsl0
  have HR0RS : Hid (∀ wx, Below w.heap.size w wx → RdII wx sa ps) := fun wx h => hrs.later h
  have HR0RL : Hid (∀ wx, Below w.heap.size w wx → Rd wx la cs) := fun wx h => hrl.later h
  clear hs hl hsl0
  have HB_0 : Hid (Below w.heap.size w w) := Below.refl _ _
  have RS_0 : Hid (RdII w sa ps) := hrs
  have RL_0 : Hid (Rd w la cs) := hrl
  clear hrs hrl
  have hHB := HB_0.out.alloc HB_0.out.size (.cells #[.int .i64 f, .slice sa sn sc, .slice la ln lc] 50)
  have hRS := RS_0.out.later (balloc w (.cells #[.int .i64 f, .slice sa sn sc, .slice la ln lc] 50))
  have hRL := RL_0.out.later (balloc w (.cells #[.int .i64 f, .slice sa sn sc, .slice la ln lc] 50))
  have hA := x3_new w (.int .i64 f) (.slice sa sn sc) (.slice la ln lc) 50 w.heap.size rfl
  have hz : (w.alloc (.cells #[.int .i64 f, .slice sa sn sc, .slice la ln lc] 50)).heap.size = w.heap.size + 1 := by simp
  obtain ⟨w1, hV1⟩ : ∃ V, w.alloc (.cells #[.int .i64 f, .slice sa sn sc, .slice la ln lc] 50) = V := ⟨_, rfl⟩
  rw [hV1] at hHB hRS hRL hA hz
  have HB_1 : Hid (Below w.heap.size w w1) := hHB
  have RS_1 : Hid (RdII w1 sa ps) := hRS
  have RL_1 : Hid (Rd w1 la cs) := hRL
  have A_1 : Hid (X3 w1 w.heap.size (.int .i64 f) (.slice sa sn sc) (.slice la ln lc)) := hA
  have z1 : w.heap.size + 1 ≤ w1.heap.size := by omega
  clear HB_0 RS_0 RL_0 hHB hRS hRL hA hz
  go_enter Try.func10, Try.ntmps10
  obtain ⟨⟨Aq0, Aq1, Aq2⟩, Af⟩ := id (A_1.out)
  clear Af
  go_wp2_with fail
  clear hV1
  refine (szTable_c f sa sn sc la ln lc ps _ HS.out hsn0 hln0 RS_1.out HSL0.out).mono ?_
  clear Aq0 Aq1 Aq2
  rintro x w2 ⟨r, rfl, hr2, hb⟩
  have hB : Below w1.heap.size w1 w2 := hb
  have HB_2 : Hid (Below w.heap.size w w2) := HB_1.out.trans (hB.mono HB_1.out.size)
  have RS_2 : Hid (RdII w2 sa ps) := RS_1.out.later hB
  have RL_2 : Hid (Rd w2 la cs) := RL_1.out.later hB
  have A_2 : Hid (X3 w2 w.heap.size (.int .i64 f) (.slice sa sn sc) (.slice la ln lc)) := A_1.out.later hB
  have z2 : w1.heap.size ≤ w2.heap.size := hB.size
  clear hb hB HB_1 RS_1 RL_1 A_1
  by_cases hr0 : r < 0
  · clear hr2
    go_wp2
    go_ret
    exact ⟨rfl, HB_2.out⟩
  obtain ⟨hsn, hln, hsl⟩ := hr2 (by omega)
  have HSL : Hid (∀ l ∈ ps, l.length ≤ 1048576) := hsl
  have hrn : ¬ r < 0 := hr0
  clear hsl hr0 hr2
  have HSM : Hid (SmallTb ⟨f, ps, cs⟩) := (⟨by show ps.length ≤ _; rw [HS.out]; exact hsn, by show cs.length ≤ _; rw [HL.out]; exact hln, HSL.out⟩ : SmallTb ⟨f, ps, cs⟩)
  obtain ⟨⟨Aq0, Aq1, Aq2⟩, Af⟩ := id (A_2.out)
  clear Af
  go_wp2_with fail
  refine (toTable_c f sa sn sc la ln lc ps cs _ HS.out hsn HL.out hln RS_2.out RL_2.out HSL.out).mono ?_
  clear Aq0 Aq1 Aq2
  rintro e w3 ⟨sa1, sc1, la1, lc1, rfl, ho, hb⟩
  have hB : Below w2.heap.size w2 w3 := hb
  have HB_3 : Hid (Below w.heap.size w w3) := HB_2.out.trans (hB.mono HB_2.out.size)
  have RS_3 : Hid (RdII w3 sa ps) := RS_2.out.later hB
  have RL_3 : Hid (Rd w3 la cs) := RL_2.out.later hB
  have A_3 : Hid (X3 w3 w.heap.size (.int .i64 f) (.slice sa sn sc) (.slice la ln lc)) := A_2.out.later hB
  have z3 : w2.heap.size ≤ w3.heap.size := hB.size
  have B1_3 : Hid (OwnTb w3 w2.heap.size w3.heap.size (.slice sa1 sn sc1) (.slice la1 ln lc1) ⟨f, ps, cs⟩) := ho
  clear hb hB HB_2 RS_2 RL_2 A_2 ho
  go_wp2_with fail
  refine (HQS.out sa1 sc1 la1 lc1 _ (rdT_of HSM.out B1_3.out.rd)).mono ?_
  rintro e w4 ⟨sa3, sc3, la3, lc3, rfl, ho, hb⟩
  have hB : Below w3.heap.size w3 w4 := hb
  have HB_4 : Hid (Below w.heap.size w w4) := HB_3.out.trans (hB.mono HB_3.out.size)
  have RS_4 : Hid (RdII w4 sa ps) := RS_3.out.later hB
  have RL_4 : Hid (Rd w4 la cs) := RL_3.out.later hB
  have A_4 : Hid (X3 w4 w.heap.size (.int .i64 f) (.slice sa sn sc) (.slice la ln lc)) := A_3.out.later hB
  have z4 : w3.heap.size ≤ w4.heap.size := hB.size
  have W_4 : Hid (OwnTb w4 w3.heap.size w4.heap.size (.slice sa3 ns sc3) (.slice la3 nl lc3) nb) := ho
  clear hb hB HB_3 RS_3 RL_3 A_3 B1_3 ho
  have hHB := HB_4.out.alloc HB_4.out.size (.cells #[.int .i64 nf, .slice sa3 ns sc3, .slice la3 nl lc3] 26)
  have hRS := RS_4.out.later (balloc w4 (.cells #[.int .i64 nf, .slice sa3 ns sc3, .slice la3 nl lc3] 26))
  have hRL := RL_4.out.later (balloc w4 (.cells #[.int .i64 nf, .slice sa3 ns sc3, .slice la3 nl lc3] 26))
  have hA := A_4.out.later (balloc w4 (.cells #[.int .i64 nf, .slice sa3 ns sc3, .slice la3 nl lc3] 26))
  have hW := W_4.out.later (balloc w4 (.cells #[.int .i64 nf, .slice sa3 ns sc3, .slice la3 nl lc3] 26))
  have hWX := x3_new w4 (.int .i64 nf) (.slice sa3 ns sc3) (.slice la3 nl lc3) 26 w4.heap.size rfl
  have hz : (w4.alloc (.cells #[.int .i64 nf, .slice sa3 ns sc3, .slice la3 nl lc3] 26)).heap.size = w4.heap.size + 1 := by simp
  obtain ⟨w5, hV5⟩ : ∃ V, w4.alloc (.cells #[.int .i64 nf, .slice sa3 ns sc3, .slice la3 nl lc3] 26) = V := ⟨_, rfl⟩
  rw [hV5] at hHB hRS hRL hA hW hWX hz
  have HB_5 : Hid (Below w.heap.size w w5) := hHB
  have RS_5 : Hid (RdII w5 sa ps) := hRS
  have RL_5 : Hid (Rd w5 la cs) := hRL
  have A_5 : Hid (X3 w5 w.heap.size (.int .i64 f) (.slice sa sn sc) (.slice la ln lc)) := hA
  have W_5 : Hid (OwnTb w5 w3.heap.size w4.heap.size (.slice sa3 ns sc3) (.slice la3 nl lc3) nb) := hW
  have WX_5 : Hid (X3 w5 w4.heap.size (.int .i64 nf) (.slice sa3 ns sc3) (.slice la3 nl lc3)) := hWX
  have z5 : w4.heap.size + 1 ≤ w5.heap.size := by omega
  clear HB_4 RS_4 RL_4 A_4 W_4 hHB hRS hRL hA hW hWX hz
  obtain ⟨⟨Aq0, Aq1, Aq2⟩, Af⟩ := id (A_5.out)
  clear Af
  go_wp2_with fail
  clear hV5
  refine (toTable_c f sa sn sc la ln lc ps cs _ HS.out hsn HL.out hln RS_5.out RL_5.out HSL.out).mono ?_
  clear Aq0 Aq1 Aq2
  rintro e w6 ⟨sa2, sc2, la2, lc2, rfl, ho, hb⟩
  have hB : Below w5.heap.size w5 w6 := hb
  have HB_6 : Hid (Below w.heap.size w w6) := HB_5.out.trans (hB.mono HB_5.out.size)
  have RS_6 : Hid (RdII w6 sa ps) := RS_5.out.later hB
  have RL_6 : Hid (Rd w6 la cs) := RL_5.out.later hB
  have A_6 : Hid (X3 w6 w.heap.size (.int .i64 f) (.slice sa sn sc) (.slice la ln lc)) := A_5.out.later hB
  have W_6 : Hid (OwnTb w6 w3.heap.size w4.heap.size (.slice sa3 ns sc3) (.slice la3 nl lc3) nb) := W_5.out.later hB
  have WX_6 : Hid (X3 w6 w4.heap.size (.int .i64 nf) (.slice sa3 ns sc3) (.slice la3 nl lc3)) := WX_5.out.later hB
  have z6 : w5.heap.size ≤ w6.heap.size := hB.size
  have B2_6 : Hid (OwnTb w6 w5.heap.size w6.heap.size (.slice sa2 sn sc2) (.slice la2 ln lc2) ⟨f, ps, cs⟩) := ho
  clear hb hB HB_5 RS_5 RL_5 A_5 W_5 WX_5 ho
  have hHB := HB_6.out.alloc HB_6.out.size (.cells #[.int .i64 f, .slice sa2 sn sc2, .slice la2 ln lc2] 26)
  have hRS := RS_6.out.later (balloc w6 (.cells #[.int .i64 f, .slice sa2 sn sc2, .slice la2 ln lc2] 26))
  have hRL := RL_6.out.later (balloc w6 (.cells #[.int .i64 f, .slice sa2 sn sc2, .slice la2 ln lc2] 26))
  have hA := A_6.out.later (balloc w6 (.cells #[.int .i64 f, .slice sa2 sn sc2, .slice la2 ln lc2] 26))
  have hW := W_6.out.later (balloc w6 (.cells #[.int .i64 f, .slice sa2 sn sc2, .slice la2 ln lc2] 26))
  have hWX := WX_6.out.later (balloc w6 (.cells #[.int .i64 f, .slice sa2 sn sc2, .slice la2 ln lc2] 26))
  have hB2 := B2_6.out.later (balloc w6 (.cells #[.int .i64 f, .slice sa2 sn sc2, .slice la2 ln lc2] 26))
  have hY := x3_new w6 (.int .i64 f) (.slice sa2 sn sc2) (.slice la2 ln lc2) 26 w6.heap.size rfl
  have hz : (w6.alloc (.cells #[.int .i64 f, .slice sa2 sn sc2, .slice la2 ln lc2] 26)).heap.size = w6.heap.size + 1 := by simp
  obtain ⟨w7, hV7⟩ : ∃ V, w6.alloc (.cells #[.int .i64 f, .slice sa2 sn sc2, .slice la2 ln lc2] 26) = V := ⟨_, rfl⟩
  rw [hV7] at hHB hRS hRL hA hW hWX hB2 hY hz
  have HB_7 : Hid (Below w.heap.size w w7) := hHB
  have RS_7 : Hid (RdII w7 sa ps) := hRS
  have RL_7 : Hid (Rd w7 la cs) := hRL
  have A_7 : Hid (X3 w7 w.heap.size (.int .i64 f) (.slice sa sn sc) (.slice la ln lc)) := hA
  have W_7 : Hid (OwnTb w7 w3.heap.size w4.heap.size (.slice sa3 ns sc3) (.slice la3 nl lc3) nb) := hW
  have WX_7 : Hid (X3 w7 w4.heap.size (.int .i64 nf) (.slice sa3 ns sc3) (.slice la3 nl lc3)) := hWX
  have B2_7 : Hid (OwnTb w7 w5.heap.size w6.heap.size (.slice sa2 sn sc2) (.slice la2 ln lc2) ⟨f, ps, cs⟩) := hB2
  have Y_7 : Hid (X3 w7 w6.heap.size (.int .i64 f) (.slice sa2 sn sc2) (.slice la2 ln lc2)) := hY
  have z7 : w6.heap.size + 1 ≤ w7.heap.size := by omega
  clear HB_6 RS_6 RL_6 A_6 W_6 WX_6 B2_6 hHB hRS hRL hA hW hWX hB2 hY hz
  obtain ⟨⟨Yq0, Yq1, Yq2⟩, Yf⟩ := id (Y_7.out)
  clear Yf
  go_wp2_with fail
  clear hV7
  refine (HQI.out sa2 sc2 la2 lc2 _ (rdT_of HSM.out B2_7.out.rd)).mono ?_
  clear Yq0 Yq1 Yq2
  rintro e w8 ⟨sa4, sc4, la4, lc4, rfl, ho, hb⟩
  have hB : Below w7.heap.size w7 w8 := hb
  have HB_8 : Hid (Below w.heap.size w w8) := HB_7.out.trans (hB.mono HB_7.out.size)
  have RS_8 : Hid (RdII w8 sa ps) := RS_7.out.later hB
  have RL_8 : Hid (Rd w8 la cs) := RL_7.out.later hB
  have A_8 : Hid (X3 w8 w.heap.size (.int .i64 f) (.slice sa sn sc) (.slice la ln lc)) := A_7.out.later hB
  have W_8 : Hid (OwnTb w8 w3.heap.size w4.heap.size (.slice sa3 ns sc3) (.slice la3 nl lc3) nb) := W_7.out.later hB
  have WX_8 : Hid (X3 w8 w4.heap.size (.int .i64 nf) (.slice sa3 ns sc3) (.slice la3 nl lc3)) := WX_7.out.later hB
  have B2_8 : Hid (OwnTb w8 w5.heap.size w6.heap.size (.slice sa2 sn sc2) (.slice la2 ln lc2) ⟨f, ps, cs⟩) := B2_7.out.later hB
  have Y_8 : Hid (X3 w8 w6.heap.size (.int .i64 f) (.slice sa2 sn sc2) (.slice la2 ln lc2)) := Y_7.out.later hB
  have z8 : w7.heap.size ≤ w8.heap.size := hB.size
  have G_8 : Hid (OwnTb w8 w7.heap.size w8.heap.size (.slice sa4 ns sc4) (.slice la4 nl lc4) nb) := ho
  clear hb hB HB_7 RS_7 RL_7 A_7 W_7 WX_7 B2_7 Y_7 ho
  have hHB := HB_8.out.alloc HB_8.out.size (.cells #[.int .i64 nf, .slice sa4 ns sc4, .slice la4 nl lc4] 26)
  have hRS := RS_8.out.later (balloc w8 (.cells #[.int .i64 nf, .slice sa4 ns sc4, .slice la4 nl lc4] 26))
  have hRL := RL_8.out.later (balloc w8 (.cells #[.int .i64 nf, .slice sa4 ns sc4, .slice la4 nl lc4] 26))
  have hA := A_8.out.later (balloc w8 (.cells #[.int .i64 nf, .slice sa4 ns sc4, .slice la4 nl lc4] 26))
  have hW := W_8.out.later (balloc w8 (.cells #[.int .i64 nf, .slice sa4 ns sc4, .slice la4 nl lc4] 26))
  have hWX := WX_8.out.later (balloc w8 (.cells #[.int .i64 nf, .slice sa4 ns sc4, .slice la4 nl lc4] 26))
  have hB2 := B2_8.out.later (balloc w8 (.cells #[.int .i64 nf, .slice sa4 ns sc4, .slice la4 nl lc4] 26))
  have hY := Y_8.out.later (balloc w8 (.cells #[.int .i64 nf, .slice sa4 ns sc4, .slice la4 nl lc4] 26))
  have hG := G_8.out.later (balloc w8 (.cells #[.int .i64 nf, .slice sa4 ns sc4, .slice la4 nl lc4] 26))
  have hGX := x3_new w8 (.int .i64 nf) (.slice sa4 ns sc4) (.slice la4 nl lc4) 26 w8.heap.size rfl
  have hz : (w8.alloc (.cells #[.int .i64 nf, .slice sa4 ns sc4, .slice la4 nl lc4] 26)).heap.size = w8.heap.size + 1 := by simp
  obtain ⟨w9, hV9⟩ : ∃ V, w8.alloc (.cells #[.int .i64 nf, .slice sa4 ns sc4, .slice la4 nl lc4] 26) = V := ⟨_, rfl⟩
  rw [hV9] at hHB hRS hRL hA hW hWX hB2 hY hG hGX hz
  have HB_9 : Hid (Below w.heap.size w w9) := hHB
  have RS_9 : Hid (RdII w9 sa ps) := hRS
  have RL_9 : Hid (Rd w9 la cs) := hRL
  have A_9 : Hid (X3 w9 w.heap.size (.int .i64 f) (.slice sa sn sc) (.slice la ln lc)) := hA
  have W_9 : Hid (OwnTb w9 w3.heap.size w4.heap.size (.slice sa3 ns sc3) (.slice la3 nl lc3) nb) := hW
  have WX_9 : Hid (X3 w9 w4.heap.size (.int .i64 nf) (.slice sa3 ns sc3) (.slice la3 nl lc3)) := hWX
  have B2_9 : Hid (OwnTb w9 w5.heap.size w6.heap.size (.slice sa2 sn sc2) (.slice la2 ln lc2) ⟨f, ps, cs⟩) := hB2
  have Y_9 : Hid (X3 w9 w6.heap.size (.int .i64 f) (.slice sa2 sn sc2) (.slice la2 ln lc2)) := hY
  have G_9 : Hid (OwnTb w9 w7.heap.size w8.heap.size (.slice sa4 ns sc4) (.slice la4 nl lc4) nb) := hG
  have GX_9 : Hid (X3 w9 w8.heap.size (.int .i64 nf) (.slice sa4 ns sc4) (.slice la4 nl lc4)) := hGX
  have z9 : w8.heap.size + 1 ≤ w9.heap.size := by omega
  clear HB_8 RS_8 RL_8 A_8 W_8 WX_8 B2_8 Y_8 G_8 hHB hRS hRL hA hW hWX hB2 hY hG hGX hz
  obtain ⟨⟨GXq0, GXq1, GXq2⟩, GXf⟩ := id (GX_9.out)
  clear GXf
  obtain ⟨⟨WXq0, WXq1, WXq2⟩, WXf⟩ := id (WX_9.out)
  clear WXf
  go_wp2_with fail
  clear hV9
  refine (eqTable_c nf sa4 ns sc4 la4 nl lc4 sa3 sc3 la3 lc3 nb _ HSN.out G_9.out.rd W_9.out.rd).mono ?_
  clear GXq0 GXq1 GXq2
  clear WXq0 WXq1 WXq2
  rintro e w10 ⟨rfl, hb⟩
  have hB : Below w9.heap.size w9 w10 := hb
  have HB_10 : Hid (Below w.heap.size w w10) := HB_9.out.trans (hB.mono HB_9.out.size)
  have RS_10 : Hid (RdII w10 sa ps) := RS_9.out.later hB
  have RL_10 : Hid (Rd w10 la cs) := RL_9.out.later hB
  have A_10 : Hid (X3 w10 w.heap.size (.int .i64 f) (.slice sa sn sc) (.slice la ln lc)) := A_9.out.later hB
  have W_10 : Hid (OwnTb w10 w3.heap.size w4.heap.size (.slice sa3 ns sc3) (.slice la3 nl lc3) nb) := W_9.out.later hB
  have WX_10 : Hid (X3 w10 w4.heap.size (.int .i64 nf) (.slice sa3 ns sc3) (.slice la3 nl lc3)) := WX_9.out.later hB
  have B2_10 : Hid (OwnTb w10 w5.heap.size w6.heap.size (.slice sa2 sn sc2) (.slice la2 ln lc2) ⟨f, ps, cs⟩) := B2_9.out.later hB
  have Y_10 : Hid (X3 w10 w6.heap.size (.int .i64 f) (.slice sa2 sn sc2) (.slice la2 ln lc2)) := Y_9.out.later hB
  have G_10 : Hid (OwnTb w10 w7.heap.size w8.heap.size (.slice sa4 ns sc4) (.slice la4 nl lc4) nb) := G_9.out.later hB
  have GX_10 : Hid (X3 w10 w8.heap.size (.int .i64 nf) (.slice sa4 ns sc4) (.slice la4 nl lc4)) := GX_9.out.later hB
  have z10 : w9.heap.size ≤ w10.heap.size := hB.size
  clear hb hB HB_9 RS_9 RL_9 A_9 W_9 WX_9 B2_9 Y_9 G_9 GX_9 
  obtain ⟨⟨Aq0, Aq1, Aq2⟩, Af⟩ := id (A_10.out)
  clear Af
  obtain ⟨⟨Yq0, Yq1, Yq2⟩, Yf⟩ := id (Y_10.out)
  clear Yf
  go_wp2_with fail
  refine wp_region_held_drew (S := (fun X => (X.cell? ⟨w6.heap.size, 0, none⟩ = some (.int .i64 f) ∧ X.cell? ⟨w6.heap.size, 1, none⟩ = some (.slice sa2 sn sc2) ∧ X.cell? ⟨w6.heap.size, 2, none⟩ = some (.slice la2 ln lc2)) ∧ (X.cell? ⟨w.heap.size, 0, none⟩ = some (.int .i64 f) ∧ X.cell? ⟨w.heap.size, 1, none⟩ = some (.slice sa sn sc) ∧ X.cell? ⟨w.heap.size, 2, none⟩ = some (.slice la ln lc)))) (by kernel_rfl) ?_ (fun hHeld => ?_)
  · exact ⟨(Y_10.out.later (Below.refl _ _).drew).1, (A_10.out.later (Below.refl _ _).drew).1⟩
  clear Aq0 Aq1 Aq2
  clear Yq0 Yq1 Yq2
  obtain ⟨D0, hD0⟩ : ∃ D, w10.drew = D := ⟨_, rfl⟩
  have hb0 : Below w10.heap.size w10 D0 := by rw [← hD0]; exact (Below.refl _ _).drew
  rw [hD0] at hHeld ⊢
  have HD0 : Hid (Below w10.heap.size w10 D0) := hb0
  clear hb0 hD0
  refine takeSG15 (i := 0) (oi := _) (v := ?_) (d := some 53) rfl (by kernel_rfl) (by kernel_rfl) (by kernel_rfl) (by kernel_rfl) (fun _ _ _ h => h) (Or.inl ⟨by rfl, ?_⟩) (by assumption) ?_
  rotate_left
  · (intro w hSw; (try dsimp only at hSw); go_simp <;> with_reducible rfl)
  try simp only [Act.put, List.setIfInBounds_toArray, List.set_cons_zero, List.set_cons_succ]
  refine takeSG15 (i := 1) (oi := _) (v := ?_) (d := some 54) rfl (by kernel_rfl) (by kernel_rfl) (by kernel_rfl) (by kernel_rfl) (fun _ _ _ h => h) (Or.inl ⟨by rfl, ?_⟩) (by assumption) ?_
  rotate_left
  · (intro w hSw; (try dsimp only at hSw); go_simp <;> with_reducible rfl)
  try simp only [Act.put, List.setIfInBounds_toArray, List.set_cons_zero, List.set_cons_succ]
  refine wpAnyH_ready (rs := [2]) (by kernel_rfl) (by simp) ?_
  refine AllReadyH.cons (o := _) rfl (fun K hK => ?_) AllReadyH.nil
  go_simp
  refine (toTable_c f sa sn sc la ln lc ps cs _ HS.out hsn HL.out hln (RS_10.out.later HD0.out) (RL_10.out.later HD0.out) HSL.out).mono ?_
  rintro x D1 ⟨sa5, sc5, la5, lc5, rfl, ho, hb⟩
  have HD1 : Hid (Below w10.heap.size w10 D1) := HD0.out.trans (hb.mono HD0.out.size)
  have HN1 : Hid (RdTb D1 sa5 sn sc5 la5 ln lc5 ⟨f, ps, cs⟩) := ho.rd
  clear ho hb HD0
  refine hK.out _ _ ?_ (fun hHeld => ?_)
  · exact ⟨(Y_10.out.later HD1.out).1, (A_10.out.later HD1.out).1⟩
  clear hK K
  try simp only [Act.put, List.setIfInBounds_toArray, List.set_cons_zero, List.set_cons_succ]
  refine wpAnyH_ready (rs := [3]) (by kernel_rfl) (by simp) ?_
  refine AllReadyH.cons (o := _) rfl (fun K hK => ?_) AllReadyH.nil
  go_simp
  refine (eqTable_c f sa2 sn sc2 la2 ln lc2 sa5 sc5 la5 lc5 ⟨f, ps, cs⟩ _ HSM.out (B2_10.out.later HD1.out).rd HN1.out).mono ?_
  rintro x w12 ⟨rfl, hb⟩
  have HD2 : Hid (Below w10.heap.size w10 w12) := HD1.out.trans (hb.mono HD1.out.size)
  clear hb HD1 HN1
  refine hK.out _ _ ?_ (fun hHeld => ?_)
  · exact ⟨(Y_10.out.later HD2.out).1, (A_10.out.later HD2.out).1⟩
  clear hK K
  try simp only [Act.put, List.setIfInBounds_toArray, List.set_cons_zero, List.set_cons_succ]
  refine takeSG15 (i := 4) (oi := _) (v := ?_) (d := some 57) rfl (by kernel_rfl) (by kernel_rfl) (by kernel_rfl) (by kernel_rfl) (fun _ _ _ h => h) (Or.inl ⟨by rfl, ?_⟩) (by assumption) ?_
  rotate_left
  · (intro w hSw; (try dsimp only at hSw); go_simp <;> with_reducible rfl)
  try simp only [Act.put, List.setIfInBounds_toArray, List.set_cons_zero, List.set_cons_succ]
  refine wpAnyH_done (by kernel_rfl) ?_ _
  clear hHeld
  have HB_12 : Hid (Below w.heap.size w w12) := HB_10.out.trans (HD2.out.mono HB_10.out.size)
  have RS_12 : Hid (RdII w12 sa ps) := RS_10.out.later HD2.out
  have RL_12 : Hid (Rd w12 la cs) := RL_10.out.later HD2.out
  have A_12 : Hid (X3 w12 w.heap.size (.int .i64 f) (.slice sa sn sc) (.slice la ln lc)) := A_10.out.later HD2.out
  have W_12 : Hid (OwnTb w12 w3.heap.size w4.heap.size (.slice sa3 ns sc3) (.slice la3 nl lc3) nb) := W_10.out.later HD2.out
  have WX_12 : Hid (X3 w12 w4.heap.size (.int .i64 nf) (.slice sa3 ns sc3) (.slice la3 nl lc3)) := WX_10.out.later HD2.out
  have B2_12 : Hid (OwnTb w12 w5.heap.size w6.heap.size (.slice sa2 sn sc2) (.slice la2 ln lc2) ⟨f, ps, cs⟩) := B2_10.out.later HD2.out
  have Y_12 : Hid (X3 w12 w6.heap.size (.int .i64 f) (.slice sa2 sn sc2) (.slice la2 ln lc2)) := Y_10.out.later HD2.out
  have G_12 : Hid (OwnTb w12 w7.heap.size w8.heap.size (.slice sa4 ns sc4) (.slice la4 nl lc4) nb) := G_10.out.later HD2.out
  have GX_12 : Hid (X3 w12 w8.heap.size (.int .i64 nf) (.slice sa4 ns sc4) (.slice la4 nl lc4)) := GX_10.out.later HD2.out
  have z12 : w10.heap.size ≤ w12.heap.size := HD2.out.size
  clear HD2 HB_10 RS_10 RL_10 A_10 W_10 WX_10 B2_10 Y_10 G_10 GX_10
  obtain ⟨⟨Yq0, Yq1, Yq2⟩, Yf⟩ := id (Y_12.out)
  clear Yf
  go_wp2_with fail
  refine (markTable_c f sa2 sn sc2 la2 ln lc2 w5.heap.size w6.heap.size ⟨f, ps, cs⟩ _ HSM.out (by omega) B2_12.out).mono ?_
  rw [HNA.out]
  clear Yq0 Yq1 Yq2
  rintro x w13 ⟨rfl, ho, hr⟩
  have z13 : w12.heap.size ≤ w13.heap.size := hr.size
  have HB_13 : Hid (Below w.heap.size w w13) := HB_12.out.trans (hr.below (fun k h => by have := HB_12.out.size; have h9 := h; omega) HB_12.out.size)
  have A_13 : Hid (X3 w13 w.heap.size (.int .i64 f) (.slice sa sn sc) (.slice la ln lc)) := A_12.out.rngP hr (fun h => by have h9 := h; omega)
  have W_13 : Hid (OwnTb w13 w3.heap.size w4.heap.size (.slice sa3 ns sc3) (.slice la3 nl lc3) nb) := W_12.out.rng hr (fun k1 h1 h2 h => by have h9 := h; omega)
  have WX_13 : Hid (X3 w13 w4.heap.size (.int .i64 nf) (.slice sa3 ns sc3) (.slice la3 nl lc3)) := WX_12.out.rngP hr (fun h => by have h9 := h; omega)
  have Y_13 : Hid (X3 w13 w6.heap.size (.int .i64 f) (.slice sa2 sn sc2) (.slice la2 ln lc2)) := Y_12.out.rngP hr (fun h => by have h9 := h; omega)
  have G_13 : Hid (OwnTb w13 w7.heap.size w8.heap.size (.slice sa4 ns sc4) (.slice la4 nl lc4) nb) := G_12.out.rng hr (fun k1 h1 h2 h => by have h9 := h; omega)
  have GX_13 : Hid (X3 w13 w8.heap.size (.int .i64 nf) (.slice sa4 ns sc4) (.slice la4 nl lc4)) := GX_12.out.rngP hr (fun h => by have h9 := h; omega)
  have RS_13 : Hid (RdII w13 sa ps) := HR0RS.out _ HB_13.out
  have RL_13 : Hid (Rd w13 la cs) := HR0RL.out _ HB_13.out
  clear ho hr HB_12 RS_12 RL_12 A_12 W_12 WX_12 B2_12 Y_12 G_12 GX_12
  obtain ⟨⟨GXq0, GXq1, GXq2⟩, GXf⟩ := id (GX_13.out)
  clear GXf
  obtain ⟨⟨WXq0, WXq1, WXq2⟩, WXf⟩ := id (WX_13.out)
  clear WXf
  go_wp2_with fail
  refine (eqTable_c nf sa4 ns sc4 la4 nl lc4 sa3 sc3 la3 lc3 nb _ HSN.out G_13.out.rd W_13.out.rd).mono ?_
  clear GXq0 GXq1 GXq2
  clear WXq0 WXq1 WXq2
  rintro e w14 ⟨rfl, hb⟩
  have hB : Below w13.heap.size w13 w14 := hb
  have HB_14 : Hid (Below w.heap.size w w14) := HB_13.out.trans (hB.mono HB_13.out.size)
  have RS_14 : Hid (RdII w14 sa ps) := RS_13.out.later hB
  have RL_14 : Hid (Rd w14 la cs) := RL_13.out.later hB
  have A_14 : Hid (X3 w14 w.heap.size (.int .i64 f) (.slice sa sn sc) (.slice la ln lc)) := A_13.out.later hB
  have W_14 : Hid (OwnTb w14 w3.heap.size w4.heap.size (.slice sa3 ns sc3) (.slice la3 nl lc3) nb) := W_13.out.later hB
  have WX_14 : Hid (X3 w14 w4.heap.size (.int .i64 nf) (.slice sa3 ns sc3) (.slice la3 nl lc3)) := WX_13.out.later hB
  have Y_14 : Hid (X3 w14 w6.heap.size (.int .i64 f) (.slice sa2 sn sc2) (.slice la2 ln lc2)) := Y_13.out.later hB
  have G_14 : Hid (OwnTb w14 w7.heap.size w8.heap.size (.slice sa4 ns sc4) (.slice la4 nl lc4) nb) := G_13.out.later hB
  have GX_14 : Hid (X3 w14 w8.heap.size (.int .i64 nf) (.slice sa4 ns sc4) (.slice la4 nl lc4)) := GX_13.out.later hB
  have z14 : w13.heap.size ≤ w14.heap.size := hB.size
  clear hb hB HB_13 RS_13 RL_13 A_13 W_13 WX_13 Y_13 G_13 GX_13 
  obtain ⟨⟨GXq0, GXq1, GXq2⟩, GXf⟩ := id (GX_14.out)
  clear GXf
  go_wp2_with fail
  refine (markTable_c nf sa4 ns sc4 la4 nl lc4 w7.heap.size w8.heap.size nb _ HSN.out (by omega) G_14.out).mono ?_
  rw [HNN.out]
  clear GXq0 GXq1 GXq2
  rintro x w15 ⟨rfl, ho, hr⟩
  have z15 : w14.heap.size ≤ w15.heap.size := hr.size
  have HB_15 : Hid (Below w.heap.size w w15) := HB_14.out.trans (hr.below (fun k h => by have := HB_14.out.size; have h9 := h; omega) HB_14.out.size)
  have A_15 : Hid (X3 w15 w.heap.size (.int .i64 f) (.slice sa sn sc) (.slice la ln lc)) := A_14.out.rngP hr (fun h => by have h9 := h; omega)
  have W_15 : Hid (OwnTb w15 w3.heap.size w4.heap.size (.slice sa3 ns sc3) (.slice la3 nl lc3) nb) := W_14.out.rng hr (fun k1 h1 h2 h => by have h9 := h; omega)
  have WX_15 : Hid (X3 w15 w4.heap.size (.int .i64 nf) (.slice sa3 ns sc3) (.slice la3 nl lc3)) := WX_14.out.rngP hr (fun h => by have h9 := h; omega)
  have Y_15 : Hid (X3 w15 w6.heap.size (.int .i64 f) (.slice sa2 sn sc2) (.slice la2 ln lc2)) := Y_14.out.rngP hr (fun h => by have h9 := h; omega)
  have GX_15 : Hid (X3 w15 w8.heap.size (.int .i64 nf) (.slice sa4 ns sc4) (.slice la4 nl lc4)) := GX_14.out.rngP hr (fun h => by have h9 := h; omega)
  have RS_15 : Hid (RdII w15 sa ps) := HR0RS.out _ HB_15.out
  have RL_15 : Hid (Rd w15 la cs) := HR0RL.out _ HB_15.out
  have G_15 : Hid (OwnTb w15 w7.heap.size w8.heap.size (.slice sa4 ns sc4) (.slice la4 nl lc4) (markTb nb)) := ho
  clear ho hr HB_14 RS_14 RL_14 A_14 W_14 WX_14 Y_14 G_14 GX_14
  obtain ⟨⟨GXq0, GXq1, GXq2⟩, GXf⟩ := id (GX_15.out)
  clear GXf
  go_wp2_with fail
  refine (heldTable_c nf sa4 ns sc4 la4 nl lc4 w7.heap.size w8.heap.size nb _ HSN.out HN1.out HN2.out G_15.out).mono ?_
  rw [HNN.out]
  clear GXq0 GXq1 GXq2
  rintro e w16 ⟨rfl, hb⟩
  have hB : Below w15.heap.size w15 w16 := hb
  have HB_16 : Hid (Below w.heap.size w w16) := HB_15.out.trans (hB.mono HB_15.out.size)
  have RS_16 : Hid (RdII w16 sa ps) := RS_15.out.later hB
  have RL_16 : Hid (Rd w16 la cs) := RL_15.out.later hB
  have A_16 : Hid (X3 w16 w.heap.size (.int .i64 f) (.slice sa sn sc) (.slice la ln lc)) := A_15.out.later hB
  have W_16 : Hid (OwnTb w16 w3.heap.size w4.heap.size (.slice sa3 ns sc3) (.slice la3 nl lc3) nb) := W_15.out.later hB
  have WX_16 : Hid (X3 w16 w4.heap.size (.int .i64 nf) (.slice sa3 ns sc3) (.slice la3 nl lc3)) := WX_15.out.later hB
  have Y_16 : Hid (X3 w16 w6.heap.size (.int .i64 f) (.slice sa2 sn sc2) (.slice la2 ln lc2)) := Y_15.out.later hB
  have G_16 : Hid (OwnTb w16 w7.heap.size w8.heap.size (.slice sa4 ns sc4) (.slice la4 nl lc4) (markTb nb)) := G_15.out.later hB
  have GX_16 : Hid (X3 w16 w8.heap.size (.int .i64 nf) (.slice sa4 ns sc4) (.slice la4 nl lc4)) := GX_15.out.later hB
  have z16 : w15.heap.size ≤ w16.heap.size := hB.size
  clear hb hB HB_15 RS_15 RL_15 A_15 W_15 WX_15 Y_15 G_15 GX_15 
  obtain ⟨⟨Aq0, Aq1, Aq2⟩, Af⟩ := id (A_16.out)
  clear Af
  go_wp2_with fail
  refine (toTable_c f sa sn sc la ln lc ps cs _ HS.out hsn HL.out hln RS_16.out RL_16.out HSL.out).mono ?_
  clear Aq0 Aq1 Aq2
  rintro e w17 ⟨sa6, sc6, la6, lc6, rfl, ho, hb⟩
  have hB : Below w16.heap.size w16 w17 := hb
  have HB_17 : Hid (Below w.heap.size w w17) := HB_16.out.trans (hB.mono HB_16.out.size)
  have RS_17 : Hid (RdII w17 sa ps) := RS_16.out.later hB
  have RL_17 : Hid (Rd w17 la cs) := RL_16.out.later hB
  have A_17 : Hid (X3 w17 w.heap.size (.int .i64 f) (.slice sa sn sc) (.slice la ln lc)) := A_16.out.later hB
  have W_17 : Hid (OwnTb w17 w3.heap.size w4.heap.size (.slice sa3 ns sc3) (.slice la3 nl lc3) nb) := W_16.out.later hB
  have WX_17 : Hid (X3 w17 w4.heap.size (.int .i64 nf) (.slice sa3 ns sc3) (.slice la3 nl lc3)) := WX_16.out.later hB
  have Y_17 : Hid (X3 w17 w6.heap.size (.int .i64 f) (.slice sa2 sn sc2) (.slice la2 ln lc2)) := Y_16.out.later hB
  have G_17 : Hid (OwnTb w17 w7.heap.size w8.heap.size (.slice sa4 ns sc4) (.slice la4 nl lc4) (markTb nb)) := G_16.out.later hB
  have GX_17 : Hid (X3 w17 w8.heap.size (.int .i64 nf) (.slice sa4 ns sc4) (.slice la4 nl lc4)) := GX_16.out.later hB
  have z17 : w16.heap.size ≤ w17.heap.size := hB.size
  have B6_17 : Hid (OwnTb w17 w16.heap.size w17.heap.size (.slice sa6 sn sc6) (.slice la6 ln lc6) ⟨f, ps, cs⟩) := ho
  clear hb hB HB_16 RS_16 RL_16 A_16 W_16 WX_16 Y_16 G_16 GX_16 ho
  go_wp2_with fail
  refine (HQI.out sa6 sc6 la6 lc6 _ (rdT_of HSM.out B6_17.out.rd)).mono ?_
  rintro e w18 ⟨sa7, sc7, la7, lc7, rfl, ho, hb⟩
  have hB : Below w17.heap.size w17 w18 := hb
  have HB_18 : Hid (Below w.heap.size w w18) := HB_17.out.trans (hB.mono HB_17.out.size)
  have RS_18 : Hid (RdII w18 sa ps) := RS_17.out.later hB
  have RL_18 : Hid (Rd w18 la cs) := RL_17.out.later hB
  have A_18 : Hid (X3 w18 w.heap.size (.int .i64 f) (.slice sa sn sc) (.slice la ln lc)) := A_17.out.later hB
  have W_18 : Hid (OwnTb w18 w3.heap.size w4.heap.size (.slice sa3 ns sc3) (.slice la3 nl lc3) nb) := W_17.out.later hB
  have WX_18 : Hid (X3 w18 w4.heap.size (.int .i64 nf) (.slice sa3 ns sc3) (.slice la3 nl lc3)) := WX_17.out.later hB
  have Y_18 : Hid (X3 w18 w6.heap.size (.int .i64 f) (.slice sa2 sn sc2) (.slice la2 ln lc2)) := Y_17.out.later hB
  have G_18 : Hid (OwnTb w18 w7.heap.size w8.heap.size (.slice sa4 ns sc4) (.slice la4 nl lc4) (markTb nb)) := G_17.out.later hB
  have GX_18 : Hid (X3 w18 w8.heap.size (.int .i64 nf) (.slice sa4 ns sc4) (.slice la4 nl lc4)) := GX_17.out.later hB
  have z18 : w17.heap.size ≤ w18.heap.size := hB.size
  have H_18 : Hid (OwnTb w18 w17.heap.size w18.heap.size (.slice sa7 ns sc7) (.slice la7 nl lc7) nb) := ho
  clear hb hB HB_17 RS_17 RL_17 A_17 W_17 WX_17 Y_17 G_17 GX_17 B6_17 ho
  have hHB := HB_18.out.alloc HB_18.out.size (.cells #[.int .i64 nf, .slice sa7 ns sc7, .slice la7 nl lc7] 26)
  have hRS := RS_18.out.later (balloc w18 (.cells #[.int .i64 nf, .slice sa7 ns sc7, .slice la7 nl lc7] 26))
  have hRL := RL_18.out.later (balloc w18 (.cells #[.int .i64 nf, .slice sa7 ns sc7, .slice la7 nl lc7] 26))
  have hA := A_18.out.later (balloc w18 (.cells #[.int .i64 nf, .slice sa7 ns sc7, .slice la7 nl lc7] 26))
  have hW := W_18.out.later (balloc w18 (.cells #[.int .i64 nf, .slice sa7 ns sc7, .slice la7 nl lc7] 26))
  have hWX := WX_18.out.later (balloc w18 (.cells #[.int .i64 nf, .slice sa7 ns sc7, .slice la7 nl lc7] 26))
  have hY := Y_18.out.later (balloc w18 (.cells #[.int .i64 nf, .slice sa7 ns sc7, .slice la7 nl lc7] 26))
  have hG := G_18.out.later (balloc w18 (.cells #[.int .i64 nf, .slice sa7 ns sc7, .slice la7 nl lc7] 26))
  have hGX := GX_18.out.later (balloc w18 (.cells #[.int .i64 nf, .slice sa7 ns sc7, .slice la7 nl lc7] 26))
  have hH := H_18.out.later (balloc w18 (.cells #[.int .i64 nf, .slice sa7 ns sc7, .slice la7 nl lc7] 26))
  have hHX := x3_new w18 (.int .i64 nf) (.slice sa7 ns sc7) (.slice la7 nl lc7) 26 w18.heap.size rfl
  have hz : (w18.alloc (.cells #[.int .i64 nf, .slice sa7 ns sc7, .slice la7 nl lc7] 26)).heap.size = w18.heap.size + 1 := by simp
  obtain ⟨w19, hV19⟩ : ∃ V, w18.alloc (.cells #[.int .i64 nf, .slice sa7 ns sc7, .slice la7 nl lc7] 26) = V := ⟨_, rfl⟩
  rw [hV19] at hHB hRS hRL hA hW hWX hY hG hGX hH hHX hz
  have HB_19 : Hid (Below w.heap.size w w19) := hHB
  have RS_19 : Hid (RdII w19 sa ps) := hRS
  have RL_19 : Hid (Rd w19 la cs) := hRL
  have A_19 : Hid (X3 w19 w.heap.size (.int .i64 f) (.slice sa sn sc) (.slice la ln lc)) := hA
  have W_19 : Hid (OwnTb w19 w3.heap.size w4.heap.size (.slice sa3 ns sc3) (.slice la3 nl lc3) nb) := hW
  have WX_19 : Hid (X3 w19 w4.heap.size (.int .i64 nf) (.slice sa3 ns sc3) (.slice la3 nl lc3)) := hWX
  have Y_19 : Hid (X3 w19 w6.heap.size (.int .i64 f) (.slice sa2 sn sc2) (.slice la2 ln lc2)) := hY
  have G_19 : Hid (OwnTb w19 w7.heap.size w8.heap.size (.slice sa4 ns sc4) (.slice la4 nl lc4) (markTb nb)) := hG
  have GX_19 : Hid (X3 w19 w8.heap.size (.int .i64 nf) (.slice sa4 ns sc4) (.slice la4 nl lc4)) := hGX
  have H_19 : Hid (OwnTb w19 w17.heap.size w18.heap.size (.slice sa7 ns sc7) (.slice la7 nl lc7) nb) := hH
  have HX_19 : Hid (X3 w19 w18.heap.size (.int .i64 nf) (.slice sa7 ns sc7) (.slice la7 nl lc7)) := hHX
  have z19 : w18.heap.size + 1 ≤ w19.heap.size := by omega
  clear HB_18 RS_18 RL_18 A_18 W_18 WX_18 Y_18 G_18 GX_18 H_18 hHB hRS hRL hA hW hWX hY hG hGX hH hHX hz
  obtain ⟨⟨HXq0, HXq1, HXq2⟩, HXf⟩ := id (HX_19.out)
  clear HXf
  obtain ⟨⟨WXq0, WXq1, WXq2⟩, WXf⟩ := id (WX_19.out)
  clear WXf
  go_wp2_with fail
  clear hV19
  refine (eqTable_c nf sa7 ns sc7 la7 nl lc7 sa3 sc3 la3 lc3 nb _ HSN.out H_19.out.rd W_19.out.rd).mono ?_
  clear HXq0 HXq1 HXq2
  clear WXq0 WXq1 WXq2
  rintro e w20 ⟨rfl, hb⟩
  have hB : Below w19.heap.size w19 w20 := hb
  have HB_20 : Hid (Below w.heap.size w w20) := HB_19.out.trans (hB.mono HB_19.out.size)
  have RS_20 : Hid (RdII w20 sa ps) := RS_19.out.later hB
  have RL_20 : Hid (Rd w20 la cs) := RL_19.out.later hB
  have A_20 : Hid (X3 w20 w.heap.size (.int .i64 f) (.slice sa sn sc) (.slice la ln lc)) := A_19.out.later hB
  have W_20 : Hid (OwnTb w20 w3.heap.size w4.heap.size (.slice sa3 ns sc3) (.slice la3 nl lc3) nb) := W_19.out.later hB
  have WX_20 : Hid (X3 w20 w4.heap.size (.int .i64 nf) (.slice sa3 ns sc3) (.slice la3 nl lc3)) := WX_19.out.later hB
  have Y_20 : Hid (X3 w20 w6.heap.size (.int .i64 f) (.slice sa2 sn sc2) (.slice la2 ln lc2)) := Y_19.out.later hB
  have G_20 : Hid (OwnTb w20 w7.heap.size w8.heap.size (.slice sa4 ns sc4) (.slice la4 nl lc4) (markTb nb)) := G_19.out.later hB
  have GX_20 : Hid (X3 w20 w8.heap.size (.int .i64 nf) (.slice sa4 ns sc4) (.slice la4 nl lc4)) := GX_19.out.later hB
  have H_20 : Hid (OwnTb w20 w17.heap.size w18.heap.size (.slice sa7 ns sc7) (.slice la7 nl lc7) nb) := H_19.out.later hB
  have HX_20 : Hid (X3 w20 w18.heap.size (.int .i64 nf) (.slice sa7 ns sc7) (.slice la7 nl lc7)) := HX_19.out.later hB
  have z20 : w19.heap.size ≤ w20.heap.size := hB.size
  clear hb hB HB_19 RS_19 RL_19 A_19 W_19 WX_19 Y_19 G_19 GX_19 H_19 HX_19 
  obtain ⟨⟨GXq0, GXq1, GXq2⟩, GXf⟩ := id (GX_20.out)
  clear GXf
  go_wp2_with fail
  refine (heldTable_c nf sa4 ns sc4 la4 nl lc4 w7.heap.size w8.heap.size nb _ HSN.out HN1.out HN2.out G_20.out).mono ?_
  rw [HNN.out]
  clear GXq0 GXq1 GXq2
  rintro e w21 ⟨rfl, hb⟩
  have hB : Below w20.heap.size w20 w21 := hb
  have HB_21 : Hid (Below w.heap.size w w21) := HB_20.out.trans (hB.mono HB_20.out.size)
  have RS_21 : Hid (RdII w21 sa ps) := RS_20.out.later hB
  have RL_21 : Hid (Rd w21 la cs) := RL_20.out.later hB
  have A_21 : Hid (X3 w21 w.heap.size (.int .i64 f) (.slice sa sn sc) (.slice la ln lc)) := A_20.out.later hB
  have W_21 : Hid (OwnTb w21 w3.heap.size w4.heap.size (.slice sa3 ns sc3) (.slice la3 nl lc3) nb) := W_20.out.later hB
  have WX_21 : Hid (X3 w21 w4.heap.size (.int .i64 nf) (.slice sa3 ns sc3) (.slice la3 nl lc3)) := WX_20.out.later hB
  have Y_21 : Hid (X3 w21 w6.heap.size (.int .i64 f) (.slice sa2 sn sc2) (.slice la2 ln lc2)) := Y_20.out.later hB
  have G_21 : Hid (OwnTb w21 w7.heap.size w8.heap.size (.slice sa4 ns sc4) (.slice la4 nl lc4) (markTb nb)) := G_20.out.later hB
  have GX_21 : Hid (X3 w21 w8.heap.size (.int .i64 nf) (.slice sa4 ns sc4) (.slice la4 nl lc4)) := GX_20.out.later hB
  have H_21 : Hid (OwnTb w21 w17.heap.size w18.heap.size (.slice sa7 ns sc7) (.slice la7 nl lc7) nb) := H_20.out.later hB
  have HX_21 : Hid (X3 w21 w18.heap.size (.int .i64 nf) (.slice sa7 ns sc7) (.slice la7 nl lc7)) := HX_20.out.later hB
  have z21 : w20.heap.size ≤ w21.heap.size := hB.size
  clear hb hB HB_20 RS_20 RL_20 A_20 W_20 WX_20 Y_20 G_20 GX_20 H_20 HX_20 
  go_wp2
  go_ret
  exact ⟨rfl, HB_21.out⟩

end Go.Proofs.Ytheagikallnppaa
