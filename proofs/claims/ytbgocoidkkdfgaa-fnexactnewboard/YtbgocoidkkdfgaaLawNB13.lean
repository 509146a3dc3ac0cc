/- The law on NewBoard, walked: it answers true at every argument and turns nothing that was there. -/
import Derived.Test.YtbgocoidkkdfgaaN13
namespace Go.Proofs.Ytbgocoidkkdfgaa
set_option linter.unusedVariables false
set_option maxRecDepth 1000000
set_option linter.unusedSimpArgs false
open Go.RowKit

theorem newV_small (f : Int) (li : List Int) : SmallBd (newV f li) := by
  unfold newV
  split
  · rename_i h
    have h2 : (li.length : Int) ≤ f ∧ f ≤ 2 := by
      unfold couB at h
      rw [Bool.and_eq_true, Bool.and_eq_true, Bool.and_eq_true, inB_iff] at h
      exact ⟨of_decide_eq_true h.2.1.1, h.1.2⟩
    refine ⟨by simp, ?_, by simp, fun l hl => by simp at hl⟩
    show li.length ≤ _
    omega
  · exact ⟨by simp [zeroBd], by simp [zeroBd], by simp [zeroBd], fun l hl => by simp [zeroBd] at hl⟩

set_option maxHeartbeats 16000000 in
theorem lawNew_c (f : Int) (la : Option Addr) (ln lc : Nat) (li : List Int) (w : World) (hl : li.length = ln) (hln0 : ln ≤ 9223372036854775807) (hr : Rd w la li) :
    Calls Try.prog 5 #[.int .i64 f, .slice la ln lc] w fun e w' => e = .returned (.bool true) ∧ Below w.heap.size w w' := by
  obtain ⟨nb, hnb⟩ : ∃ nb, newV f li = nb := ⟨_, rfl⟩
  obtain ⟨fb, hF⟩ : ∃ fb, couB f li = fb := ⟨_, rfl⟩
  obtain ⟨nf, hn1⟩ : ∃ n, nb.f = n := ⟨_, rfl⟩
  obtain ⟨ne, hn2⟩ : ∃ n, nb.e = n := ⟨_, rfl⟩
  obtain ⟨ns, hn3⟩ : ∃ n, nb.sg.length = n := ⟨_, rfl⟩
  obtain ⟨nl, hn4⟩ : ∃ n, nb.li.length = n := ⟨_, rfl⟩
  obtain ⟨nt, hn5⟩ : ∃ n, nb.ls.length = n := ⟨_, rfl⟩
  have HSN : Hid (SmallBd nb) := by rw [← hnb]; exact newV_small f li
  have HQS : Hid (∀ p k wx {B : Nat}, Own wx B (.slice p ln k) li → ln ≤ 1048576 → Calls Try.prog 34 #[.int .i64 f, .slice p ln k] wx fun r w' => ∃ sa' sc' la' lc' ta' tc', r = .returned (.tuple #[.agg #[.int .i64 nf, .int .i64 ne, .slice sa' ns sc', .slice la' nl lc', .slice ta' nt tc'], .bool fb]) ∧ OwnBd w' wx.heap.size w'.heap.size (.slice sa' ns sc') (.slice la' nl lc') (.slice ta' nt tc') nb ∧ Below wx.heap.size wx w') := fun p k wx B h h2 => by
    have := specNew_c f p ln k li wx hl h2 h.rd'.2 h.nil
    unfold NewOk at this
    rw [hnb, hF, hn1, hn2, hn3, hn4, hn5] at this
    exact this
  have HQI : Hid (∀ p k wx {B : Nat}, Own wx B (.slice p ln k) li → ln ≤ 1048576 → Calls Try.prog 33 #[.int .i64 f, .slice p ln k] wx fun r w' => ∃ sa' sc' la' lc' ta' tc', r = .returned (.tuple #[.agg #[.int .i64 nf, .int .i64 ne, .slice sa' ns sc', .slice la' nl lc', .slice ta' nt tc'], .bool fb]) ∧ OwnBd w' wx.heap.size w'.heap.size (.slice sa' ns sc') (.slice la' nl lc') (.slice ta' nt tc') nb ∧ Below wx.heap.size wx w') := fun p k wx B h h2 => by
    have := implNew_c f p ln k li wx hl h2 h.rd'.2 h.nil
    unfold NewOk at this
    rw [hnb, hF, hn1, hn2, hn3, hn4, hn5] at this
    exact this
  have HL : Hid (li.length = ln) := hl
  have HN1 : Hid (nb.sg.length = ns) := hn3
  have HN2 : Hid (nb.li.length = nl) := hn4
  have HN3 : Hid (nb.ls.length = nt) := hn5
  have HR0RP : Hid (∀ wx, Below w.heap.size w wx → Rd wx la li) := fun wx h => hr.later h
  have hfb : (fb != fb) = false := by simp
  obtain ⟨Mn, hMn⟩ : ∃ M : Int, 1 + ((numB nb : Nat) : Int) = M := ⟨_, rfl⟩
  have HNN : Hid (1 + ((numB nb : Nat) : Int) = Mn) := hMn
  have hmn : ¬ Mn < 0 := by omega
  have hmm : (Mn != Mn) = false := by simp
  have hmo : ¬ (1 : Int) + (ln : Int) < 0 := by omega
  clear hF hnb hn1 hn2 hn3 hn4 hn5 hMn hl
  have HB_0 : Hid (Below w.heap.size w w) := Below.refl _ _
  have RP_0 : Hid (Rd w la li) := hr
  clear hr
  go_enter Try.func5, Try.ntmps5
  by_cases hsz : 1048576 < ln
  · have hsz2 : (1048576 : Int) < (ln : Int) := by omega
    go_wp2
    go_ret
    exact ⟨rfl, HB_0.out⟩
  have hsz2 : ¬ (1048576 : Int) < (ln : Int) := by omega
  go_wp2_with fail
  refine (toIntS_c la ln lc li _ HL.out (by omega) RP_0.out).mono ?_
  rintro e w1 ⟨p1, k1, rfl, ho, hb⟩
  have hB : Below w.heap.size w w1 := hb
  have HB_1 : Hid (Below w.heap.size w w1) := HB_0.out.trans (hB.mono HB_0.out.size)
  have RP_1 : Hid (Rd w1 la li) := RP_0.out.later hB
  have z1 : w.heap.size ≤ w1.heap.size := hB.size
  have P1_1 : Hid (Own w1 w.heap.size (Value.slice p1 ln k1) (li)) := ho
  have I_P1 : Hid (∀ k, (Value.slice p1 ln k1).ownBlock = some k → w.heap.size ≤ k ∧ k < w1.heap.size) := World.ownsRow.lt P1_1.out
  clear hb hB HB_0 RP_0 ho
  go_wp2_with fail
  refine (HQS.out p1 k1 _ P1_1.out (by omega)).mono ?_
  rintro e w2 ⟨sa1, sc1, la1, lc1, ta1, tc1, rfl, ho, hb⟩
  have hB : Below w1.heap.size w1 w2 := hb
  have HB_2 : Hid (Below w.heap.size w w2) := HB_1.out.trans (hB.mono HB_1.out.size)
  have RP_2 : Hid (Rd w2 la li) := RP_1.out.later hB
  have z2 : w1.heap.size ≤ w2.heap.size := hB.size
  have BW_2 : Hid (OwnBd w2 w1.heap.size w2.heap.size (.slice sa1 ns sc1) (.slice la1 nl lc1) (.slice ta1 nt tc1) nb) := ho
  clear hb hB HB_1 RP_1 P1_1 ho
  have hHB := HB_2.out.alloc HB_2.out.size (.cells #[.int .i64 nf, .int .i64 ne, .slice sa1 ns sc1, .slice la1 nl lc1, .slice ta1 nt tc1] 29)
  have hRP := RP_2.out.later (balloc w2 (.cells #[.int .i64 nf, .int .i64 ne, .slice sa1 ns sc1, .slice la1 nl lc1, .slice ta1 nt tc1] 29))
  have hBW := BW_2.out.later (balloc w2 (.cells #[.int .i64 nf, .int .i64 ne, .slice sa1 ns sc1, .slice la1 nl lc1, .slice ta1 nt tc1] 29))
  have hX := x5_new w2 (.int .i64 nf) (.int .i64 ne) (.slice sa1 ns sc1) (.slice la1 nl lc1) (.slice ta1 nt tc1) 29 w2.heap.size rfl
  have hz : (w2.alloc (.cells #[.int .i64 nf, .int .i64 ne, .slice sa1 ns sc1, .slice la1 nl lc1, .slice ta1 nt tc1] 29)).heap.size = w2.heap.size + 1 := by simp
  obtain ⟨w3, hV3⟩ : ∃ V, w2.alloc (.cells #[.int .i64 nf, .int .i64 ne, .slice sa1 ns sc1, .slice la1 nl lc1, .slice ta1 nt tc1] 29) = V := ⟨_, rfl⟩
  rw [hV3] at hHB hRP hBW hX hz
  have HB_3 : Hid (Below w.heap.size w w3) := hHB
  have RP_3 : Hid (Rd w3 la li) := hRP
  have BW_3 : Hid (OwnBd w3 w1.heap.size w2.heap.size (.slice sa1 ns sc1) (.slice la1 nl lc1) (.slice ta1 nt tc1) nb) := hBW
  have X_3 : Hid (X5 w3 w2.heap.size (.int .i64 nf) (.int .i64 ne) (.slice sa1 ns sc1) (.slice la1 nl lc1) (.slice ta1 nt tc1)) := hX
  have z3 : w2.heap.size + 1 ≤ w3.heap.size := by omega
  clear HB_2 RP_2 BW_2 hHB hRP hBW hX hz
  go_wp2_with fail
  clear hV3
  refine (toIntS_c la ln lc li _ HL.out (by omega) RP_3.out).mono ?_
  rintro e w4 ⟨p2, k2, rfl, ho, hb⟩
  have hB : Below w3.heap.size w3 w4 := hb
  have HB_4 : Hid (Below w.heap.size w w4) := HB_3.out.trans (hB.mono HB_3.out.size)
  have RP_4 : Hid (Rd w4 la li) := RP_3.out.later hB
  have BW_4 : Hid (OwnBd w4 w1.heap.size w2.heap.size (.slice sa1 ns sc1) (.slice la1 nl lc1) (.slice ta1 nt tc1) nb) := BW_3.out.later hB
  have X_4 : Hid (X5 w4 w2.heap.size (.int .i64 nf) (.int .i64 ne) (.slice sa1 ns sc1) (.slice la1 nl lc1) (.slice ta1 nt tc1)) := X_3.out.later hB
  have z4 : w3.heap.size ≤ w4.heap.size := hB.size
  have P2_4 : Hid (Own w4 w3.heap.size (Value.slice p2 ln k2) (li)) := ho
  have I_P2 : Hid (∀ k, (Value.slice p2 ln k2).ownBlock = some k → w3.heap.size ≤ k ∧ k < w4.heap.size) := World.ownsRow.lt P2_4.out
  clear hb hB HB_3 RP_3 BW_3 X_3 ho
  go_wp2_with fail
  refine (HQI.out p2 k2 _ P2_4.out (by omega)).mono ?_
  rintro e w5 ⟨sa2, sc2, la2, lc2, ta2, tc2, rfl, ho, hb⟩
  have hB : Below w4.heap.size w4 w5 := hb
  have HB_5 : Hid (Below w.heap.size w w5) := HB_4.out.trans (hB.mono HB_4.out.size)
  have RP_5 : Hid (Rd w5 la li) := RP_4.out.later hB
  have BW_5 : Hid (OwnBd w5 w1.heap.size w2.heap.size (.slice sa1 ns sc1) (.slice la1 nl lc1) (.slice ta1 nt tc1) nb) := BW_4.out.later hB
  have X_5 : Hid (X5 w5 w2.heap.size (.int .i64 nf) (.int .i64 ne) (.slice sa1 ns sc1) (.slice la1 nl lc1) (.slice ta1 nt tc1)) := X_4.out.later hB
  have P2_5 : Hid (Own w5 w3.heap.size (Value.slice p2 ln k2) (li)) := P2_4.out.later hB
  have z5 : w4.heap.size ≤ w5.heap.size := hB.size
  have BG_5 : Hid (OwnBd w5 w4.heap.size w5.heap.size (.slice sa2 ns sc2) (.slice la2 nl lc2) (.slice ta2 nt tc2) nb) := ho
  clear hb hB HB_4 RP_4 BW_4 X_4 P2_4 ho
  have hHB := HB_5.out.alloc HB_5.out.size (.cells #[.int .i64 nf, .int .i64 ne, .slice sa2 ns sc2, .slice la2 nl lc2, .slice ta2 nt tc2] 29)
  have hRP := RP_5.out.later (balloc w5 (.cells #[.int .i64 nf, .int .i64 ne, .slice sa2 ns sc2, .slice la2 nl lc2, .slice ta2 nt tc2] 29))
  have hBW := BW_5.out.later (balloc w5 (.cells #[.int .i64 nf, .int .i64 ne, .slice sa2 ns sc2, .slice la2 nl lc2, .slice ta2 nt tc2] 29))
  have hX := X_5.out.later (balloc w5 (.cells #[.int .i64 nf, .int .i64 ne, .slice sa2 ns sc2, .slice la2 nl lc2, .slice ta2 nt tc2] 29))
  have hP2 := P2_5.out.later (balloc w5 (.cells #[.int .i64 nf, .int .i64 ne, .slice sa2 ns sc2, .slice la2 nl lc2, .slice ta2 nt tc2] 29))
  have hBG := BG_5.out.later (balloc w5 (.cells #[.int .i64 nf, .int .i64 ne, .slice sa2 ns sc2, .slice la2 nl lc2, .slice ta2 nt tc2] 29))
  have hY := x5_new w5 (.int .i64 nf) (.int .i64 ne) (.slice sa2 ns sc2) (.slice la2 nl lc2) (.slice ta2 nt tc2) 29 w5.heap.size rfl
  have hz : (w5.alloc (.cells #[.int .i64 nf, .int .i64 ne, .slice sa2 ns sc2, .slice la2 nl lc2, .slice ta2 nt tc2] 29)).heap.size = w5.heap.size + 1 := by simp
  obtain ⟨w6, hV6⟩ : ∃ V, w5.alloc (.cells #[.int .i64 nf, .int .i64 ne, .slice sa2 ns sc2, .slice la2 nl lc2, .slice ta2 nt tc2] 29) = V := ⟨_, rfl⟩
  rw [hV6] at hHB hRP hBW hX hP2 hBG hY hz
  have HB_6 : Hid (Below w.heap.size w w6) := hHB
  have RP_6 : Hid (Rd w6 la li) := hRP
  have BW_6 : Hid (OwnBd w6 w1.heap.size w2.heap.size (.slice sa1 ns sc1) (.slice la1 nl lc1) (.slice ta1 nt tc1) nb) := hBW
  have X_6 : Hid (X5 w6 w2.heap.size (.int .i64 nf) (.int .i64 ne) (.slice sa1 ns sc1) (.slice la1 nl lc1) (.slice ta1 nt tc1)) := hX
  have P2_6 : Hid (Own w6 w3.heap.size (Value.slice p2 ln k2) (li)) := hP2
  have BG_6 : Hid (OwnBd w6 w4.heap.size w5.heap.size (.slice sa2 ns sc2) (.slice la2 nl lc2) (.slice ta2 nt tc2) nb) := hBG
  have Y_6 : Hid (X5 w6 w5.heap.size (.int .i64 nf) (.int .i64 ne) (.slice sa2 ns sc2) (.slice la2 nl lc2) (.slice ta2 nt tc2)) := hY
  have z6 : w5.heap.size + 1 ≤ w6.heap.size := by omega
  clear HB_5 RP_5 BW_5 X_5 P2_5 BG_5 hHB hRP hBW hX hP2 hBG hY hz
  obtain ⟨⟨Xq0, Xq1, Xq2, Xq3, Xq4⟩, Xf⟩ := id (X_6.out)
  clear Xf
  obtain ⟨⟨Yq0, Yq1, Yq2, Yq3, Yq4⟩, Yf⟩ := id (Y_6.out)
  clear Yf
  go_wp2_with fail
  clear hV6
  refine (eqBoard_c nf ne sa2 ns sc2 la2 nl lc2 ta2 nt tc2 sa1 sc1 la1 lc1 ta1 tc1 nb _ HSN.out BG_6.out.rd BW_6.out.rd).mono ?_
  clear Xq0 Xq1 Xq2 Xq3 Xq4
  clear Yq0 Yq1 Yq2 Yq3 Yq4
  rintro e w7 ⟨rfl, hb⟩
  have hB : Below w6.heap.size w6 w7 := hb
  have HB_7 : Hid (Below w.heap.size w w7) := HB_6.out.trans (hB.mono HB_6.out.size)
  have RP_7 : Hid (Rd w7 la li) := RP_6.out.later hB
  have BW_7 : Hid (OwnBd w7 w1.heap.size w2.heap.size (.slice sa1 ns sc1) (.slice la1 nl lc1) (.slice ta1 nt tc1) nb) := BW_6.out.later hB
  have X_7 : Hid (X5 w7 w2.heap.size (.int .i64 nf) (.int .i64 ne) (.slice sa1 ns sc1) (.slice la1 nl lc1) (.slice ta1 nt tc1)) := X_6.out.later hB
  have P2_7 : Hid (Own w7 w3.heap.size (Value.slice p2 ln k2) (li)) := P2_6.out.later hB
  have BG_7 : Hid (OwnBd w7 w4.heap.size w5.heap.size (.slice sa2 ns sc2) (.slice la2 nl lc2) (.slice ta2 nt tc2) nb) := BG_6.out.later hB
  have Y_7 : Hid (X5 w7 w5.heap.size (.int .i64 nf) (.int .i64 ne) (.slice sa2 ns sc2) (.slice la2 nl lc2) (.slice ta2 nt tc2)) := Y_6.out.later hB
  have z7 : w6.heap.size ≤ w7.heap.size := hB.size
  clear hb hB HB_6 RP_6 BW_6 X_6 P2_6 BG_6 Y_6 
  go_wp2_with fail
  refine (toIntS_c la ln lc li _ HL.out (by omega) RP_7.out).mono ?_
  rintro e w8 ⟨p3, k3, rfl, ho, hb⟩
  have hB : Below w7.heap.size w7 w8 := hb
  have HB_8 : Hid (Below w.heap.size w w8) := HB_7.out.trans (hB.mono HB_7.out.size)
  have RP_8 : Hid (Rd w8 la li) := RP_7.out.later hB
  have BW_8 : Hid (OwnBd w8 w1.heap.size w2.heap.size (.slice sa1 ns sc1) (.slice la1 nl lc1) (.slice ta1 nt tc1) nb) := BW_7.out.later hB
  have X_8 : Hid (X5 w8 w2.heap.size (.int .i64 nf) (.int .i64 ne) (.slice sa1 ns sc1) (.slice la1 nl lc1) (.slice ta1 nt tc1)) := X_7.out.later hB
  have P2_8 : Hid (Own w8 w3.heap.size (Value.slice p2 ln k2) (li)) := P2_7.out.later hB
  have BG_8 : Hid (OwnBd w8 w4.heap.size w5.heap.size (.slice sa2 ns sc2) (.slice la2 nl lc2) (.slice ta2 nt tc2) nb) := BG_7.out.later hB
  have Y_8 : Hid (X5 w8 w5.heap.size (.int .i64 nf) (.int .i64 ne) (.slice sa2 ns sc2) (.slice la2 nl lc2) (.slice ta2 nt tc2)) := Y_7.out.later hB
  have z8 : w7.heap.size ≤ w8.heap.size := hB.size
  have P3_8 : Hid (Own w8 w7.heap.size (Value.slice p3 ln k3) (li)) := ho
  have I_P3 : Hid (∀ k, (Value.slice p3 ln k3).ownBlock = some k → w7.heap.size ≤ k ∧ k < w8.heap.size) := World.ownsRow.lt P3_8.out
  clear hb hB HB_7 RP_7 BW_7 X_7 P2_7 BG_7 Y_7 ho
  go_wp2_with fail
  refine (eqIntS_c p2 p3 ln ln k2 k3 li li _ HL.out HL.out (by omega) (by omega) P2_8.out.rd'.2 P3_8.out.rd'.2).mono ?_
  rw [decide_eq_true rfl]
  rintro e w9 ⟨rfl, hb⟩
  have hB : Below w8.heap.size w8 w9 := hb
  have HB_9 : Hid (Below w.heap.size w w9) := HB_8.out.trans (hB.mono HB_8.out.size)
  have RP_9 : Hid (Rd w9 la li) := RP_8.out.later hB
  have BW_9 : Hid (OwnBd w9 w1.heap.size w2.heap.size (.slice sa1 ns sc1) (.slice la1 nl lc1) (.slice ta1 nt tc1) nb) := BW_8.out.later hB
  have X_9 : Hid (X5 w9 w2.heap.size (.int .i64 nf) (.int .i64 ne) (.slice sa1 ns sc1) (.slice la1 nl lc1) (.slice ta1 nt tc1)) := X_8.out.later hB
  have P2_9 : Hid (Own w9 w3.heap.size (Value.slice p2 ln k2) (li)) := P2_8.out.later hB
  have BG_9 : Hid (OwnBd w9 w4.heap.size w5.heap.size (.slice sa2 ns sc2) (.slice la2 nl lc2) (.slice ta2 nt tc2) nb) := BG_8.out.later hB
  have Y_9 : Hid (X5 w9 w5.heap.size (.int .i64 nf) (.int .i64 ne) (.slice sa2 ns sc2) (.slice la2 nl lc2) (.slice ta2 nt tc2)) := Y_8.out.later hB
  have z9 : w8.heap.size ≤ w9.heap.size := hB.size
  clear hb hB HB_8 RP_8 BW_8 X_8 P2_8 BG_8 Y_8 P3_8 
  go_wp2_with fail
  refine (markIntS_c p2 ln k2 1 w3.heap.size li _ (by omega) (by omega) (by omega) P2_9.out).mono ?_
  rintro x w10 ⟨rfl, ho, hg⟩
  have z10 : w9.heap.size ≤ w10.heap.size := hg.size
  have hr := RngP.ofGrown hg (pp := fun k => (Value.slice p2 ln k2).ownBlock = some k) (fun k h => h)
  have HB_10 : Hid (Below w.heap.size w w10) := HB_9.out.trans (hr.below (fun k h => by have := HB_9.out.size; have h9 := I_P2.out _ h; omega) HB_9.out.size)
  have BW_10 : Hid (OwnBd w10 w1.heap.size w2.heap.size (.slice sa1 ns sc1) (.slice la1 nl lc1) (.slice ta1 nt tc1) nb) := BW_9.out.rng hr (fun k1 h1 h2 h => by have h9 := I_P2.out _ h; omega)
  have X_10 : Hid (X5 w10 w2.heap.size (.int .i64 nf) (.int .i64 ne) (.slice sa1 ns sc1) (.slice la1 nl lc1) (.slice ta1 nt tc1)) := X_9.out.rngP hr (fun h => by have h9 := I_P2.out _ h; omega)
  have BG_10 : Hid (OwnBd w10 w4.heap.size w5.heap.size (.slice sa2 ns sc2) (.slice la2 nl lc2) (.slice ta2 nt tc2) nb) := BG_9.out.rng hr (fun k1 h1 h2 h => by have h9 := I_P2.out _ h; omega)
  have Y_10 : Hid (X5 w10 w5.heap.size (.int .i64 nf) (.int .i64 ne) (.slice sa2 ns sc2) (.slice la2 nl lc2) (.slice ta2 nt tc2)) := Y_9.out.rngP hr (fun h => by have h9 := I_P2.out _ h; omega)
  have RP_10 : Hid (Rd w10 la li) := HR0RP.out _ HB_10.out
  have P2_10 : Hid (Own w10 w3.heap.size (Value.slice p2 ln k2) (marks 1 ln)) := ho
  clear ho hg hr HB_9 RP_9 BW_9 X_9 P2_9 BG_9 Y_9
  clear P2_10
  obtain ⟨⟨Xq0, Xq1, Xq2, Xq3, Xq4⟩, Xf⟩ := id (X_10.out)
  clear Xf
  obtain ⟨⟨Yq0, Yq1, Yq2, Yq3, Yq4⟩, Yf⟩ := id (Y_10.out)
  clear Yf
  go_wp2_with fail
  refine (eqBoard_c nf ne sa2 ns sc2 la2 nl lc2 ta2 nt tc2 sa1 sc1 la1 lc1 ta1 tc1 nb _ HSN.out BG_10.out.rd BW_10.out.rd).mono ?_
  clear Xq0 Xq1 Xq2 Xq3 Xq4
  clear Yq0 Yq1 Yq2 Yq3 Yq4
  rintro e w11 ⟨rfl, hb⟩
  have hB : Below w10.heap.size w10 w11 := hb
  have HB_11 : Hid (Below w.heap.size w w11) := HB_10.out.trans (hB.mono HB_10.out.size)
  have RP_11 : Hid (Rd w11 la li) := RP_10.out.later hB
  have BW_11 : Hid (OwnBd w11 w1.heap.size w2.heap.size (.slice sa1 ns sc1) (.slice la1 nl lc1) (.slice ta1 nt tc1) nb) := BW_10.out.later hB
  have X_11 : Hid (X5 w11 w2.heap.size (.int .i64 nf) (.int .i64 ne) (.slice sa1 ns sc1) (.slice la1 nl lc1) (.slice ta1 nt tc1)) := X_10.out.later hB
  have BG_11 : Hid (OwnBd w11 w4.heap.size w5.heap.size (.slice sa2 ns sc2) (.slice la2 nl lc2) (.slice ta2 nt tc2) nb) := BG_10.out.later hB
  have Y_11 : Hid (X5 w11 w5.heap.size (.int .i64 nf) (.int .i64 ne) (.slice sa2 ns sc2) (.slice la2 nl lc2) (.slice ta2 nt tc2)) := Y_10.out.later hB
  have z11 : w10.heap.size ≤ w11.heap.size := hB.size
  clear hb hB HB_10 RP_10 BW_10 X_10 BG_10 Y_10 
  obtain ⟨⟨Yq0, Yq1, Yq2, Yq3, Yq4⟩, Yf⟩ := id (Y_11.out)
  clear Yf
  go_wp2_with fail
  refine (markBoard_c nf ne sa2 ns sc2 la2 nl lc2 ta2 nt tc2 w4.heap.size w5.heap.size nb _ HSN.out (by omega) BG_11.out).mono ?_
  rw [HNN.out]
  clear Yq0 Yq1 Yq2 Yq3 Yq4
  rintro x w12 ⟨rfl, ho, hr⟩
  have z12 : w11.heap.size ≤ w12.heap.size := hr.size
  have HB_12 : Hid (Below w.heap.size w w12) := HB_11.out.trans (hr.below (fun k h => by have := HB_11.out.size; have h9 := h; omega) HB_11.out.size)
  have BW_12 : Hid (OwnBd w12 w1.heap.size w2.heap.size (.slice sa1 ns sc1) (.slice la1 nl lc1) (.slice ta1 nt tc1) nb) := BW_11.out.rng hr (fun k1 h1 h2 h => by have h9 := h; omega)
  have X_12 : Hid (X5 w12 w2.heap.size (.int .i64 nf) (.int .i64 ne) (.slice sa1 ns sc1) (.slice la1 nl lc1) (.slice ta1 nt tc1)) := X_11.out.rngP hr (fun h => by have h9 := h; omega)
  have Y_12 : Hid (X5 w12 w5.heap.size (.int .i64 nf) (.int .i64 ne) (.slice sa2 ns sc2) (.slice la2 nl lc2) (.slice ta2 nt tc2)) := Y_11.out.rngP hr (fun h => by have h9 := h; omega)
  have RP_12 : Hid (Rd w12 la li) := HR0RP.out _ HB_12.out
  have BG_12 : Hid (OwnBd w12 w4.heap.size w5.heap.size (.slice sa2 ns sc2) (.slice la2 nl lc2) (.slice ta2 nt tc2) (markB nb)) := ho
  clear ho hr HB_11 RP_11 BW_11 X_11 BG_11 Y_11
  obtain ⟨⟨Yq0, Yq1, Yq2, Yq3, Yq4⟩, Yf⟩ := id (Y_12.out)
  clear Yf
  go_wp2_with fail
  refine (heldBoard_c nf ne sa2 ns sc2 la2 nl lc2 ta2 nt tc2 w4.heap.size w5.heap.size nb _ HSN.out HN1.out HN2.out HN3.out BG_12.out).mono ?_
  rw [HNN.out]
  clear Yq0 Yq1 Yq2 Yq3 Yq4
  rintro e w13 ⟨rfl, hb⟩
  have hB : Below w12.heap.size w12 w13 := hb
  have HB_13 : Hid (Below w.heap.size w w13) := HB_12.out.trans (hB.mono HB_12.out.size)
  have RP_13 : Hid (Rd w13 la li) := RP_12.out.later hB
  have BW_13 : Hid (OwnBd w13 w1.heap.size w2.heap.size (.slice sa1 ns sc1) (.slice la1 nl lc1) (.slice ta1 nt tc1) nb) := BW_12.out.later hB
  have X_13 : Hid (X5 w13 w2.heap.size (.int .i64 nf) (.int .i64 ne) (.slice sa1 ns sc1) (.slice la1 nl lc1) (.slice ta1 nt tc1)) := X_12.out.later hB
  have BG_13 : Hid (OwnBd w13 w4.heap.size w5.heap.size (.slice sa2 ns sc2) (.slice la2 nl lc2) (.slice ta2 nt tc2) (markB nb)) := BG_12.out.later hB
  have Y_13 : Hid (X5 w13 w5.heap.size (.int .i64 nf) (.int .i64 ne) (.slice sa2 ns sc2) (.slice la2 nl lc2) (.slice ta2 nt tc2)) := Y_12.out.later hB
  have z13 : w12.heap.size ≤ w13.heap.size := hB.size
  clear hb hB HB_12 RP_12 BW_12 X_12 BG_12 Y_12 
  go_wp2_with fail
  refine (toIntS_c la ln lc li _ HL.out (by omega) RP_13.out).mono ?_
  rintro e w14 ⟨p4, k4, rfl, ho, hb⟩
  have hB : Below w13.heap.size w13 w14 := hb
  have HB_14 : Hid (Below w.heap.size w w14) := HB_13.out.trans (hB.mono HB_13.out.size)
  have RP_14 : Hid (Rd w14 la li) := RP_13.out.later hB
  have BW_14 : Hid (OwnBd w14 w1.heap.size w2.heap.size (.slice sa1 ns sc1) (.slice la1 nl lc1) (.slice ta1 nt tc1) nb) := BW_13.out.later hB
  have X_14 : Hid (X5 w14 w2.heap.size (.int .i64 nf) (.int .i64 ne) (.slice sa1 ns sc1) (.slice la1 nl lc1) (.slice ta1 nt tc1)) := X_13.out.later hB
  have BG_14 : Hid (OwnBd w14 w4.heap.size w5.heap.size (.slice sa2 ns sc2) (.slice la2 nl lc2) (.slice ta2 nt tc2) (markB nb)) := BG_13.out.later hB
  have Y_14 : Hid (X5 w14 w5.heap.size (.int .i64 nf) (.int .i64 ne) (.slice sa2 ns sc2) (.slice la2 nl lc2) (.slice ta2 nt tc2)) := Y_13.out.later hB
  have z14 : w13.heap.size ≤ w14.heap.size := hB.size
  have P4_14 : Hid (Own w14 w13.heap.size (Value.slice p4 ln k4) (li)) := ho
  have I_P4 : Hid (∀ k, (Value.slice p4 ln k4).ownBlock = some k → w13.heap.size ≤ k ∧ k < w14.heap.size) := World.ownsRow.lt P4_14.out
  clear hb hB HB_13 RP_13 BW_13 X_13 BG_13 Y_13 ho
  go_wp2_with fail
  refine (HQI.out p4 k4 _ P4_14.out (by omega)).mono ?_
  rintro e w15 ⟨sa4, sc4, la4, lc4, ta4, tc4, rfl, ho, hb⟩
  have hB : Below w14.heap.size w14 w15 := hb
  have HB_15 : Hid (Below w.heap.size w w15) := HB_14.out.trans (hB.mono HB_14.out.size)
  have RP_15 : Hid (Rd w15 la li) := RP_14.out.later hB
  have BW_15 : Hid (OwnBd w15 w1.heap.size w2.heap.size (.slice sa1 ns sc1) (.slice la1 nl lc1) (.slice ta1 nt tc1) nb) := BW_14.out.later hB
  have X_15 : Hid (X5 w15 w2.heap.size (.int .i64 nf) (.int .i64 ne) (.slice sa1 ns sc1) (.slice la1 nl lc1) (.slice ta1 nt tc1)) := X_14.out.later hB
  have BG_15 : Hid (OwnBd w15 w4.heap.size w5.heap.size (.slice sa2 ns sc2) (.slice la2 nl lc2) (.slice ta2 nt tc2) (markB nb)) := BG_14.out.later hB
  have Y_15 : Hid (X5 w15 w5.heap.size (.int .i64 nf) (.int .i64 ne) (.slice sa2 ns sc2) (.slice la2 nl lc2) (.slice ta2 nt tc2)) := Y_14.out.later hB
  have z15 : w14.heap.size ≤ w15.heap.size := hB.size
  have BH_15 : Hid (OwnBd w15 w14.heap.size w15.heap.size (.slice sa4 ns sc4) (.slice la4 nl lc4) (.slice ta4 nt tc4) nb) := ho
  clear hb hB HB_14 RP_14 BW_14 X_14 BG_14 Y_14 P4_14 ho
  have hHB := HB_15.out.alloc HB_15.out.size (.cells #[.int .i64 nf, .int .i64 ne, .slice sa4 ns sc4, .slice la4 nl lc4, .slice ta4 nt tc4] 29)
  have hRP := RP_15.out.later (balloc w15 (.cells #[.int .i64 nf, .int .i64 ne, .slice sa4 ns sc4, .slice la4 nl lc4, .slice ta4 nt tc4] 29))
  have hBW := BW_15.out.later (balloc w15 (.cells #[.int .i64 nf, .int .i64 ne, .slice sa4 ns sc4, .slice la4 nl lc4, .slice ta4 nt tc4] 29))
  have hX := X_15.out.later (balloc w15 (.cells #[.int .i64 nf, .int .i64 ne, .slice sa4 ns sc4, .slice la4 nl lc4, .slice ta4 nt tc4] 29))
  have hBG := BG_15.out.later (balloc w15 (.cells #[.int .i64 nf, .int .i64 ne, .slice sa4 ns sc4, .slice la4 nl lc4, .slice ta4 nt tc4] 29))
  have hY := Y_15.out.later (balloc w15 (.cells #[.int .i64 nf, .int .i64 ne, .slice sa4 ns sc4, .slice la4 nl lc4, .slice ta4 nt tc4] 29))
  have hBH := BH_15.out.later (balloc w15 (.cells #[.int .i64 nf, .int .i64 ne, .slice sa4 ns sc4, .slice la4 nl lc4, .slice ta4 nt tc4] 29))
  have hZ := x5_new w15 (.int .i64 nf) (.int .i64 ne) (.slice sa4 ns sc4) (.slice la4 nl lc4) (.slice ta4 nt tc4) 29 w15.heap.size rfl
  have hz : (w15.alloc (.cells #[.int .i64 nf, .int .i64 ne, .slice sa4 ns sc4, .slice la4 nl lc4, .slice ta4 nt tc4] 29)).heap.size = w15.heap.size + 1 := by simp
  obtain ⟨w16, hV16⟩ : ∃ V, w15.alloc (.cells #[.int .i64 nf, .int .i64 ne, .slice sa4 ns sc4, .slice la4 nl lc4, .slice ta4 nt tc4] 29) = V := ⟨_, rfl⟩
  rw [hV16] at hHB hRP hBW hX hBG hY hBH hZ hz
  have HB_16 : Hid (Below w.heap.size w w16) := hHB
  have RP_16 : Hid (Rd w16 la li) := hRP
  have BW_16 : Hid (OwnBd w16 w1.heap.size w2.heap.size (.slice sa1 ns sc1) (.slice la1 nl lc1) (.slice ta1 nt tc1) nb) := hBW
  have X_16 : Hid (X5 w16 w2.heap.size (.int .i64 nf) (.int .i64 ne) (.slice sa1 ns sc1) (.slice la1 nl lc1) (.slice ta1 nt tc1)) := hX
  have BG_16 : Hid (OwnBd w16 w4.heap.size w5.heap.size (.slice sa2 ns sc2) (.slice la2 nl lc2) (.slice ta2 nt tc2) (markB nb)) := hBG
  have Y_16 : Hid (X5 w16 w5.heap.size (.int .i64 nf) (.int .i64 ne) (.slice sa2 ns sc2) (.slice la2 nl lc2) (.slice ta2 nt tc2)) := hY
  have BH_16 : Hid (OwnBd w16 w14.heap.size w15.heap.size (.slice sa4 ns sc4) (.slice la4 nl lc4) (.slice ta4 nt tc4) nb) := hBH
  have Z_16 : Hid (X5 w16 w15.heap.size (.int .i64 nf) (.int .i64 ne) (.slice sa4 ns sc4) (.slice la4 nl lc4) (.slice ta4 nt tc4)) := hZ
  have z16 : w15.heap.size + 1 ≤ w16.heap.size := by omega
  clear HB_15 RP_15 BW_15 X_15 BG_15 Y_15 BH_15 hHB hRP hBW hX hBG hY hBH hZ hz
  obtain ⟨⟨Xq0, Xq1, Xq2, Xq3, Xq4⟩, Xf⟩ := id (X_16.out)
  clear Xf
  obtain ⟨⟨Zq0, Zq1, Zq2, Zq3, Zq4⟩, Zf⟩ := id (Z_16.out)
  clear Zf
  go_wp2_with fail
  clear hV16
  refine (eqBoard_c nf ne sa4 ns sc4 la4 nl lc4 ta4 nt tc4 sa1 sc1 la1 lc1 ta1 tc1 nb _ HSN.out BH_16.out.rd BW_16.out.rd).mono ?_
  clear Xq0 Xq1 Xq2 Xq3 Xq4
  clear Zq0 Zq1 Zq2 Zq3 Zq4
  rintro e w17 ⟨rfl, hb⟩
  have hB : Below w16.heap.size w16 w17 := hb
  have HB_17 : Hid (Below w.heap.size w w17) := HB_16.out.trans (hB.mono HB_16.out.size)
  have RP_17 : Hid (Rd w17 la li) := RP_16.out.later hB
  have BW_17 : Hid (OwnBd w17 w1.heap.size w2.heap.size (.slice sa1 ns sc1) (.slice la1 nl lc1) (.slice ta1 nt tc1) nb) := BW_16.out.later hB
  have X_17 : Hid (X5 w17 w2.heap.size (.int .i64 nf) (.int .i64 ne) (.slice sa1 ns sc1) (.slice la1 nl lc1) (.slice ta1 nt tc1)) := X_16.out.later hB
  have BG_17 : Hid (OwnBd w17 w4.heap.size w5.heap.size (.slice sa2 ns sc2) (.slice la2 nl lc2) (.slice ta2 nt tc2) (markB nb)) := BG_16.out.later hB
  have Y_17 : Hid (X5 w17 w5.heap.size (.int .i64 nf) (.int .i64 ne) (.slice sa2 ns sc2) (.slice la2 nl lc2) (.slice ta2 nt tc2)) := Y_16.out.later hB
  have BH_17 : Hid (OwnBd w17 w14.heap.size w15.heap.size (.slice sa4 ns sc4) (.slice la4 nl lc4) (.slice ta4 nt tc4) nb) := BH_16.out.later hB
  have Z_17 : Hid (X5 w17 w15.heap.size (.int .i64 nf) (.int .i64 ne) (.slice sa4 ns sc4) (.slice la4 nl lc4) (.slice ta4 nt tc4)) := Z_16.out.later hB
  have z17 : w16.heap.size ≤ w17.heap.size := hB.size
  clear hb hB HB_16 RP_16 BW_16 X_16 BG_16 Y_16 BH_16 Z_16 
  obtain ⟨⟨Yq0, Yq1, Yq2, Yq3, Yq4⟩, Yf⟩ := id (Y_17.out)
  clear Yf
  go_wp2_with fail
  refine (heldBoard_c nf ne sa2 ns sc2 la2 nl lc2 ta2 nt tc2 w4.heap.size w5.heap.size nb _ HSN.out HN1.out HN2.out HN3.out BG_17.out).mono ?_
  rw [HNN.out]
  clear Yq0 Yq1 Yq2 Yq3 Yq4
  rintro e w18 ⟨rfl, hb⟩
  have hB : Below w17.heap.size w17 w18 := hb
  have HB_18 : Hid (Below w.heap.size w w18) := HB_17.out.trans (hB.mono HB_17.out.size)
  have RP_18 : Hid (Rd w18 la li) := RP_17.out.later hB
  have BW_18 : Hid (OwnBd w18 w1.heap.size w2.heap.size (.slice sa1 ns sc1) (.slice la1 nl lc1) (.slice ta1 nt tc1) nb) := BW_17.out.later hB
  have X_18 : Hid (X5 w18 w2.heap.size (.int .i64 nf) (.int .i64 ne) (.slice sa1 ns sc1) (.slice la1 nl lc1) (.slice ta1 nt tc1)) := X_17.out.later hB
  have BG_18 : Hid (OwnBd w18 w4.heap.size w5.heap.size (.slice sa2 ns sc2) (.slice la2 nl lc2) (.slice ta2 nt tc2) (markB nb)) := BG_17.out.later hB
  have Y_18 : Hid (X5 w18 w5.heap.size (.int .i64 nf) (.int .i64 ne) (.slice sa2 ns sc2) (.slice la2 nl lc2) (.slice ta2 nt tc2)) := Y_17.out.later hB
  have BH_18 : Hid (OwnBd w18 w14.heap.size w15.heap.size (.slice sa4 ns sc4) (.slice la4 nl lc4) (.slice ta4 nt tc4) nb) := BH_17.out.later hB
  have Z_18 : Hid (X5 w18 w15.heap.size (.int .i64 nf) (.int .i64 ne) (.slice sa4 ns sc4) (.slice la4 nl lc4) (.slice ta4 nt tc4)) := Z_17.out.later hB
  have z18 : w17.heap.size ≤ w18.heap.size := hB.size
  clear hb hB HB_17 RP_17 BW_17 X_17 BG_17 Y_17 BH_17 Z_17 
  go_wp2
  go_ret
  exact ⟨rfl, HB_18.out⟩

end Go.Proofs.Ytbgocoidkkdfgaa
