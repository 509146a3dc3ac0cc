/- The law on RunTrip, walked: it answers true at every argument and turns nothing that was there. -/
import Derived.Test.YtdhnolafkgkliaaLH11
namespace Go.Proofs.Ytdhnolafkgkliaa
set_option linter.unusedVariables false
set_option maxRecDepth 1000000
set_option linter.unusedSimpArgs false
open Go.RowKit

theorem trip_len (xs : List Int) (l lo : Int) : (tripV xs l lo).hands.length ≤ 6 ∧ (tripV xs l lo).recs.length ≤ 6 := by
  unfold tripV
  split
  · rename_i h
    have h1 := trip_parts h
    have h2 := secsH_len h1.1
    simp only [handsL_length, recsL_length]
    unfold atI
    split <;> omega
  · simp

set_option maxHeartbeats 16000000 in
theorem lawTrip_c (ao : Option Addr) (n c : Nat) (xs : List Int) (l lo : Int) (w : World) (hx : xs.length = n) (hn0 : n ≤ 9223372036854775807) (hr : Rd w ao xs) :
    Calls Try.prog 4 #[.slice ao n c, .int .i64 l, .int .i64 lo] w fun e w' => e = .returned (.bool true) ∧ Below w.heap.size w w' := by
  have hlen := trip_len xs l lo
  have qs := fun p' k' wx h1 h2 => specTrip_c p' n k' xs l lo wx hx h2 h1
  have qi := fun p' k' wx h1 h2 => implTrip_c p' n k' xs l lo wx hx h2 h1
  obtain ⟨lh, h1⟩ : ∃ z, (tripV xs l lo).hands = z := ⟨_, rfl⟩
  obtain ⟨lr, h2⟩ : ∃ z, (tripV xs l lo).recs = z := ⟨_, rfl⟩
  rw [h1, h2] at hlen
  simp only [h1, h2] at qs qi
  obtain ⟨nh, h3⟩ : ∃ z, lh.length = z := ⟨_, rfl⟩
  obtain ⟨nr, h4⟩ : ∃ z, lr.length = z := ⟨_, rfl⟩
  rw [h3, h4] at hlen
  simp only [h3, h4] at qs qi
  generalize (tripV xs l lo).letter = vl at qs qi
  generalize (tripV xs l lo).at = va at qs qi
  generalize (tripV xs l lo).lost = vo at qs qi
  generalize tripOk xs l lo = fb at qs qi
  have hnh : nh ≤ 1000 := by omega
  have hnr : nr ≤ 1000 := by omega
  have HQS : Hid (∀ p' k' wx, Rd wx p' xs → n ≤ 17592186044416 → Calls Try.prog 8 #[.slice p' n k', .int .i64 l, .int .i64 lo] wx fun e w' => ∃ ha hc ra rc, e = .returned (.tuple #[.agg #[.slice ha nh hc, .int .i64 vl, .int .i64 va, .slice ra nr rc, .int .i64 vo], .bool fb]) ∧ Own w' wx.heap.size (.slice ha nh hc) lh ∧ OwnR w' wx.heap.size (.slice ra nr rc) lr ∧ Below wx.heap.size wx w') := qs
  have HQI : Hid (∀ p' k' wx, Rd wx p' xs → n ≤ 17592186044416 → Calls Try.prog 10 #[.slice p' n k', .int .i64 l, .int .i64 lo] wx fun e w' => ∃ ha hc ra rc, e = .returned (.tuple #[.agg #[.slice ha nh hc, .int .i64 vl, .int .i64 va, .slice ra nr rc, .int .i64 vo], .bool fb]) ∧ Own w' wx.heap.size (.slice ha nh hc) lh ∧ OwnR w' wx.heap.size (.slice ra nr rc) lr ∧ Below wx.heap.size wx w') := qi
  have HLh : Hid (lh.length = nh) := h3
  have HLr : Hid (lr.length = nr) := h4
  have HX : Hid (xs.length = n) := hx
  have HR0 : Hid (Rd w ao xs) := hr
  have hfb : (fb != fb) = false := by simp
  obtain ⟨y1, hy1⟩ : ∃ y1 : Int, ((1 + nh + 4 * nr : Nat) : Int) = y1 := ⟨_, rfl⟩
  have HZ1 : Hid (((1 + nh + 4 * nr : Nat) : Int) = y1) := hy1
  have hy0 : 0 ≤ y1 := by omega
  have hmn : ¬ y1 < 0 := by omega
  have hmm : (y1 != y1) = false := by simp
  have hmo : ¬ (1 : Int) + (n : Int) < 0 := by omega
  clear qs qi h1 h2 h3 h4 hlen hy1 hx
  have HB_0 : Hid (Below w.heap.size w w) := Below.refl _ _
  have RP_0 : Hid (Rd w ao xs) := hr
  clear hr
  go_enter Try.func4, Try.ntmps4
  by_cases hsz : 1048576 < n
  · have hsz2 : (1048576 : Int) < (n : Int) := by omega
    go_wp2
    go_ret
    exact ⟨rfl, HB_0.out⟩
  have hsz2 : ¬ (1048576 : Int) < (n : Int) := by omega
  go_wp2_with fail
  refine (toIntS_c ao n c xs _ HX.out (by omega) RP_0.out).mono ?_
  rintro e w1 ⟨p1, k1, rfl, ho, hb⟩
  have hB : Below w.heap.size w w1 := hb
  have HB_1 : Hid (Below w.heap.size w w1) := HB_0.out.trans (hB.mono HB_0.out.size)
  have RP_1 : Hid (Rd w1 ao xs) := RP_0.out.later hB
  have z1 : w.heap.size ≤ w1.heap.size := hB.size
  have P1_1 : Hid (Own w1 w.heap.size (Value.slice p1 n k1) (xs)) := ho
  have I_P1 : Hid (∀ k, (Value.slice p1 n k1).ownBlock = some k → w.heap.size ≤ k ∧ k < w1.heap.size) := World.ownsRow.lt P1_1.out
  clear hb hB HB_0 RP_0 ho
  go_wp2_with fail
  refine (HQS.out p1 k1 _ P1_1.out.rd'.2 (by omega)).mono ?_
  rintro e w2 ⟨h1, e1, r1, f1, rfl, hoh, hor, hb⟩
  have hB : Below w1.heap.size w1 w2 := hb
  have HB_2 : Hid (Below w.heap.size w w2) := HB_1.out.trans (hB.mono HB_1.out.size)
  have RP_2 : Hid (Rd w2 ao xs) := RP_1.out.later hB
  have z2 : w1.heap.size ≤ w2.heap.size := hB.size
  have Wh_2 : Hid (Own w2 w1.heap.size (Value.slice h1 nh e1) (lh)) := hoh
  have I_Wh : Hid (∀ k, (Value.slice h1 nh e1).ownBlock = some k → w1.heap.size ≤ k ∧ k < w2.heap.size) := World.ownsRow.lt Wh_2.out
  have Wr_2 : Hid (OwnR w2 w1.heap.size (Value.slice r1 nr f1) (lr)) := hor
  have I_Wr : Hid (∀ k, (Value.slice r1 nr f1).ownBlock = some k → w1.heap.size ≤ k ∧ k < w2.heap.size) := World.ownsRow.lt Wr_2.out
  clear hb hB HB_1 RP_1 P1_1 hoh hor
  have hHB := HB_2.out.alloc HB_2.out.size (.cells #[.slice h1 nh e1, .int .i64 vl, .int .i64 va, .slice r1 nr f1, .int .i64 vo] 31)
  have hRP := RP_2.out.later (balloc w2 (.cells #[.slice h1 nh e1, .int .i64 vl, .int .i64 va, .slice r1 nr f1, .int .i64 vo] 31))
  have hWh := Wh_2.out.later (balloc w2 (.cells #[.slice h1 nh e1, .int .i64 vl, .int .i64 va, .slice r1 nr f1, .int .i64 vo] 31))
  have hWr := Wr_2.out.later (balloc w2 (.cells #[.slice h1 nh e1, .int .i64 vl, .int .i64 va, .slice r1 nr f1, .int .i64 vo] 31))
  have hBW := x5_new w2 (.slice h1 nh e1) (.int .i64 vl) (.int .i64 va) (.slice r1 nr f1) (.int .i64 vo) 31 w2.heap.size rfl
  have hz : (w2.alloc (.cells #[.slice h1 nh e1, .int .i64 vl, .int .i64 va, .slice r1 nr f1, .int .i64 vo] 31)).heap.size = w2.heap.size + 1 := by simp
  obtain ⟨w3, hV3⟩ : ∃ V, w2.alloc (.cells #[.slice h1 nh e1, .int .i64 vl, .int .i64 va, .slice r1 nr f1, .int .i64 vo] 31) = V := ⟨_, rfl⟩
  rw [hV3] at hHB hRP hWh hWr hBW hz
  have HB_3 : Hid (Below w.heap.size w w3) := hHB
  have RP_3 : Hid (Rd w3 ao xs) := hRP
  have Wh_3 : Hid (Own w3 w1.heap.size (Value.slice h1 nh e1) (lh)) := hWh
  have Wr_3 : Hid (OwnR w3 w1.heap.size (Value.slice r1 nr f1) (lr)) := hWr
  have BW_3 : Hid (X5 w3 w2.heap.size (.slice h1 nh e1) (.int .i64 vl) (.int .i64 va) (.slice r1 nr f1) (.int .i64 vo)) := hBW
  have z3 : w2.heap.size + 1 ≤ w3.heap.size := by omega
  clear HB_2 RP_2 Wh_2 Wr_2 hHB hRP hWh hWr hBW hz
  go_wp2_with fail
  clear hV3
  refine (toIntS_c ao n c xs _ HX.out (by omega) RP_3.out).mono ?_
  rintro e w4 ⟨p2, k2, rfl, ho, hb⟩
  have hB : Below w3.heap.size w3 w4 := hb
  have HB_4 : Hid (Below w.heap.size w w4) := HB_3.out.trans (hB.mono HB_3.out.size)
  have RP_4 : Hid (Rd w4 ao xs) := RP_3.out.later hB
  have Wh_4 : Hid (Own w4 w1.heap.size (Value.slice h1 nh e1) (lh)) := Wh_3.out.later hB
  have Wr_4 : Hid (OwnR w4 w1.heap.size (Value.slice r1 nr f1) (lr)) := Wr_3.out.later hB
  have BW_4 : Hid (X5 w4 w2.heap.size (.slice h1 nh e1) (.int .i64 vl) (.int .i64 va) (.slice r1 nr f1) (.int .i64 vo)) := BW_3.out.later hB
  have z4 : w3.heap.size ≤ w4.heap.size := hB.size
  have P2_4 : Hid (Own w4 w3.heap.size (Value.slice p2 n k2) (xs)) := ho
  have I_P2 : Hid (∀ k, (Value.slice p2 n k2).ownBlock = some k → w3.heap.size ≤ k ∧ k < w4.heap.size) := World.ownsRow.lt P2_4.out
  clear hb hB HB_3 RP_3 Wh_3 Wr_3 BW_3 ho
  go_wp2_with fail
  refine (HQI.out p2 k2 _ P2_4.out.rd'.2 (by omega)).mono ?_
  rintro e w5 ⟨h2, e2, r2, f2, rfl, hoh, hor, hb⟩
  have hB : Below w4.heap.size w4 w5 := hb
  have HB_5 : Hid (Below w.heap.size w w5) := HB_4.out.trans (hB.mono HB_4.out.size)
  have RP_5 : Hid (Rd w5 ao xs) := RP_4.out.later hB
  have Wh_5 : Hid (Own w5 w1.heap.size (Value.slice h1 nh e1) (lh)) := Wh_4.out.later hB
  have Wr_5 : Hid (OwnR w5 w1.heap.size (Value.slice r1 nr f1) (lr)) := Wr_4.out.later hB
  have BW_5 : Hid (X5 w5 w2.heap.size (.slice h1 nh e1) (.int .i64 vl) (.int .i64 va) (.slice r1 nr f1) (.int .i64 vo)) := BW_4.out.later hB
  have P2_5 : Hid (Own w5 w3.heap.size (Value.slice p2 n k2) (xs)) := P2_4.out.later hB
  have z5 : w4.heap.size ≤ w5.heap.size := hB.size
  have Gh_5 : Hid (Own w5 w4.heap.size (Value.slice h2 nh e2) (lh)) := hoh
  have I_Gh : Hid (∀ k, (Value.slice h2 nh e2).ownBlock = some k → w4.heap.size ≤ k ∧ k < w5.heap.size) := World.ownsRow.lt Gh_5.out
  have Gr_5 : Hid (OwnR w5 w4.heap.size (Value.slice r2 nr f2) (lr)) := hor
  have I_Gr : Hid (∀ k, (Value.slice r2 nr f2).ownBlock = some k → w4.heap.size ≤ k ∧ k < w5.heap.size) := World.ownsRow.lt Gr_5.out
  clear hb hB HB_4 RP_4 Wh_4 Wr_4 BW_4 P2_4 hoh hor
  have hHB := HB_5.out.alloc HB_5.out.size (.cells #[.slice h2 nh e2, .int .i64 vl, .int .i64 va, .slice r2 nr f2, .int .i64 vo] 31)
  have hRP := RP_5.out.later (balloc w5 (.cells #[.slice h2 nh e2, .int .i64 vl, .int .i64 va, .slice r2 nr f2, .int .i64 vo] 31))
  have hWh := Wh_5.out.later (balloc w5 (.cells #[.slice h2 nh e2, .int .i64 vl, .int .i64 va, .slice r2 nr f2, .int .i64 vo] 31))
  have hWr := Wr_5.out.later (balloc w5 (.cells #[.slice h2 nh e2, .int .i64 vl, .int .i64 va, .slice r2 nr f2, .int .i64 vo] 31))
  have hBW := BW_5.out.later (balloc w5 (.cells #[.slice h2 nh e2, .int .i64 vl, .int .i64 va, .slice r2 nr f2, .int .i64 vo] 31))
  have hP2 := P2_5.out.later (balloc w5 (.cells #[.slice h2 nh e2, .int .i64 vl, .int .i64 va, .slice r2 nr f2, .int .i64 vo] 31))
  have hGh := Gh_5.out.later (balloc w5 (.cells #[.slice h2 nh e2, .int .i64 vl, .int .i64 va, .slice r2 nr f2, .int .i64 vo] 31))
  have hGr := Gr_5.out.later (balloc w5 (.cells #[.slice h2 nh e2, .int .i64 vl, .int .i64 va, .slice r2 nr f2, .int .i64 vo] 31))
  have hBG := x5_new w5 (.slice h2 nh e2) (.int .i64 vl) (.int .i64 va) (.slice r2 nr f2) (.int .i64 vo) 31 w5.heap.size rfl
  have hz : (w5.alloc (.cells #[.slice h2 nh e2, .int .i64 vl, .int .i64 va, .slice r2 nr f2, .int .i64 vo] 31)).heap.size = w5.heap.size + 1 := by simp
  obtain ⟨w6, hV6⟩ : ∃ V, w5.alloc (.cells #[.slice h2 nh e2, .int .i64 vl, .int .i64 va, .slice r2 nr f2, .int .i64 vo] 31) = V := ⟨_, rfl⟩
  rw [hV6] at hHB hRP hWh hWr hBW hP2 hGh hGr hBG hz
  have HB_6 : Hid (Below w.heap.size w w6) := hHB
  have RP_6 : Hid (Rd w6 ao xs) := hRP
  have Wh_6 : Hid (Own w6 w1.heap.size (Value.slice h1 nh e1) (lh)) := hWh
  have Wr_6 : Hid (OwnR w6 w1.heap.size (Value.slice r1 nr f1) (lr)) := hWr
  have BW_6 : Hid (X5 w6 w2.heap.size (.slice h1 nh e1) (.int .i64 vl) (.int .i64 va) (.slice r1 nr f1) (.int .i64 vo)) := hBW
  have P2_6 : Hid (Own w6 w3.heap.size (Value.slice p2 n k2) (xs)) := hP2
  have Gh_6 : Hid (Own w6 w4.heap.size (Value.slice h2 nh e2) (lh)) := hGh
  have Gr_6 : Hid (OwnR w6 w4.heap.size (Value.slice r2 nr f2) (lr)) := hGr
  have BG_6 : Hid (X5 w6 w5.heap.size (.slice h2 nh e2) (.int .i64 vl) (.int .i64 va) (.slice r2 nr f2) (.int .i64 vo)) := hBG
  have z6 : w5.heap.size + 1 ≤ w6.heap.size := by omega
  clear HB_5 RP_5 Wh_5 Wr_5 BW_5 P2_5 Gh_5 Gr_5 hHB hRP hWh hWr hBW hP2 hGh hGr hBG hz
  obtain ⟨⟨BGq0, BGq1, BGq2, BGq3, BGq4⟩, BGf⟩ := id (BG_6.out)
  clear BGf
  obtain ⟨⟨BWq0, BWq1, BWq2, BWq3, BWq4⟩, BWf⟩ := id (BW_6.out)
  clear BWf
  go_wp2_with fail
  clear hV6
  refine (eqTrip_q h2 r2 h1 r1 nh nr e2 f2 e1 f1 vl va vo lh lr _ HLh.out HLr.out hnh hnr Gh_6.out.rd'.2 Gr_6.out.rd'.2 Wh_6.out.rd'.2 Wr_6.out.rd'.2).mono ?_
  clear BGq0 BGq1 BGq2 BGq3 BGq4
  clear BWq0 BWq1 BWq2 BWq3 BWq4
  rintro e w7 ⟨rfl, hb⟩
  have hB : Below w6.heap.size w6 w7 := hb
  have HB_7 : Hid (Below w.heap.size w w7) := HB_6.out.trans (hB.mono HB_6.out.size)
  have RP_7 : Hid (Rd w7 ao xs) := RP_6.out.later hB
  have Wh_7 : Hid (Own w7 w1.heap.size (Value.slice h1 nh e1) (lh)) := Wh_6.out.later hB
  have Wr_7 : Hid (OwnR w7 w1.heap.size (Value.slice r1 nr f1) (lr)) := Wr_6.out.later hB
  have BW_7 : Hid (X5 w7 w2.heap.size (.slice h1 nh e1) (.int .i64 vl) (.int .i64 va) (.slice r1 nr f1) (.int .i64 vo)) := BW_6.out.later hB
  have P2_7 : Hid (Own w7 w3.heap.size (Value.slice p2 n k2) (xs)) := P2_6.out.later hB
  have Gh_7 : Hid (Own w7 w4.heap.size (Value.slice h2 nh e2) (lh)) := Gh_6.out.later hB
  have Gr_7 : Hid (OwnR w7 w4.heap.size (Value.slice r2 nr f2) (lr)) := Gr_6.out.later hB
  have BG_7 : Hid (X5 w7 w5.heap.size (.slice h2 nh e2) (.int .i64 vl) (.int .i64 va) (.slice r2 nr f2) (.int .i64 vo)) := BG_6.out.later hB
  have z7 : w6.heap.size ≤ w7.heap.size := hB.size
  clear hb hB HB_6 RP_6 Wh_6 Wr_6 BW_6 P2_6 Gh_6 Gr_6 BG_6 
  go_wp2_with fail
  refine (toIntS_c ao n c xs _ HX.out (by omega) RP_7.out).mono ?_
  rintro e w8 ⟨p3, k3, rfl, ho, hb⟩
  have hB : Below w7.heap.size w7 w8 := hb
  have HB_8 : Hid (Below w.heap.size w w8) := HB_7.out.trans (hB.mono HB_7.out.size)
  have RP_8 : Hid (Rd w8 ao xs) := RP_7.out.later hB
  have Wh_8 : Hid (Own w8 w1.heap.size (Value.slice h1 nh e1) (lh)) := Wh_7.out.later hB
  have Wr_8 : Hid (OwnR w8 w1.heap.size (Value.slice r1 nr f1) (lr)) := Wr_7.out.later hB
  have BW_8 : Hid (X5 w8 w2.heap.size (.slice h1 nh e1) (.int .i64 vl) (.int .i64 va) (.slice r1 nr f1) (.int .i64 vo)) := BW_7.out.later hB
  have P2_8 : Hid (Own w8 w3.heap.size (Value.slice p2 n k2) (xs)) := P2_7.out.later hB
  have Gh_8 : Hid (Own w8 w4.heap.size (Value.slice h2 nh e2) (lh)) := Gh_7.out.later hB
  have Gr_8 : Hid (OwnR w8 w4.heap.size (Value.slice r2 nr f2) (lr)) := Gr_7.out.later hB
  have BG_8 : Hid (X5 w8 w5.heap.size (.slice h2 nh e2) (.int .i64 vl) (.int .i64 va) (.slice r2 nr f2) (.int .i64 vo)) := BG_7.out.later hB
  have z8 : w7.heap.size ≤ w8.heap.size := hB.size
  have P3_8 : Hid (Own w8 w7.heap.size (Value.slice p3 n k3) (xs)) := ho
  have I_P3 : Hid (∀ k, (Value.slice p3 n k3).ownBlock = some k → w7.heap.size ≤ k ∧ k < w8.heap.size) := World.ownsRow.lt P3_8.out
  clear hb hB HB_7 RP_7 Wh_7 Wr_7 BW_7 P2_7 Gh_7 Gr_7 BG_7 ho
  go_wp2_with fail
  refine (eqIntS_c p2 p3 n n k2 k3 xs xs _ HX.out HX.out (by omega) (by omega) P2_8.out.rd'.2 P3_8.out.rd'.2).mono ?_
  rw [decide_eq_true rfl]
  rintro e w9 ⟨rfl, hb⟩
  have hB : Below w8.heap.size w8 w9 := hb
  have HB_9 : Hid (Below w.heap.size w w9) := HB_8.out.trans (hB.mono HB_8.out.size)
  have RP_9 : Hid (Rd w9 ao xs) := RP_8.out.later hB
  have Wh_9 : Hid (Own w9 w1.heap.size (Value.slice h1 nh e1) (lh)) := Wh_8.out.later hB
  have Wr_9 : Hid (OwnR w9 w1.heap.size (Value.slice r1 nr f1) (lr)) := Wr_8.out.later hB
  have BW_9 : Hid (X5 w9 w2.heap.size (.slice h1 nh e1) (.int .i64 vl) (.int .i64 va) (.slice r1 nr f1) (.int .i64 vo)) := BW_8.out.later hB
  have P2_9 : Hid (Own w9 w3.heap.size (Value.slice p2 n k2) (xs)) := P2_8.out.later hB
  have Gh_9 : Hid (Own w9 w4.heap.size (Value.slice h2 nh e2) (lh)) := Gh_8.out.later hB
  have Gr_9 : Hid (OwnR w9 w4.heap.size (Value.slice r2 nr f2) (lr)) := Gr_8.out.later hB
  have BG_9 : Hid (X5 w9 w5.heap.size (.slice h2 nh e2) (.int .i64 vl) (.int .i64 va) (.slice r2 nr f2) (.int .i64 vo)) := BG_8.out.later hB
  have z9 : w8.heap.size ≤ w9.heap.size := hB.size
  clear hb hB HB_8 RP_8 Wh_8 Wr_8 BW_8 P2_8 Gh_8 Gr_8 BG_8 P3_8 
  go_wp2_with fail
  refine (markIntS_c p2 n k2 1 w3.heap.size xs _ (by omega) (by omega) (by omega) P2_9.out).mono ?_
  rintro e w10 ⟨rfl, ho, hg⟩
  have z10 : w9.heap.size ≤ w10.heap.size := hg.size
  have HB_10 : Hid (Below w.heap.size w w10) := Below.grown HB_9.out hg (by have := HB_9.out.size; omega) (fun k e => by have := I_P2.out k e; have := HB_9.out.size; omega)
  have Wh_10 : Hid (Own w10 w1.heap.size (Value.slice h1 nh e1) (lh)) := Wh_9.out.kept hg (own_sep I_Wh.out I_P2.out (by omega))
  have Wr_10 : Hid (OwnR w10 w1.heap.size (Value.slice r1 nr f1) (lr)) := Wr_9.out.kept hg (own_sep I_Wr.out I_P2.out (by omega))
  have BW_10 : Hid (X5 w10 w2.heap.size (.slice h1 nh e1) (.int .i64 vl) (.int .i64 va) (.slice r1 nr f1) (.int .i64 vo)) := BW_9.out.grown hg (fun e => by have := I_P2.out _ e.symm; omega)
  have Gh_10 : Hid (Own w10 w4.heap.size (Value.slice h2 nh e2) (lh)) := Gh_9.out.kept hg (own_sep I_Gh.out I_P2.out (by omega))
  have Gr_10 : Hid (OwnR w10 w4.heap.size (Value.slice r2 nr f2) (lr)) := Gr_9.out.kept hg (own_sep I_Gr.out I_P2.out (by omega))
  have BG_10 : Hid (X5 w10 w5.heap.size (.slice h2 nh e2) (.int .i64 vl) (.int .i64 va) (.slice r2 nr f2) (.int .i64 vo)) := BG_9.out.grown hg (fun e => by have := I_P2.out _ e.symm; omega)
  have P2_10 : Hid (Own w10 w3.heap.size (Value.slice p2 n k2) (marks 1 n)) := ho
  clear hg ho HB_9 RP_9 Wh_9 Wr_9 BW_9 P2_9 Gh_9 Gr_9 BG_9
  have RP_10 : Hid (Rd w10 ao xs) := HR0.out.later HB_10.out
  obtain ⟨⟨BGq0, BGq1, BGq2, BGq3, BGq4⟩, BGf⟩ := id (BG_10.out)
  clear BGf
  obtain ⟨⟨BWq0, BWq1, BWq2, BWq3, BWq4⟩, BWf⟩ := id (BW_10.out)
  clear BWf
  go_wp2_with fail
  refine (eqTrip_q h2 r2 h1 r1 nh nr e2 f2 e1 f1 vl va vo lh lr _ HLh.out HLr.out hnh hnr Gh_10.out.rd'.2 Gr_10.out.rd'.2 Wh_10.out.rd'.2 Wr_10.out.rd'.2).mono ?_
  clear BGq0 BGq1 BGq2 BGq3 BGq4
  clear BWq0 BWq1 BWq2 BWq3 BWq4
  rintro e w11 ⟨rfl, hb⟩
  have hB : Below w10.heap.size w10 w11 := hb
  have HB_11 : Hid (Below w.heap.size w w11) := HB_10.out.trans (hB.mono HB_10.out.size)
  have Wh_11 : Hid (Own w11 w1.heap.size (Value.slice h1 nh e1) (lh)) := Wh_10.out.later hB
  have Wr_11 : Hid (OwnR w11 w1.heap.size (Value.slice r1 nr f1) (lr)) := Wr_10.out.later hB
  have BW_11 : Hid (X5 w11 w2.heap.size (.slice h1 nh e1) (.int .i64 vl) (.int .i64 va) (.slice r1 nr f1) (.int .i64 vo)) := BW_10.out.later hB
  have P2_11 : Hid (Own w11 w3.heap.size (Value.slice p2 n k2) (marks 1 n)) := P2_10.out.later hB
  have Gh_11 : Hid (Own w11 w4.heap.size (Value.slice h2 nh e2) (lh)) := Gh_10.out.later hB
  have Gr_11 : Hid (OwnR w11 w4.heap.size (Value.slice r2 nr f2) (lr)) := Gr_10.out.later hB
  have BG_11 : Hid (X5 w11 w5.heap.size (.slice h2 nh e2) (.int .i64 vl) (.int .i64 va) (.slice r2 nr f2) (.int .i64 vo)) := BG_10.out.later hB
  have RP_11 : Hid (Rd w11 ao xs) := RP_10.out.later hB
  have z11 : w10.heap.size ≤ w11.heap.size := hB.size
  clear hb hB HB_10 Wh_10 Wr_10 BW_10 P2_10 Gh_10 Gr_10 BG_10 RP_10 
  obtain ⟨⟨BGq0, BGq1, BGq2, BGq3, BGq4⟩, BGf⟩ := id (BG_11.out)
  clear BGf
  go_wp2_with fail
  refine (markTrip_c h2 r2 nh nr e2 f2 vl va vo w4.heap.size w4.heap.size lh lr _ hnh hnr Gh_11.out Gr_11.out).mono ?_
  rw [HZ1.out]
  clear BGq0 BGq1 BGq2 BGq3 BGq4
  rintro e w12 ⟨rfl, wm, hg1, hg2, ho1, ho2⟩
  have z12 : w11.heap.size ≤ w12.heap.size := Nat.le_trans hg1.size hg2.size
  have zm : w11.heap.size ≤ wm.heap.size := hg1.size
  have HB_12 : Hid (Below w.heap.size w w12) := Below.grown (Below.grown HB_11.out hg1 (by have := HB_11.out.size; omega) (fun k e => by have := I_Gh.out k e; have := HB_11.out.size; omega)) hg2 (by have := HB_11.out.size; omega) (fun k e => by have := I_Gr.out k e; have := HB_11.out.size; omega)
  have Wh_12 : Hid (Own w12 w1.heap.size (Value.slice h1 nh e1) (lh)) := (Wh_11.out.kept hg1 (own_sep I_Wh.out I_Gh.out (by omega))).kept hg2 (own_sep I_Wh.out I_Gr.out (by omega))
  have Wr_12 : Hid (OwnR w12 w1.heap.size (Value.slice r1 nr f1) (lr)) := (Wr_11.out.kept hg1 (own_sep I_Wr.out I_Gh.out (by omega))).kept hg2 (own_sep I_Wr.out I_Gr.out (by omega))
  have BW_12 : Hid (X5 w12 w2.heap.size (.slice h1 nh e1) (.int .i64 vl) (.int .i64 va) (.slice r1 nr f1) (.int .i64 vo)) := (BW_11.out.grown hg1 (fun e => by have := I_Gh.out _ e.symm; omega)).grown hg2 (fun e => by have := I_Gr.out _ e.symm; omega)
  have P2_12 : Hid (Own w12 w3.heap.size (Value.slice p2 n k2) (marks 1 n)) := (P2_11.out.kept hg1 (own_sep I_P2.out I_Gh.out (by omega))).kept hg2 (own_sep I_P2.out I_Gr.out (by omega))
  have BG_12 : Hid (X5 w12 w5.heap.size (.slice h2 nh e2) (.int .i64 vl) (.int .i64 va) (.slice r2 nr f2) (.int .i64 vo)) := (BG_11.out.grown hg1 (fun e => by have := I_Gh.out _ e.symm; omega)).grown hg2 (fun e => by have := I_Gr.out _ e.symm; omega)
  have Gh_12 : Hid (Own w12 w4.heap.size (Value.slice h2 nh e2) (marks 1 nh)) := ho1
  have Gr_12 : Hid (OwnR w12 w4.heap.size (Value.slice r2 nr f2) (marksR (1 + nh) nr)) := ho2
  clear hg1 hg2 ho1 ho2 zm HB_11 Wh_11 Wr_11 BW_11 P2_11 Gh_11 Gr_11 BG_11 RP_11
  have RP_12 : Hid (Rd w12 ao xs) := HR0.out.later HB_12.out
  obtain ⟨⟨BGq0, BGq1, BGq2, BGq3, BGq4⟩, BGf⟩ := id (BG_12.out)
  clear BGf
  go_wp2_with fail
  refine (heldTrip_c h2 r2 nh nr e2 f2 vl va vo w4.heap.size w4.heap.size _ hnh hnr Gh_12.out Gr_12.out).mono ?_
  rw [HZ1.out]
  clear BGq0 BGq1 BGq2 BGq3 BGq4
  rintro e w13 ⟨rfl, hb⟩
  have hB : Below w12.heap.size w12 w13 := hb
  have HB_13 : Hid (Below w.heap.size w w13) := HB_12.out.trans (hB.mono HB_12.out.size)
  have Wh_13 : Hid (Own w13 w1.heap.size (Value.slice h1 nh e1) (lh)) := Wh_12.out.later hB
  have Wr_13 : Hid (OwnR w13 w1.heap.size (Value.slice r1 nr f1) (lr)) := Wr_12.out.later hB
  have BW_13 : Hid (X5 w13 w2.heap.size (.slice h1 nh e1) (.int .i64 vl) (.int .i64 va) (.slice r1 nr f1) (.int .i64 vo)) := BW_12.out.later hB
  have P2_13 : Hid (Own w13 w3.heap.size (Value.slice p2 n k2) (marks 1 n)) := P2_12.out.later hB
  have Gh_13 : Hid (Own w13 w4.heap.size (Value.slice h2 nh e2) (marks 1 nh)) := Gh_12.out.later hB
  have Gr_13 : Hid (OwnR w13 w4.heap.size (Value.slice r2 nr f2) (marksR (1 + nh) nr)) := Gr_12.out.later hB
  have BG_13 : Hid (X5 w13 w5.heap.size (.slice h2 nh e2) (.int .i64 vl) (.int .i64 va) (.slice r2 nr f2) (.int .i64 vo)) := BG_12.out.later hB
  have RP_13 : Hid (Rd w13 ao xs) := RP_12.out.later hB
  have z13 : w12.heap.size ≤ w13.heap.size := hB.size
  clear hb hB HB_12 Wh_12 Wr_12 BW_12 P2_12 Gh_12 Gr_12 BG_12 RP_12 
  go_wp2_with fail
  refine (toIntS_c ao n c xs _ HX.out (by omega) RP_13.out).mono ?_
  rintro e w14 ⟨p4, k4, rfl, ho, hb⟩
  have hB : Below w13.heap.size w13 w14 := hb
  have HB_14 : Hid (Below w.heap.size w w14) := HB_13.out.trans (hB.mono HB_13.out.size)
  have Wh_14 : Hid (Own w14 w1.heap.size (Value.slice h1 nh e1) (lh)) := Wh_13.out.later hB
  have Wr_14 : Hid (OwnR w14 w1.heap.size (Value.slice r1 nr f1) (lr)) := Wr_13.out.later hB
  have BW_14 : Hid (X5 w14 w2.heap.size (.slice h1 nh e1) (.int .i64 vl) (.int .i64 va) (.slice r1 nr f1) (.int .i64 vo)) := BW_13.out.later hB
  have P2_14 : Hid (Own w14 w3.heap.size (Value.slice p2 n k2) (marks 1 n)) := P2_13.out.later hB
  have Gh_14 : Hid (Own w14 w4.heap.size (Value.slice h2 nh e2) (marks 1 nh)) := Gh_13.out.later hB
  have Gr_14 : Hid (OwnR w14 w4.heap.size (Value.slice r2 nr f2) (marksR (1 + nh) nr)) := Gr_13.out.later hB
  have BG_14 : Hid (X5 w14 w5.heap.size (.slice h2 nh e2) (.int .i64 vl) (.int .i64 va) (.slice r2 nr f2) (.int .i64 vo)) := BG_13.out.later hB
  have RP_14 : Hid (Rd w14 ao xs) := RP_13.out.later hB
  have z14 : w13.heap.size ≤ w14.heap.size := hB.size
  have P4_14 : Hid (Own w14 w13.heap.size (Value.slice p4 n k4) (xs)) := ho
  have I_P4 : Hid (∀ k, (Value.slice p4 n k4).ownBlock = some k → w13.heap.size ≤ k ∧ k < w14.heap.size) := World.ownsRow.lt P4_14.out
  clear hb hB HB_13 Wh_13 Wr_13 BW_13 P2_13 Gh_13 Gr_13 BG_13 RP_13 ho
  go_wp2_with fail
  refine (HQI.out p4 k4 _ P4_14.out.rd'.2 (by omega)).mono ?_
  rintro e w15 ⟨h4, e4, r4, f4, rfl, hoh, hor, hb⟩
  have hB : Below w14.heap.size w14 w15 := hb
  have HB_15 : Hid (Below w.heap.size w w15) := HB_14.out.trans (hB.mono HB_14.out.size)
  have Wh_15 : Hid (Own w15 w1.heap.size (Value.slice h1 nh e1) (lh)) := Wh_14.out.later hB
  have Wr_15 : Hid (OwnR w15 w1.heap.size (Value.slice r1 nr f1) (lr)) := Wr_14.out.later hB
  have BW_15 : Hid (X5 w15 w2.heap.size (.slice h1 nh e1) (.int .i64 vl) (.int .i64 va) (.slice r1 nr f1) (.int .i64 vo)) := BW_14.out.later hB
  have P2_15 : Hid (Own w15 w3.heap.size (Value.slice p2 n k2) (marks 1 n)) := P2_14.out.later hB
  have Gh_15 : Hid (Own w15 w4.heap.size (Value.slice h2 nh e2) (marks 1 nh)) := Gh_14.out.later hB
  have Gr_15 : Hid (OwnR w15 w4.heap.size (Value.slice r2 nr f2) (marksR (1 + nh) nr)) := Gr_14.out.later hB
  have BG_15 : Hid (X5 w15 w5.heap.size (.slice h2 nh e2) (.int .i64 vl) (.int .i64 va) (.slice r2 nr f2) (.int .i64 vo)) := BG_14.out.later hB
  have RP_15 : Hid (Rd w15 ao xs) := RP_14.out.later hB
  have z15 : w14.heap.size ≤ w15.heap.size := hB.size
  have Qh_15 : Hid (Own w15 w14.heap.size (Value.slice h4 nh e4) (lh)) := hoh
  have I_Qh : Hid (∀ k, (Value.slice h4 nh e4).ownBlock = some k → w14.heap.size ≤ k ∧ k < w15.heap.size) := World.ownsRow.lt Qh_15.out
  have Qr_15 : Hid (OwnR w15 w14.heap.size (Value.slice r4 nr f4) (lr)) := hor
  have I_Qr : Hid (∀ k, (Value.slice r4 nr f4).ownBlock = some k → w14.heap.size ≤ k ∧ k < w15.heap.size) := World.ownsRow.lt Qr_15.out
  clear hb hB HB_14 Wh_14 Wr_14 BW_14 P2_14 Gh_14 Gr_14 BG_14 RP_14 P4_14 hoh hor
  have hHB := HB_15.out.alloc HB_15.out.size (.cells #[.slice h4 nh e4, .int .i64 vl, .int .i64 va, .slice r4 nr f4, .int .i64 vo] 31)
  have hWh := Wh_15.out.later (balloc w15 (.cells #[.slice h4 nh e4, .int .i64 vl, .int .i64 va, .slice r4 nr f4, .int .i64 vo] 31))
  have hWr := Wr_15.out.later (balloc w15 (.cells #[.slice h4 nh e4, .int .i64 vl, .int .i64 va, .slice r4 nr f4, .int .i64 vo] 31))
  have hBW := BW_15.out.later (balloc w15 (.cells #[.slice h4 nh e4, .int .i64 vl, .int .i64 va, .slice r4 nr f4, .int .i64 vo] 31))
  have hP2 := P2_15.out.later (balloc w15 (.cells #[.slice h4 nh e4, .int .i64 vl, .int .i64 va, .slice r4 nr f4, .int .i64 vo] 31))
  have hGh := Gh_15.out.later (balloc w15 (.cells #[.slice h4 nh e4, .int .i64 vl, .int .i64 va, .slice r4 nr f4, .int .i64 vo] 31))
  have hGr := Gr_15.out.later (balloc w15 (.cells #[.slice h4 nh e4, .int .i64 vl, .int .i64 va, .slice r4 nr f4, .int .i64 vo] 31))
  have hBG := BG_15.out.later (balloc w15 (.cells #[.slice h4 nh e4, .int .i64 vl, .int .i64 va, .slice r4 nr f4, .int .i64 vo] 31))
  have hRP := RP_15.out.later (balloc w15 (.cells #[.slice h4 nh e4, .int .i64 vl, .int .i64 va, .slice r4 nr f4, .int .i64 vo] 31))
  have hQh := Qh_15.out.later (balloc w15 (.cells #[.slice h4 nh e4, .int .i64 vl, .int .i64 va, .slice r4 nr f4, .int .i64 vo] 31))
  have hQr := Qr_15.out.later (balloc w15 (.cells #[.slice h4 nh e4, .int .i64 vl, .int .i64 va, .slice r4 nr f4, .int .i64 vo] 31))
  have hBQ := x5_new w15 (.slice h4 nh e4) (.int .i64 vl) (.int .i64 va) (.slice r4 nr f4) (.int .i64 vo) 31 w15.heap.size rfl
  have hz : (w15.alloc (.cells #[.slice h4 nh e4, .int .i64 vl, .int .i64 va, .slice r4 nr f4, .int .i64 vo] 31)).heap.size = w15.heap.size + 1 := by simp
  obtain ⟨w16, hV16⟩ : ∃ V, w15.alloc (.cells #[.slice h4 nh e4, .int .i64 vl, .int .i64 va, .slice r4 nr f4, .int .i64 vo] 31) = V := ⟨_, rfl⟩
  rw [hV16] at hHB hWh hWr hBW hP2 hGh hGr hBG hRP hQh hQr hBQ hz
  have HB_16 : Hid (Below w.heap.size w w16) := hHB
  have Wh_16 : Hid (Own w16 w1.heap.size (Value.slice h1 nh e1) (lh)) := hWh
  have Wr_16 : Hid (OwnR w16 w1.heap.size (Value.slice r1 nr f1) (lr)) := hWr
  have BW_16 : Hid (X5 w16 w2.heap.size (.slice h1 nh e1) (.int .i64 vl) (.int .i64 va) (.slice r1 nr f1) (.int .i64 vo)) := hBW
  have P2_16 : Hid (Own w16 w3.heap.size (Value.slice p2 n k2) (marks 1 n)) := hP2
  have Gh_16 : Hid (Own w16 w4.heap.size (Value.slice h2 nh e2) (marks 1 nh)) := hGh
  have Gr_16 : Hid (OwnR w16 w4.heap.size (Value.slice r2 nr f2) (marksR (1 + nh) nr)) := hGr
  have BG_16 : Hid (X5 w16 w5.heap.size (.slice h2 nh e2) (.int .i64 vl) (.int .i64 va) (.slice r2 nr f2) (.int .i64 vo)) := hBG
  have RP_16 : Hid (Rd w16 ao xs) := hRP
  have Qh_16 : Hid (Own w16 w14.heap.size (Value.slice h4 nh e4) (lh)) := hQh
  have Qr_16 : Hid (OwnR w16 w14.heap.size (Value.slice r4 nr f4) (lr)) := hQr
  have BQ_16 : Hid (X5 w16 w15.heap.size (.slice h4 nh e4) (.int .i64 vl) (.int .i64 va) (.slice r4 nr f4) (.int .i64 vo)) := hBQ
  have z16 : w15.heap.size + 1 ≤ w16.heap.size := by omega
  clear HB_15 Wh_15 Wr_15 BW_15 P2_15 Gh_15 Gr_15 BG_15 RP_15 Qh_15 Qr_15 hHB hWh hWr hBW hP2 hGh hGr hBG hRP hQh hQr hBQ hz
  obtain ⟨⟨BQq0, BQq1, BQq2, BQq3, BQq4⟩, BQf⟩ := id (BQ_16.out)
  clear BQf
  obtain ⟨⟨BWq0, BWq1, BWq2, BWq3, BWq4⟩, BWf⟩ := id (BW_16.out)
  clear BWf
  go_wp2_with fail
  clear hV16
  refine (eqTrip_q h4 r4 h1 r1 nh nr e4 f4 e1 f1 vl va vo lh lr _ HLh.out HLr.out hnh hnr Qh_16.out.rd'.2 Qr_16.out.rd'.2 Wh_16.out.rd'.2 Wr_16.out.rd'.2).mono ?_
  clear BQq0 BQq1 BQq2 BQq3 BQq4
  clear BWq0 BWq1 BWq2 BWq3 BWq4
  rintro e w17 ⟨rfl, hb⟩
  have hB : Below w16.heap.size w16 w17 := hb
  have HB_17 : Hid (Below w.heap.size w w17) := HB_16.out.trans (hB.mono HB_16.out.size)
  have Wh_17 : Hid (Own w17 w1.heap.size (Value.slice h1 nh e1) (lh)) := Wh_16.out.later hB
  have Wr_17 : Hid (OwnR w17 w1.heap.size (Value.slice r1 nr f1) (lr)) := Wr_16.out.later hB
  have BW_17 : Hid (X5 w17 w2.heap.size (.slice h1 nh e1) (.int .i64 vl) (.int .i64 va) (.slice r1 nr f1) (.int .i64 vo)) := BW_16.out.later hB
  have P2_17 : Hid (Own w17 w3.heap.size (Value.slice p2 n k2) (marks 1 n)) := P2_16.out.later hB
  have Gh_17 : Hid (Own w17 w4.heap.size (Value.slice h2 nh e2) (marks 1 nh)) := Gh_16.out.later hB
  have Gr_17 : Hid (OwnR w17 w4.heap.size (Value.slice r2 nr f2) (marksR (1 + nh) nr)) := Gr_16.out.later hB
  have BG_17 : Hid (X5 w17 w5.heap.size (.slice h2 nh e2) (.int .i64 vl) (.int .i64 va) (.slice r2 nr f2) (.int .i64 vo)) := BG_16.out.later hB
  have RP_17 : Hid (Rd w17 ao xs) := RP_16.out.later hB
  have Qh_17 : Hid (Own w17 w14.heap.size (Value.slice h4 nh e4) (lh)) := Qh_16.out.later hB
  have Qr_17 : Hid (OwnR w17 w14.heap.size (Value.slice r4 nr f4) (lr)) := Qr_16.out.later hB
  have BQ_17 : Hid (X5 w17 w15.heap.size (.slice h4 nh e4) (.int .i64 vl) (.int .i64 va) (.slice r4 nr f4) (.int .i64 vo)) := BQ_16.out.later hB
  have z17 : w16.heap.size ≤ w17.heap.size := hB.size
  clear hb hB HB_16 Wh_16 Wr_16 BW_16 P2_16 Gh_16 Gr_16 BG_16 RP_16 Qh_16 Qr_16 BQ_16 
  obtain ⟨⟨BGq0, BGq1, BGq2, BGq3, BGq4⟩, BGf⟩ := id (BG_17.out)
  clear BGf
  go_wp2_with fail
  refine (heldTrip_c h2 r2 nh nr e2 f2 vl va vo w4.heap.size w4.heap.size _ hnh hnr Gh_17.out Gr_17.out).mono ?_
  rw [HZ1.out]
  clear BGq0 BGq1 BGq2 BGq3 BGq4
  rintro e w18 ⟨rfl, hb⟩
  have hB : Below w17.heap.size w17 w18 := hb
  have HB_18 : Hid (Below w.heap.size w w18) := HB_17.out.trans (hB.mono HB_17.out.size)
  have Wh_18 : Hid (Own w18 w1.heap.size (Value.slice h1 nh e1) (lh)) := Wh_17.out.later hB
  have Wr_18 : Hid (OwnR w18 w1.heap.size (Value.slice r1 nr f1) (lr)) := Wr_17.out.later hB
  have BW_18 : Hid (X5 w18 w2.heap.size (.slice h1 nh e1) (.int .i64 vl) (.int .i64 va) (.slice r1 nr f1) (.int .i64 vo)) := BW_17.out.later hB
  have P2_18 : Hid (Own w18 w3.heap.size (Value.slice p2 n k2) (marks 1 n)) := P2_17.out.later hB
  have Gh_18 : Hid (Own w18 w4.heap.size (Value.slice h2 nh e2) (marks 1 nh)) := Gh_17.out.later hB
  have Gr_18 : Hid (OwnR w18 w4.heap.size (Value.slice r2 nr f2) (marksR (1 + nh) nr)) := Gr_17.out.later hB
  have BG_18 : Hid (X5 w18 w5.heap.size (.slice h2 nh e2) (.int .i64 vl) (.int .i64 va) (.slice r2 nr f2) (.int .i64 vo)) := BG_17.out.later hB
  have RP_18 : Hid (Rd w18 ao xs) := RP_17.out.later hB
  have Qh_18 : Hid (Own w18 w14.heap.size (Value.slice h4 nh e4) (lh)) := Qh_17.out.later hB
  have Qr_18 : Hid (OwnR w18 w14.heap.size (Value.slice r4 nr f4) (lr)) := Qr_17.out.later hB
  have BQ_18 : Hid (X5 w18 w15.heap.size (.slice h4 nh e4) (.int .i64 vl) (.int .i64 va) (.slice r4 nr f4) (.int .i64 vo)) := BQ_17.out.later hB
  have z18 : w17.heap.size ≤ w18.heap.size := hB.size
  clear hb hB HB_17 Wh_17 Wr_17 BW_17 P2_17 Gh_17 Gr_17 BG_17 RP_17 Qh_17 Qr_17 BQ_17 
  go_wp2
  go_ret
  exact ⟨rfl, HB_18.out⟩

end Go.Proofs.Ytdhnolafkgkliaa
