/- The law FnBlamed, walked: true at every two texts of bytes. -/
import Derived.Test.YtdhnolafkgkliaaDoorDB11
import Derived.Test.YtdhnolafkgkliaaDoorFR11P
import Derived.Test.YtdhnolafkgkliaaDoorPF11
namespace Go.Proofs.YtdhnolafkgkliaaDoor
set_option linter.unusedVariables false
set_option maxRecDepth 1000000
set_option linter.unusedSimpArgs false
open Go.RowKit

set_option maxHeartbeats 1000000 in
theorem sameInts_b (ao bo : Option Addr) (n c d : Nat) (xs : List Int) (w : World) (hx : xs.length = n) (hn : n ≤ 140737488355328) (hr : Rd w ao xs) (hs : Rd w bo xs) :
    Calls Tryd.prog 14 #[.slice ao n c, .slice bo n d] w fun e w' => e = .returned (.bool true) ∧ Below w.heap.size w w' := by
  have HX : Hid (xs.length = n) := hx
  have HR : Hid (Rd w ao xs) := hr
  have HS : Hid (Rd w bo xs) := hs
  have hnn : ((n : Int) != (n : Int)) = false := by simp
  clear hx hr hs
  go_enter Tryd.func14, Tryd.ntmps14
  go_wp2
  go_loopw [13] (fun i wr => ∃ (k : Nat), k ≤ n ∧ i = .int .i64 k ∧ Hid (Below w.heap.size w wr)) (fun i _ => n - (intOf i).toNat)
  case atStart => exact ⟨0, Nat.zero_le _, rfl, Below.refl _ _⟩
  case round =>
    obtain ⟨k, hk, rfl, HB⟩ := hrel
    by_cases hlt : k < n
    · obtain ⟨b1, o1, rfl, g1⟩ := (HR.out.later HB.out).get (k := k) (by rw [HX.out]; exact hlt)
      obtain ⟨b2, o2, rfl, g5⟩ := (HS.out.later HB.out).get (k := k) (by rw [HX.out]; exact hlt)
      generalize xs.getD k 0 = x at *
      have heq : (x != x) = false := by simp
      have h0 : (0 : Int) ≤ (k : Int) := by omega
      have hl : (k : Int) < (n : Int) := by omega
      go_wp2
      go_quiet (fail)
      go_wp2
      go_roundw
      case rel => exact ⟨k + 1, by omega, by go_num, below_drewN HB.out _⟩
      case measure => simp [intOf]; omega
    · go_wp2
      go_ret
      exact ⟨rfl, HB.out⟩

theorem blame_fin (ps : List Int) (l : Int) (rs : List Rc) : traceB ps l rs = false ∨ (traceB ps l rs = true ∧ wholeB ps l rs = true ∧ blameI ps l rs = (ps.length : Int) - 1) ∨ (traceB ps l rs = true ∧ wholeB ps l rs = false ∧ blameI ps l rs ≠ (ps.length : Int) - 1 ∧ blameI ps l rs < (ps.length : Int) - 1) := by
  cases h : traceB ps l rs with
  | false => exact Or.inl rfl
  | true =>
    right
    have hle := firstN_le ps l rs
    unfold wholeB blameI
    rw [h]
    by_cases e : firstN ps l rs = ps.length
    · left; simp [e]
    · right; simp [e]; omega

set_option maxRecDepth 1000000 in
set_option maxHeartbeats 16000000 in
theorem lawFnBlamed_c (ao : Option Addr) (n c : Nat) (bo : Option Addr) (m d : Nat) (w : World) (hn : n ≤ 9223372036854775807) (h1 : CodeOk w w.heap.size ao n) (hm : m ≤ 9223372036854775807) (h2 : CodeOk w w.heap.size bo m) (ht : Tab w) :
    Calls Tryd.prog 3 #[.slice ao n c, .slice bo m d] w fun e w' => e = .returned (.bool true) ∧ Below w.heap.size w w' := by
  by_cases hl : 1048576 < wrap64 ((n : Int) + (m : Int))
  · clear h1 h2 ht
    go_enter Tryd.func3, Tryd.ntmps3
    go_wp2
    go_ret
    exact ⟨rfl, Below.refl _ _⟩
  have HN : Hid (CodeOk w w.heap.size ao n) := h1
  have HM : Hid (CodeOk w w.heap.size bo m) := h2
  have HT0 : Hid (Tab w) := ht
  clear h1 h2 ht
  have HB_0 : Hid (Below w.heap.size w w) := Below.refl _ _
  go_enter Tryd.func3, Tryd.ntmps3
  go_wp2_with fail
  refine (drawRunTrip_c ao n c _ hn HN.out).mono ?_
  rintro e w1 ⟨pa, pq, pc, xs, l, lo, rfl, hq1, hq5, hlen0, ho, hb⟩
  have hB : Below w.heap.size w w1 := hb
  have HB_1 : Hid (Below w.heap.size w w1) := HB_0.out.trans (hB.mono HB_0.out.size)
  have z1 : w.heap.size ≤ w1.heap.size := hB.size
  have RP_1 : Hid (Rd w1 pa xs) := ho.rd'.2
  clear hb hB HB_0 
  clear ho
  have HX : Hid (xs.length = pq) := hlen0
  clear hlen0
  by_cases hok : tripOk xs l lo = true
  case neg =>
    rw [Bool.not_eq_true] at hok
    have hlen := trip_len xs l lo
    have qs := fun wx h => specTrip_c pa pq pc xs l lo wx HX.out (by omega) h
    have qi := fun wx h => implTrip_c pa pq pc xs l lo wx HX.out (by omega) h
    rw [hok] at qs qi
    have hno := trip_no hok
    simp only [hno] at qs qi
    obtain ⟨pl, hpl⟩ : ∃ z, pubsL xs = z := ⟨_, rfl⟩
    obtain ⟨np, hnp⟩ : ∃ z, pl.length = z := ⟨_, rfl⟩
    obtain ⟨fq, hfq⟩ : ∃ z, secsH xs = z := ⟨_, rfl⟩
    have hnp6 : np ≤ 6 := by
      rw [← hnp, ← hpl]
      unfold pubsL
      split
      · simp only [rootL, List.length_map]; rw [HX.out]; omega
      · simp
    have HNp : Hid (pl.length = np) := hnp
    have HPI : Hid (∀ wx, Rd wx pa xs → Tab wx → Calls Tryd.prog 12 #[.slice pa pq pc] wx fun e w' => ∃ a' c', e = .returned (.tuple #[.slice a' np c', .bool fq]) ∧ Own w' wx.heap.size (.slice a' np c') pl ∧ Below wx.heap.size wx w') := fun wx h1 h3 => by have := implPublics_c pa pq pc xs wx HX.out (by omega) h1 h3 np (by rw [hpl]; exact hnp); rw [hpl, hfq] at this; exact this
    have HPS : Hid (∀ wx, Rd wx pa xs → Calls Tryd.prog 13 #[.slice pa pq pc] wx fun e w' => ∃ a' c', e = .returned (.tuple #[.slice a' np c', .bool fq]) ∧ Own w' wx.heap.size (.slice a' np c') pl ∧ Below wx.heap.size wx w') := fun wx h1 => by have := specPublics_c pa pq pc xs wx HX.out (by omega) h1 np (by rw [hpl]; exact hnp); rw [hpl, hfq] at this; exact this
    have hff : (fq != fq) = false := by simp
    have HQS : Hid (∀ wx, Rd wx pa xs → Calls Tryd.prog 11 #[.slice pa pq pc, .int .i64 l, .int .i64 lo] wx fun e w' => ∃ ha hc ra rc, e = .returned (.tuple #[.agg #[.slice ha 0 hc, .int .i64 0, .int .i64 0, .slice ra 0 rc, .int .i64 0], .bool false]) ∧ Own w' wx.heap.size (.slice ha 0 hc) [] ∧ OwnR w' wx.heap.size (.slice ra 0 rc) [] ∧ Below wx.heap.size wx w') := qs
    have HQI : Hid (∀ wx, Rd wx pa xs → Calls Tryd.prog 10 #[.slice pa pq pc, .int .i64 l, .int .i64 lo] wx fun e w' => ∃ ha hc ra rc, e = .returned (.tuple #[.agg #[.slice ha 0 hc, .int .i64 0, .int .i64 0, .slice ra 0 rc, .int .i64 0], .bool false]) ∧ Own w' wx.heap.size (.slice ha 0 hc) [] ∧ OwnR w' wx.heap.size (.slice ra 0 rc) [] ∧ Below wx.heap.size wx w') := qi
    clear qs qi hok hno hpl hnp hfq hlen
    go_wp2_with fail
    refine (HQI.out _ RP_1.out).mono ?_
    rintro e w2 ⟨h2, e2, r2, f2, rfl, hoh, hor, hb⟩
    have hB : Below w1.heap.size w1 w2 := hb
    have HB_2 : Hid (Below w.heap.size w w2) := HB_1.out.trans (hB.mono HB_1.out.size)
    have RP_2 : Hid (Rd w2 pa xs) := RP_1.out.later hB
    have z2 : w1.heap.size ≤ w2.heap.size := hB.size
    have Gh_2 : Hid (Rd w2 h2 []) := hoh.rd'.2
    have Gr_2 : Hid (RdR w2 r2 []) := hor.rd'.2
    clear hb hB HB_1 RP_1 
    clear hoh hor
    go_wp2_with fail
    refine (HQS.out _ (RP_2.out.later (balloc w2 (.cells #[.slice h2 0 e2, .int .i64 0, .int .i64 0, .slice r2 0 f2, .int .i64 0] 28)))).mono ?_
    rintro e w3 ⟨h1, e1, r1, f1, rfl, hoh, hor, hb⟩
    have hB : Below w2.heap.size w2 w3 := (balloc w2 (.cells #[.slice h2 0 e2, .int .i64 0, .int .i64 0, .slice r2 0 f2, .int .i64 0] 28)).trans (hb.mono (balloc w2 (.cells #[.slice h2 0 e2, .int .i64 0, .int .i64 0, .slice r2 0 f2, .int .i64 0] 28)).size)
    have HB_3 : Hid (Below w.heap.size w w3) := HB_2.out.trans (hB.mono HB_2.out.size)
    have RP_3 : Hid (Rd w3 pa xs) := RP_2.out.later hB
    have Gh_3 : Hid (Rd w3 h2 []) := Gh_2.out.later hB
    have Gr_3 : Hid (RdR w3 r2 []) := Gr_2.out.later hB
    have Wh_3 : Hid (Rd w3 h1 []) := hoh.rd'.2
    have Wr_3 : Hid (RdR w3 r1 []) := hor.rd'.2
    have z3 : w2.heap.size + 1 ≤ w3.heap.size := by have h8 := hb.size; simp at h8; omega
    have BG_3 : Hid (X5 w3 w2.heap.size (.slice h2 0 e2) (.int .i64 0) (.int .i64 0) (.slice r2 0 f2) (.int .i64 0)) := (x5_new w2 (.slice h2 0 e2) (.int .i64 0) (.int .i64 0) (.slice r2 0 f2) (.int .i64 0) 28 w2.heap.size rfl).later hb
    clear hb hB HB_2 RP_2 Gh_2 Gr_2
    clear hoh hor
    go_wp2_with fail
    refine (HPI.out _ (RP_3.out.later (balloc w3 (.cells #[.slice h1 0 e1, .int .i64 0, .int .i64 0, .slice r1 0 f1, .int .i64 0] 28))) (HT0.out.keep (HB_3.out.alloc HB_3.out.size (.cells #[.slice h1 0 e1, .int .i64 0, .int .i64 0, .slice r1 0 f1, .int .i64 0] 28)))).mono ?_
    rintro e w4 ⟨p1, pc1, rfl, ho, hb⟩
    have hB : Below w3.heap.size w3 w4 := (balloc w3 (.cells #[.slice h1 0 e1, .int .i64 0, .int .i64 0, .slice r1 0 f1, .int .i64 0] 28)).trans (hb.mono (balloc w3 (.cells #[.slice h1 0 e1, .int .i64 0, .int .i64 0, .slice r1 0 f1, .int .i64 0] 28)).size)
    have HB_4 : Hid (Below w.heap.size w w4) := HB_3.out.trans (hB.mono HB_3.out.size)
    have RP_4 : Hid (Rd w4 pa xs) := RP_3.out.later hB
    have Gh_4 : Hid (Rd w4 h2 []) := Gh_3.out.later hB
    have Gr_4 : Hid (RdR w4 r2 []) := Gr_3.out.later hB
    have BG_4 : Hid (X5 w4 w2.heap.size (.slice h2 0 e2) (.int .i64 0) (.int .i64 0) (.slice r2 0 f2) (.int .i64 0)) := BG_3.out.later hB
    have Wh_4 : Hid (Rd w4 h1 []) := Wh_3.out.later hB
    have Wr_4 : Hid (RdR w4 r1 []) := Wr_3.out.later hB
    have P1_4 : Hid (Rd w4 p1 pl) := ho.rd'.2
    have z4 : w3.heap.size + 1 ≤ w4.heap.size := by have h8 := hb.size; simp at h8; omega
    have BW_4 : Hid (X5 w4 w3.heap.size (.slice h1 0 e1) (.int .i64 0) (.int .i64 0) (.slice r1 0 f1) (.int .i64 0)) := (x5_new w3 (.slice h1 0 e1) (.int .i64 0) (.int .i64 0) (.slice r1 0 f1) (.int .i64 0) 28 w3.heap.size rfl).later hb
    clear hb hB HB_3 RP_3 Gh_3 Gr_3 BG_3 Wh_3 Wr_3
    clear ho
    go_wp2_with fail
    refine (HPS.out _ RP_4.out).mono ?_
    rintro e w5 ⟨p2, pc2, rfl, ho, hb⟩
    have hB : Below w4.heap.size w4 w5 := hb
    have HB_5 : Hid (Below w.heap.size w w5) := HB_4.out.trans (hB.mono HB_4.out.size)
    have RP_5 : Hid (Rd w5 pa xs) := RP_4.out.later hB
    have Gh_5 : Hid (Rd w5 h2 []) := Gh_4.out.later hB
    have Gr_5 : Hid (RdR w5 r2 []) := Gr_4.out.later hB
    have BG_5 : Hid (X5 w5 w2.heap.size (.slice h2 0 e2) (.int .i64 0) (.int .i64 0) (.slice r2 0 f2) (.int .i64 0)) := BG_4.out.later hB
    have Wh_5 : Hid (Rd w5 h1 []) := Wh_4.out.later hB
    have Wr_5 : Hid (RdR w5 r1 []) := Wr_4.out.later hB
    have BW_5 : Hid (X5 w5 w3.heap.size (.slice h1 0 e1) (.int .i64 0) (.int .i64 0) (.slice r1 0 f1) (.int .i64 0)) := BW_4.out.later hB
    have P1_5 : Hid (Rd w5 p1 pl) := P1_4.out.later hB
    have z5 : w4.heap.size ≤ w5.heap.size := hB.size
    have P2_5 : Hid (Rd w5 p2 pl) := ho.rd'.2
    clear hb hB HB_4 RP_4 Gh_4 Gr_4 BG_4 Wh_4 Wr_4 BW_4 P1_4 
    clear ho
    obtain ⟨⟨BGq0, BGq1, BGq2, BGq3, BGq4⟩, BGf⟩ := id (BG_5.out)
    clear BGf
    obtain ⟨⟨BWq0, BWq1, BWq2, BWq3, BWq4⟩, BWf⟩ := id (BW_5.out)
    clear BWf
    go_wp2_with fail
    refine (sameInts_b h2 h1 0 e2 e1 [] _ rfl (by omega) Gh_5.out Wh_5.out).mono ?_
    clear BGq0 BGq1 BGq2 BGq3 BGq4
    clear BWq0 BWq1 BWq2 BWq3 BWq4
    rintro e w6 ⟨rfl, hb⟩
    have hB : Below w5.heap.size w5 w6 := hb
    have HB_6 : Hid (Below w.heap.size w w6) := HB_5.out.trans (hB.mono HB_5.out.size)
    have RP_6 : Hid (Rd w6 pa xs) := RP_5.out.later hB
    have Gh_6 : Hid (Rd w6 h2 []) := Gh_5.out.later hB
    have Gr_6 : Hid (RdR w6 r2 []) := Gr_5.out.later hB
    have BG_6 : Hid (X5 w6 w2.heap.size (.slice h2 0 e2) (.int .i64 0) (.int .i64 0) (.slice r2 0 f2) (.int .i64 0)) := BG_5.out.later hB
    have Wh_6 : Hid (Rd w6 h1 []) := Wh_5.out.later hB
    have Wr_6 : Hid (RdR w6 r1 []) := Wr_5.out.later hB
    have BW_6 : Hid (X5 w6 w3.heap.size (.slice h1 0 e1) (.int .i64 0) (.int .i64 0) (.slice r1 0 f1) (.int .i64 0)) := BW_5.out.later hB
    have P1_6 : Hid (Rd w6 p1 pl) := P1_5.out.later hB
    have P2_6 : Hid (Rd w6 p2 pl) := P2_5.out.later hB
    have z6 : w5.heap.size ≤ w6.heap.size := hB.size
    clear hb hB HB_5 RP_5 Gh_5 Gr_5 BG_5 Wh_5 Wr_5 BW_5 P1_5 P2_5 
    obtain ⟨⟨BGq0, BGq1, BGq2, BGq3, BGq4⟩, BGf⟩ := id (BG_6.out)
    clear BGf
    obtain ⟨⟨BWq0, BWq1, BWq2, BWq3, BWq4⟩, BWf⟩ := id (BW_6.out)
    clear BWf
    go_wp2_with fail
    refine (sameReceipts_b r2 r1 0 f2 f1 [] _ rfl (by omega) Gr_6.out Wr_6.out).mono ?_
    clear BGq0 BGq1 BGq2 BGq3 BGq4
    clear BWq0 BWq1 BWq2 BWq3 BWq4
    rintro e w7 ⟨rfl, hb⟩
    have hB : Below w6.heap.size w6 w7 := hb
    have HB_7 : Hid (Below w.heap.size w w7) := HB_6.out.trans (hB.mono HB_6.out.size)
    have RP_7 : Hid (Rd w7 pa xs) := RP_6.out.later hB
    have Gh_7 : Hid (Rd w7 h2 []) := Gh_6.out.later hB
    have Gr_7 : Hid (RdR w7 r2 []) := Gr_6.out.later hB
    have BG_7 : Hid (X5 w7 w2.heap.size (.slice h2 0 e2) (.int .i64 0) (.int .i64 0) (.slice r2 0 f2) (.int .i64 0)) := BG_6.out.later hB
    have Wh_7 : Hid (Rd w7 h1 []) := Wh_6.out.later hB
    have Wr_7 : Hid (RdR w7 r1 []) := Wr_6.out.later hB
    have BW_7 : Hid (X5 w7 w3.heap.size (.slice h1 0 e1) (.int .i64 0) (.int .i64 0) (.slice r1 0 f1) (.int .i64 0)) := BW_6.out.later hB
    have P1_7 : Hid (Rd w7 p1 pl) := P1_6.out.later hB
    have P2_7 : Hid (Rd w7 p2 pl) := P2_6.out.later hB
    have z7 : w6.heap.size ≤ w7.heap.size := hB.size
    clear hb hB HB_6 RP_6 Gh_6 Gr_6 BG_6 Wh_6 Wr_6 BW_6 P1_6 P2_6 
    obtain ⟨⟨BGq0, BGq1, BGq2, BGq3, BGq4⟩, BGf⟩ := id (BG_7.out)
    clear BGf
    obtain ⟨⟨BWq0, BWq1, BWq2, BWq3, BWq4⟩, BWf⟩ := id (BW_7.out)
    clear BWf
    go_wp2_with fail
    refine (sameInts_b p1 p2 np pc1 pc2 pl _ HNp.out (by omega) P1_7.out P2_7.out).mono ?_
    clear BGq0 BGq1 BGq2 BGq3 BGq4
    clear BWq0 BWq1 BWq2 BWq3 BWq4
    rintro e w8 ⟨rfl, hb⟩
    have hB : Below w7.heap.size w7 w8 := hb
    have HB_8 : Hid (Below w.heap.size w w8) := HB_7.out.trans (hB.mono HB_7.out.size)
    have RP_8 : Hid (Rd w8 pa xs) := RP_7.out.later hB
    have Gh_8 : Hid (Rd w8 h2 []) := Gh_7.out.later hB
    have Gr_8 : Hid (RdR w8 r2 []) := Gr_7.out.later hB
    have BG_8 : Hid (X5 w8 w2.heap.size (.slice h2 0 e2) (.int .i64 0) (.int .i64 0) (.slice r2 0 f2) (.int .i64 0)) := BG_7.out.later hB
    have P1_8 : Hid (Rd w8 p1 pl) := P1_7.out.later hB
    have z8 : w7.heap.size ≤ w8.heap.size := hB.size
    clear hb hB HB_7 RP_7 Gh_7 Gr_7 BG_7 Wh_7 Wr_7 BW_7 P1_7 P2_7 
    go_wp2_with fail
    refine (drawBlame_c bo m d _ hm (HM.out.later HB_8.out HB_8.out.size)).mono ?_
    rintro e w9 ⟨qa, np2, qc, ps, l2, ra2, nr2, rc2, rs2, rfl, hy1, hy2, hy3, hy4, hy5, hy6, hb⟩
    have hB : Below w8.heap.size w8 w9 := hb
    have HB_9 : Hid (Below w.heap.size w w9) := HB_8.out.trans (hB.mono HB_8.out.size)
    have RP_9 : Hid (Rd w9 pa xs) := RP_8.out.later hB
    have Gh_9 : Hid (Rd w9 h2 []) := Gh_8.out.later hB
    have Gr_9 : Hid (RdR w9 r2 []) := Gr_8.out.later hB
    have BG_9 : Hid (X5 w9 w2.heap.size (.slice h2 0 e2) (.int .i64 0) (.int .i64 0) (.slice r2 0 f2) (.int .i64 0)) := BG_8.out.later hB
    have P1_9 : Hid (Rd w9 p1 pl) := P1_8.out.later hB
    have z9 : w8.heap.size ≤ w9.heap.size := hB.size
    have Y1_9 : Hid (Rd w9 qa ps) := hy5
    have Y2_9 : Hid (RdR w9 ra2 rs2) := hy6
    clear hb hB HB_8 RP_8 Gh_8 Gr_8 BG_8 P1_8 hy5 hy6
    have HY1 : Hid (ps.length = np2) := hy1
    have HY3 : Hid (rs2.length = nr2) := hy3
    obtain ⟨tb, htb⟩ : ∃ z, traceB ps l2 rs2 = z := ⟨_, rfl⟩
    obtain ⟨bl, hbl⟩ : ∃ z, blameI ps l2 rs2 = z := ⟨_, rfl⟩
    obtain ⟨wh, hwh⟩ : ∃ z, wholeB ps l2 rs2 = z := ⟨_, rfl⟩
    have hfin := blame_fin ps l2 rs2
    rw [htb, hbl, hwh, hy1] at hfin
    have B1 : Hid (∀ wx, Rd wx qa ps → RdR wx ra2 rs2 → Tab wx → Calls Tryd.prog 16 #[.slice qa np2 qc, .int .i64 l2, .slice ra2 nr2 rc2] wx fun e w' => e = .returned (.tuple #[.int .i64 bl, .bool tb]) ∧ Below wx.heap.size wx w') := fun wx h1 h2 h3 => by have := implBlameOf_c qa np2 qc ps l2 ra2 nr2 rc2 rs2 wx hy1 (by omega) (by omega) hy3 h1 h2 h3; rw [hbl, htb] at this; exact this
    have B2 : Hid (∀ wx, Rd wx qa ps → RdR wx ra2 rs2 → Calls Tryd.prog 21 #[.slice qa np2 qc, .int .i64 l2, .slice ra2 nr2 rc2] wx fun e w' => e = .returned (.tuple #[.int .i64 bl, .bool tb]) ∧ Below wx.heap.size wx w') := fun wx h1 h2 => by have := specBlameOf_c qa np2 qc ps l2 ra2 nr2 rc2 rs2 wx hy1 (by omega) (by omega) hy3 h1 h2; rw [hbl, htb] at this; exact this
    have B3 : Hid (∀ wx, Rd wx qa ps → RdR wx ra2 rs2 → Tab wx → Calls Tryd.prog 17 #[.slice qa np2 qc, .int .i64 l2, .slice ra2 nr2 rc2] wx fun e w' => e = .returned (.tuple #[.bool wh, .bool tb]) ∧ Below wx.heap.size wx w') := fun wx h1 h2 h3 => by have := implWholeTrip_c qa np2 qc ps l2 ra2 nr2 rc2 rs2 wx hy1 (by omega) (by omega) hy3 h1 h2 h3; rw [hwh, htb] at this; exact this
    have B4 : Hid (∀ wx, Rd wx qa ps → RdR wx ra2 rs2 → Calls Tryd.prog 22 #[.slice qa np2 qc, .int .i64 l2, .slice ra2 nr2 rc2] wx fun e w' => e = .returned (.tuple #[.bool wh, .bool tb]) ∧ Below wx.heap.size wx w') := fun wx h1 h2 => by have := specWholeTrip_c qa np2 qc ps l2 ra2 nr2 rc2 rs2 wx hy1 (by omega) (by omega) hy3 h1 h2; rw [hwh, htb] at this; exact this
    clear hy1 hy3 htb hbl hwh
    have u1 : (tb != tb) = false := by simp
    have u2 : (bl != bl) = false := by simp
    have u3 : (wh != wh) = false := by simp
    go_wp2_with fail
    refine (B1.out _ Y1_9.out Y2_9.out (HT0.out.keep HB_9.out)).mono ?_
    rintro e w10 ⟨rfl, hb⟩
    have hB : Below w9.heap.size w9 w10 := hb
    have HB_10 : Hid (Below w.heap.size w w10) := HB_9.out.trans (hB.mono HB_9.out.size)
    have RP_10 : Hid (Rd w10 pa xs) := RP_9.out.later hB
    have Gh_10 : Hid (Rd w10 h2 []) := Gh_9.out.later hB
    have Gr_10 : Hid (RdR w10 r2 []) := Gr_9.out.later hB
    have BG_10 : Hid (X5 w10 w2.heap.size (.slice h2 0 e2) (.int .i64 0) (.int .i64 0) (.slice r2 0 f2) (.int .i64 0)) := BG_9.out.later hB
    have P1_10 : Hid (Rd w10 p1 pl) := P1_9.out.later hB
    have Y1_10 : Hid (Rd w10 qa ps) := Y1_9.out.later hB
    have Y2_10 : Hid (RdR w10 ra2 rs2) := Y2_9.out.later hB
    have z10 : w9.heap.size ≤ w10.heap.size := hB.size
    clear hb hB HB_9 RP_9 Gh_9 Gr_9 BG_9 P1_9 Y1_9 Y2_9 
    go_wp2_with fail
    refine (B2.out _ Y1_10.out Y2_10.out).mono ?_
    rintro e w11 ⟨rfl, hb⟩
    have hB : Below w10.heap.size w10 w11 := hb
    have HB_11 : Hid (Below w.heap.size w w11) := HB_10.out.trans (hB.mono HB_10.out.size)
    have RP_11 : Hid (Rd w11 pa xs) := RP_10.out.later hB
    have Gh_11 : Hid (Rd w11 h2 []) := Gh_10.out.later hB
    have Gr_11 : Hid (RdR w11 r2 []) := Gr_10.out.later hB
    have BG_11 : Hid (X5 w11 w2.heap.size (.slice h2 0 e2) (.int .i64 0) (.int .i64 0) (.slice r2 0 f2) (.int .i64 0)) := BG_10.out.later hB
    have P1_11 : Hid (Rd w11 p1 pl) := P1_10.out.later hB
    have Y1_11 : Hid (Rd w11 qa ps) := Y1_10.out.later hB
    have Y2_11 : Hid (RdR w11 ra2 rs2) := Y2_10.out.later hB
    have z11 : w10.heap.size ≤ w11.heap.size := hB.size
    clear hb hB HB_10 RP_10 Gh_10 Gr_10 BG_10 P1_10 Y1_10 Y2_10 
    go_wp2_with fail
    refine (B3.out _ Y1_11.out Y2_11.out (HT0.out.keep HB_11.out)).mono ?_
    rintro e w12 ⟨rfl, hb⟩
    have hB : Below w11.heap.size w11 w12 := hb
    have HB_12 : Hid (Below w.heap.size w w12) := HB_11.out.trans (hB.mono HB_11.out.size)
    have RP_12 : Hid (Rd w12 pa xs) := RP_11.out.later hB
    have Gh_12 : Hid (Rd w12 h2 []) := Gh_11.out.later hB
    have Gr_12 : Hid (RdR w12 r2 []) := Gr_11.out.later hB
    have BG_12 : Hid (X5 w12 w2.heap.size (.slice h2 0 e2) (.int .i64 0) (.int .i64 0) (.slice r2 0 f2) (.int .i64 0)) := BG_11.out.later hB
    have P1_12 : Hid (Rd w12 p1 pl) := P1_11.out.later hB
    have Y1_12 : Hid (Rd w12 qa ps) := Y1_11.out.later hB
    have Y2_12 : Hid (RdR w12 ra2 rs2) := Y2_11.out.later hB
    have z12 : w11.heap.size ≤ w12.heap.size := hB.size
    clear hb hB HB_11 RP_11 Gh_11 Gr_11 BG_11 P1_11 Y1_11 Y2_11 
    go_wp2_with fail
    refine (B4.out _ Y1_12.out Y2_12.out).mono ?_
    rintro e w13 ⟨rfl, hb⟩
    have hB : Below w12.heap.size w12 w13 := hb
    have HB_13 : Hid (Below w.heap.size w w13) := HB_12.out.trans (hB.mono HB_12.out.size)
    have RP_13 : Hid (Rd w13 pa xs) := RP_12.out.later hB
    have Gh_13 : Hid (Rd w13 h2 []) := Gh_12.out.later hB
    have Gr_13 : Hid (RdR w13 r2 []) := Gr_12.out.later hB
    have BG_13 : Hid (X5 w13 w2.heap.size (.slice h2 0 e2) (.int .i64 0) (.int .i64 0) (.slice r2 0 f2) (.int .i64 0)) := BG_12.out.later hB
    have P1_13 : Hid (Rd w13 p1 pl) := P1_12.out.later hB
    have Y1_13 : Hid (Rd w13 qa ps) := Y1_12.out.later hB
    have Y2_13 : Hid (RdR w13 ra2 rs2) := Y2_12.out.later hB
    have z13 : w12.heap.size ≤ w13.heap.size := hB.size
    clear hb hB HB_12 RP_12 Gh_12 Gr_12 BG_12 P1_12 Y1_12 Y2_12 
    rcases hfin with htb | ⟨htb, hwt, hbe⟩ | ⟨htb, hwt, hbe, hbl2⟩
    · subst htb
      go_wp2
      go_ret
      exact ⟨rfl, HB_13.out⟩
    · subst htb hwt
      have v1 : (bl == (np2 : Int) - 1) = true := by simpa using hbe
      clear hbe
      go_wp2
      go_ret
      exact ⟨rfl, HB_13.out⟩
    · subst htb hwt
      have v1 : (bl == (np2 : Int) - 1) = false := by simpa using hbe
      clear hbe
      go_wp2
      go_ret
      exact ⟨rfl, HB_13.out⟩
  have hlen := trip_len xs l lo
  have qs := fun wx h => specTrip_c pa pq pc xs l lo wx HX.out (by omega) h
  have qi := fun wx h => implTrip_c pa pq pc xs l lo wx HX.out (by omega) h
  rw [hok] at qs qi
  have htp := trip_parts hok
  have hyes := trip_yes hok
  rw [HX.out] at hyes htp
  have hsec := htp.1
  have hall := allB_getD (secsH_all hsec)
  have hat : 0 ≤ atI pq lo ∧ atI pq lo < pq := by unfold atI; split <;> omega
  have hlo3 : (lo = -1 ∧ atI pq lo = (pq : Int) - 1) ∨ (0 ≤ lo ∧ atI pq lo = lo) := by unfold atI; split <;> omega
  obtain ⟨a, ha9⟩ : ∃ z, atI pq lo = z := ⟨_, rfl⟩
  rw [ha9] at hyes hat hlo3
  obtain ⟨A, hA9⟩ : ∃ A : Nat, a.toNat + 1 = A := ⟨_, rfl⟩
  rw [hA9] at hyes
  have hA1 : (A : Int) = a + 1 := by omega
  have hAp : A ≤ pq := by omega
  have hfirst := first_recs (l := l) (A := A) htp.2.1 hall (by rw [HX.out]; omega) (by rw [HX.out]; exact hAp)
  have htrace := trace_recs (l := l) (A := A) hsec htp.2.1 (by rw [HX.out]; exact hAp)
  have hh1 : (tripV xs l lo).hands = handsL pq := by rw [hyes]
  have hh2 : (tripV xs l lo).recs = recsL xs l A := by rw [hyes]
  have hh3 : (tripV xs l lo).letter = l := by rw [hyes]
  have hh4 : (tripV xs l lo).at = a := by rw [hyes]
  have hh5 : (tripV xs l lo).lost = lo := by rw [hyes]
  simp only [hh1, hh2, hh3, hh4, hh5, handsL_length, recsL_length] at qs qi
  have HQS : Hid (∀ wx, Rd wx pa xs → Calls Tryd.prog 11 #[.slice pa pq pc, .int .i64 l, .int .i64 lo] wx fun e w' => ∃ ha hc ra rc, e = .returned (.tuple #[.agg #[.slice ha pq hc, .int .i64 l, .int .i64 a, .slice ra A rc, .int .i64 lo], .bool true]) ∧ Own w' wx.heap.size (.slice ha pq hc) (handsL pq) ∧ OwnR w' wx.heap.size (.slice ra A rc) (recsL xs l A) ∧ Below wx.heap.size wx w') := qs
  have HQI : Hid (∀ wx, Rd wx pa xs → Calls Tryd.prog 10 #[.slice pa pq pc, .int .i64 l, .int .i64 lo] wx fun e w' => ∃ ha hc ra rc, e = .returned (.tuple #[.agg #[.slice ha pq hc, .int .i64 l, .int .i64 a, .slice ra A rc, .int .i64 lo], .bool true]) ∧ Own w' wx.heap.size (.slice ha pq hc) (handsL pq) ∧ OwnR w' wx.heap.size (.slice ra A rc) (recsL xs l A) ∧ Below wx.heap.size wx w') := qi
  have hps : pubsL xs = rootL xs := pubsL_yes hsec
  have hrl : (rootL xs).length = pq := by rw [← HX.out]; simp [rootL]
  have HLh : Hid ((handsL pq).length = pq) := handsL_length pq
  have HLr : Hid ((recsL xs l A).length = A) := recsL_length xs l A
  have HAll : Hid (∀ j, j < pq → 1 ≤ xs.getD j 0 ∧ xs.getD j 0 ≤ 1498) := fun j hj => hall j (by rw [HX.out]; exact hj)
  have HL9 : Hid (0 ≤ l ∧ l ≤ 1000) := htp.2.1
  have hbl : blameI (rootL xs) l (recsL xs l A) = a := by unfold blameI; rw [htrace, hfirst]; simp; omega
  have hwh : wholeB (rootL xs) l (recsL xs l A) = decide (A = pq) := by unfold wholeB; rw [htrace, hfirst, hrl]; rfl
  have hprf : ∀ h : Nat, (h : Int) < a → proofL (handsL pq) (recsL xs l A) (h : Int) = [signR (xs.getD (h + 1) 0) (h : Int) l] := fun h hh => by unfold proofL; rw [if_pos (mem_hands.2 ⟨by omega, by omega⟩)]; exact gave_recs (by omega)
  have HPrf : Hid (∀ h : Nat, (h : Int) < a → proofL (handsL pq) (recsL xs l A) (h : Int) = [signR (xs.getD (h + 1) 0) (h : Int) l]) := hprf
  have HBl : Hid (∀ p' k' t' u' wx, Rd wx p' (rootL xs) → RdR wx t' (recsL xs l A) → Tab wx → Calls Tryd.prog 16 #[.slice p' pq k', .int .i64 l, .slice t' A u'] wx fun e w' => e = .returned (.tuple #[.int .i64 a, .bool true]) ∧ Below wx.heap.size wx w') := fun p' k' t' u' wx h1 h2 h3 => by have := implBlameOf_c p' pq k' (rootL xs) l t' A u' (recsL xs l A) wx hrl (by omega) (by omega) (recsL_length _ _ _) h1 h2 h3; rw [hbl, htrace] at this; exact this
  have HWh : Hid (∀ p' k' t' u' wx, Rd wx p' (rootL xs) → RdR wx t' (recsL xs l A) → Tab wx → Calls Tryd.prog 17 #[.slice p' pq k', .int .i64 l, .slice t' A u'] wx fun e w' => e = .returned (.tuple #[.bool (decide (A = pq)), .bool true]) ∧ Below wx.heap.size wx w') := fun p' k' t' u' wx h1 h2 h3 => by have := implWholeTrip_c p' pq k' (rootL xs) l t' A u' (recsL xs l A) wx hrl (by omega) (by omega) (recsL_length _ _ _) h1 h2 h3; rw [hwh, htrace] at this; exact this
  have HPI : Hid (∀ wx, Rd wx pa xs → Tab wx → Calls Tryd.prog 12 #[.slice pa pq pc] wx fun e w' => ∃ a' c', e = .returned (.tuple #[.slice a' pq c', .bool true]) ∧ Own w' wx.heap.size (.slice a' pq c') (rootL xs) ∧ Below wx.heap.size wx w') := fun wx h1 h3 => by have := implPublics_c pa pq pc xs wx HX.out (by omega) h1 h3 pq (by rw [hps]; exact hrl); rw [hps, hsec] at this; exact this
  have HPS : Hid (∀ wx, Rd wx pa xs → Calls Tryd.prog 13 #[.slice pa pq pc] wx fun e w' => ∃ a' c', e = .returned (.tuple #[.slice a' pq c', .bool true]) ∧ Own w' wx.heap.size (.slice a' pq c') (rootL xs) ∧ Below wx.heap.size wx w') := fun wx h1 => by have := specPublics_c pa pq pc xs wx HX.out (by omega) h1 pq (by rw [hps]; exact hrl); rw [hps, hsec] at this; exact this
  have HRl : Hid ((rootL xs).length = pq) := hrl
  have HLo : Hid ((lo = -1 ∧ a = (pq : Int) - 1) ∨ (0 ≤ lo ∧ a = lo)) := hlo3
  have HA1 : Hid ((A : Int) = a + 1) := hA1
  clear qs qi hok hlen htp hyes hsec hall hlo3 ha9 hA9 hA1 hfirst htrace hh1 hh2 hh3 hh4 hh5 hps hrl hbl hwh hprf
  go_wp2_with fail
  refine (HQI.out _ RP_1.out).mono ?_
  rintro e w2 ⟨h2, e2, r2, f2, rfl, hoh, hor, hb⟩
  have hB : Below w1.heap.size w1 w2 := hb
  have HB_2 : Hid (Below w.heap.size w w2) := HB_1.out.trans (hB.mono HB_1.out.size)
  have RP_2 : Hid (Rd w2 pa xs) := RP_1.out.later hB
  have z2 : w1.heap.size ≤ w2.heap.size := hB.size
  have Gh_2 : Hid (Rd w2 h2 (handsL pq)) := hoh.rd'.2
  have Gr_2 : Hid (RdR w2 r2 (recsL xs l A)) := hor.rd'.2
  clear hb hB HB_1 RP_1 
  clear hoh hor
  have hHB := HB_2.out.alloc HB_2.out.size (.cells #[.slice h2 pq e2, .int .i64 l, .int .i64 a, .slice r2 A f2, .int .i64 lo] 28)
  have hRP := RP_2.out.later (balloc w2 (.cells #[.slice h2 pq e2, .int .i64 l, .int .i64 a, .slice r2 A f2, .int .i64 lo] 28))
  have hGh := Gh_2.out.later (balloc w2 (.cells #[.slice h2 pq e2, .int .i64 l, .int .i64 a, .slice r2 A f2, .int .i64 lo] 28))
  have hGr := Gr_2.out.later (balloc w2 (.cells #[.slice h2 pq e2, .int .i64 l, .int .i64 a, .slice r2 A f2, .int .i64 lo] 28))
  have hBG := x5_new w2 (.slice h2 pq e2) (.int .i64 l) (.int .i64 a) (.slice r2 A f2) (.int .i64 lo) 28 w2.heap.size rfl
  have hz : (w2.alloc (.cells #[.slice h2 pq e2, .int .i64 l, .int .i64 a, .slice r2 A f2, .int .i64 lo] 28)).heap.size = w2.heap.size + 1 := by simp
  obtain ⟨w3, hV3⟩ : ∃ V, w2.alloc (.cells #[.slice h2 pq e2, .int .i64 l, .int .i64 a, .slice r2 A f2, .int .i64 lo] 28) = V := ⟨_, rfl⟩
  rw [hV3] at hHB hRP hGh hGr hBG hz
  have HB_3 : Hid (Below w.heap.size w w3) := hHB
  have RP_3 : Hid (Rd w3 pa xs) := hRP
  have Gh_3 : Hid (Rd w3 h2 (handsL pq)) := hGh
  have Gr_3 : Hid (RdR w3 r2 (recsL xs l A)) := hGr
  have BG_3 : Hid (X5 w3 w2.heap.size (.slice h2 pq e2) (.int .i64 l) (.int .i64 a) (.slice r2 A f2) (.int .i64 lo)) := hBG
  have z3 : w2.heap.size + 1 ≤ w3.heap.size := by omega
  clear HB_2 RP_2 Gh_2 Gr_2 hHB hRP hGh hGr hBG hz
  go_wp2_with fail
  clear hV3
  refine (HQS.out _ RP_3.out).mono ?_
  rintro e w4 ⟨h1, e1, r1, f1, rfl, hoh, hor, hb⟩
  have hB : Below w3.heap.size w3 w4 := hb
  have HB_4 : Hid (Below w.heap.size w w4) := HB_3.out.trans (hB.mono HB_3.out.size)
  have RP_4 : Hid (Rd w4 pa xs) := RP_3.out.later hB
  have Gh_4 : Hid (Rd w4 h2 (handsL pq)) := Gh_3.out.later hB
  have Gr_4 : Hid (RdR w4 r2 (recsL xs l A)) := Gr_3.out.later hB
  have BG_4 : Hid (X5 w4 w2.heap.size (.slice h2 pq e2) (.int .i64 l) (.int .i64 a) (.slice r2 A f2) (.int .i64 lo)) := BG_3.out.later hB
  have z4 : w3.heap.size ≤ w4.heap.size := hB.size
  have Wh_4 : Hid (Rd w4 h1 (handsL pq)) := hoh.rd'.2
  have Wr_4 : Hid (RdR w4 r1 (recsL xs l A)) := hor.rd'.2
  clear hb hB HB_3 RP_3 Gh_3 Gr_3 BG_3 
  clear hoh hor
  have hHB := HB_4.out.alloc HB_4.out.size (.cells #[.slice h1 pq e1, .int .i64 l, .int .i64 a, .slice r1 A f1, .int .i64 lo] 28)
  have hRP := RP_4.out.later (balloc w4 (.cells #[.slice h1 pq e1, .int .i64 l, .int .i64 a, .slice r1 A f1, .int .i64 lo] 28))
  have hGh := Gh_4.out.later (balloc w4 (.cells #[.slice h1 pq e1, .int .i64 l, .int .i64 a, .slice r1 A f1, .int .i64 lo] 28))
  have hGr := Gr_4.out.later (balloc w4 (.cells #[.slice h1 pq e1, .int .i64 l, .int .i64 a, .slice r1 A f1, .int .i64 lo] 28))
  have hBG := BG_4.out.later (balloc w4 (.cells #[.slice h1 pq e1, .int .i64 l, .int .i64 a, .slice r1 A f1, .int .i64 lo] 28))
  have hWh := Wh_4.out.later (balloc w4 (.cells #[.slice h1 pq e1, .int .i64 l, .int .i64 a, .slice r1 A f1, .int .i64 lo] 28))
  have hWr := Wr_4.out.later (balloc w4 (.cells #[.slice h1 pq e1, .int .i64 l, .int .i64 a, .slice r1 A f1, .int .i64 lo] 28))
  have hBW := x5_new w4 (.slice h1 pq e1) (.int .i64 l) (.int .i64 a) (.slice r1 A f1) (.int .i64 lo) 28 w4.heap.size rfl
  have hz : (w4.alloc (.cells #[.slice h1 pq e1, .int .i64 l, .int .i64 a, .slice r1 A f1, .int .i64 lo] 28)).heap.size = w4.heap.size + 1 := by simp
  obtain ⟨w5, hV5⟩ : ∃ V, w4.alloc (.cells #[.slice h1 pq e1, .int .i64 l, .int .i64 a, .slice r1 A f1, .int .i64 lo] 28) = V := ⟨_, rfl⟩
  rw [hV5] at hHB hRP hGh hGr hBG hWh hWr hBW hz
  have HB_5 : Hid (Below w.heap.size w w5) := hHB
  have RP_5 : Hid (Rd w5 pa xs) := hRP
  have Gh_5 : Hid (Rd w5 h2 (handsL pq)) := hGh
  have Gr_5 : Hid (RdR w5 r2 (recsL xs l A)) := hGr
  have BG_5 : Hid (X5 w5 w2.heap.size (.slice h2 pq e2) (.int .i64 l) (.int .i64 a) (.slice r2 A f2) (.int .i64 lo)) := hBG
  have Wh_5 : Hid (Rd w5 h1 (handsL pq)) := hWh
  have Wr_5 : Hid (RdR w5 r1 (recsL xs l A)) := hWr
  have BW_5 : Hid (X5 w5 w4.heap.size (.slice h1 pq e1) (.int .i64 l) (.int .i64 a) (.slice r1 A f1) (.int .i64 lo)) := hBW
  have z5 : w4.heap.size + 1 ≤ w5.heap.size := by omega
  clear HB_4 RP_4 Gh_4 Gr_4 BG_4 Wh_4 Wr_4 hHB hRP hGh hGr hBG hWh hWr hBW hz
  go_wp2_with fail
  clear hV5
  refine (HPI.out _ RP_5.out (HT0.out.keep HB_5.out)).mono ?_
  rintro e w6 ⟨p1, pc1, rfl, ho, hb⟩
  have hB : Below w5.heap.size w5 w6 := hb
  have HB_6 : Hid (Below w.heap.size w w6) := HB_5.out.trans (hB.mono HB_5.out.size)
  have RP_6 : Hid (Rd w6 pa xs) := RP_5.out.later hB
  have Gh_6 : Hid (Rd w6 h2 (handsL pq)) := Gh_5.out.later hB
  have Gr_6 : Hid (RdR w6 r2 (recsL xs l A)) := Gr_5.out.later hB
  have BG_6 : Hid (X5 w6 w2.heap.size (.slice h2 pq e2) (.int .i64 l) (.int .i64 a) (.slice r2 A f2) (.int .i64 lo)) := BG_5.out.later hB
  have Wh_6 : Hid (Rd w6 h1 (handsL pq)) := Wh_5.out.later hB
  have Wr_6 : Hid (RdR w6 r1 (recsL xs l A)) := Wr_5.out.later hB
  have BW_6 : Hid (X5 w6 w4.heap.size (.slice h1 pq e1) (.int .i64 l) (.int .i64 a) (.slice r1 A f1) (.int .i64 lo)) := BW_5.out.later hB
  have z6 : w5.heap.size ≤ w6.heap.size := hB.size
  have P1_6 : Hid (Rd w6 p1 (rootL xs)) := ho.rd'.2
  clear hb hB HB_5 RP_5 Gh_5 Gr_5 BG_5 Wh_5 Wr_5 BW_5 
  clear ho
  go_wp2_with fail
  refine (HPS.out _ RP_6.out).mono ?_
  rintro e w7 ⟨p2, pc2, rfl, ho, hb⟩
  have hB : Below w6.heap.size w6 w7 := hb
  have HB_7 : Hid (Below w.heap.size w w7) := HB_6.out.trans (hB.mono HB_6.out.size)
  have RP_7 : Hid (Rd w7 pa xs) := RP_6.out.later hB
  have Gh_7 : Hid (Rd w7 h2 (handsL pq)) := Gh_6.out.later hB
  have Gr_7 : Hid (RdR w7 r2 (recsL xs l A)) := Gr_6.out.later hB
  have BG_7 : Hid (X5 w7 w2.heap.size (.slice h2 pq e2) (.int .i64 l) (.int .i64 a) (.slice r2 A f2) (.int .i64 lo)) := BG_6.out.later hB
  have Wh_7 : Hid (Rd w7 h1 (handsL pq)) := Wh_6.out.later hB
  have Wr_7 : Hid (RdR w7 r1 (recsL xs l A)) := Wr_6.out.later hB
  have BW_7 : Hid (X5 w7 w4.heap.size (.slice h1 pq e1) (.int .i64 l) (.int .i64 a) (.slice r1 A f1) (.int .i64 lo)) := BW_6.out.later hB
  have P1_7 : Hid (Rd w7 p1 (rootL xs)) := P1_6.out.later hB
  have z7 : w6.heap.size ≤ w7.heap.size := hB.size
  have P2_7 : Hid (Rd w7 p2 (rootL xs)) := ho.rd'.2
  clear hb hB HB_6 RP_6 Gh_6 Gr_6 BG_6 Wh_6 Wr_6 BW_6 P1_6 
  clear ho
  obtain ⟨⟨BGq0, BGq1, BGq2, BGq3, BGq4⟩, BGf⟩ := id (BG_7.out)
  clear BGf
  obtain ⟨⟨BWq0, BWq1, BWq2, BWq3, BWq4⟩, BWf⟩ := id (BW_7.out)
  clear BWf
  go_wp2_with fail
  refine (sameInts_b h2 h1 pq e2 e1 (handsL pq) _ HLh.out (by omega) Gh_7.out Wh_7.out).mono ?_
  clear BGq0 BGq1 BGq2 BGq3 BGq4
  clear BWq0 BWq1 BWq2 BWq3 BWq4
  rintro e w8 ⟨rfl, hb⟩
  have hB : Below w7.heap.size w7 w8 := hb
  have HB_8 : Hid (Below w.heap.size w w8) := HB_7.out.trans (hB.mono HB_7.out.size)
  have RP_8 : Hid (Rd w8 pa xs) := RP_7.out.later hB
  have Gh_8 : Hid (Rd w8 h2 (handsL pq)) := Gh_7.out.later hB
  have Gr_8 : Hid (RdR w8 r2 (recsL xs l A)) := Gr_7.out.later hB
  have BG_8 : Hid (X5 w8 w2.heap.size (.slice h2 pq e2) (.int .i64 l) (.int .i64 a) (.slice r2 A f2) (.int .i64 lo)) := BG_7.out.later hB
  have Wh_8 : Hid (Rd w8 h1 (handsL pq)) := Wh_7.out.later hB
  have Wr_8 : Hid (RdR w8 r1 (recsL xs l A)) := Wr_7.out.later hB
  have BW_8 : Hid (X5 w8 w4.heap.size (.slice h1 pq e1) (.int .i64 l) (.int .i64 a) (.slice r1 A f1) (.int .i64 lo)) := BW_7.out.later hB
  have P1_8 : Hid (Rd w8 p1 (rootL xs)) := P1_7.out.later hB
  have P2_8 : Hid (Rd w8 p2 (rootL xs)) := P2_7.out.later hB
  have z8 : w7.heap.size ≤ w8.heap.size := hB.size
  clear hb hB HB_7 RP_7 Gh_7 Gr_7 BG_7 Wh_7 Wr_7 BW_7 P1_7 P2_7 
  obtain ⟨⟨BGq0, BGq1, BGq2, BGq3, BGq4⟩, BGf⟩ := id (BG_8.out)
  clear BGf
  obtain ⟨⟨BWq0, BWq1, BWq2, BWq3, BWq4⟩, BWf⟩ := id (BW_8.out)
  clear BWf
  go_wp2_with fail
  refine (sameReceipts_b r2 r1 A f2 f1 (recsL xs l A) _ HLr.out (by omega) Gr_8.out Wr_8.out).mono ?_
  clear BGq0 BGq1 BGq2 BGq3 BGq4
  clear BWq0 BWq1 BWq2 BWq3 BWq4
  rintro e w9 ⟨rfl, hb⟩
  have hB : Below w8.heap.size w8 w9 := hb
  have HB_9 : Hid (Below w.heap.size w w9) := HB_8.out.trans (hB.mono HB_8.out.size)
  have RP_9 : Hid (Rd w9 pa xs) := RP_8.out.later hB
  have Gh_9 : Hid (Rd w9 h2 (handsL pq)) := Gh_8.out.later hB
  have Gr_9 : Hid (RdR w9 r2 (recsL xs l A)) := Gr_8.out.later hB
  have BG_9 : Hid (X5 w9 w2.heap.size (.slice h2 pq e2) (.int .i64 l) (.int .i64 a) (.slice r2 A f2) (.int .i64 lo)) := BG_8.out.later hB
  have Wh_9 : Hid (Rd w9 h1 (handsL pq)) := Wh_8.out.later hB
  have Wr_9 : Hid (RdR w9 r1 (recsL xs l A)) := Wr_8.out.later hB
  have BW_9 : Hid (X5 w9 w4.heap.size (.slice h1 pq e1) (.int .i64 l) (.int .i64 a) (.slice r1 A f1) (.int .i64 lo)) := BW_8.out.later hB
  have P1_9 : Hid (Rd w9 p1 (rootL xs)) := P1_8.out.later hB
  have P2_9 : Hid (Rd w9 p2 (rootL xs)) := P2_8.out.later hB
  have z9 : w8.heap.size ≤ w9.heap.size := hB.size
  clear hb hB HB_8 RP_8 Gh_8 Gr_8 BG_8 Wh_8 Wr_8 BW_8 P1_8 P2_8 
  obtain ⟨⟨BGq0, BGq1, BGq2, BGq3, BGq4⟩, BGf⟩ := id (BG_9.out)
  clear BGf
  obtain ⟨⟨BWq0, BWq1, BWq2, BWq3, BWq4⟩, BWf⟩ := id (BW_9.out)
  clear BWf
  go_wp2_with fail
  refine (sameInts_b p1 p2 pq pc1 pc2 (rootL xs) _ HRl.out (by omega) P1_9.out P2_9.out).mono ?_
  clear BGq0 BGq1 BGq2 BGq3 BGq4
  clear BWq0 BWq1 BWq2 BWq3 BWq4
  rintro e w10 ⟨rfl, hb⟩
  have hB : Below w9.heap.size w9 w10 := hb
  have HB_10 : Hid (Below w.heap.size w w10) := HB_9.out.trans (hB.mono HB_9.out.size)
  have RP_10 : Hid (Rd w10 pa xs) := RP_9.out.later hB
  have Gh_10 : Hid (Rd w10 h2 (handsL pq)) := Gh_9.out.later hB
  have Gr_10 : Hid (RdR w10 r2 (recsL xs l A)) := Gr_9.out.later hB
  have BG_10 : Hid (X5 w10 w2.heap.size (.slice h2 pq e2) (.int .i64 l) (.int .i64 a) (.slice r2 A f2) (.int .i64 lo)) := BG_9.out.later hB
  have P1_10 : Hid (Rd w10 p1 (rootL xs)) := P1_9.out.later hB
  have z10 : w9.heap.size ≤ w10.heap.size := hB.size
  clear hb hB HB_9 RP_9 Gh_9 Gr_9 BG_9 Wh_9 Wr_9 BW_9 P1_9 P2_9 
  have t1 : (l != l) = false := by simp
  have t2 : (a != a) = false := by simp
  have t3 : (lo != lo) = false := by simp
  obtain ⟨⟨BGq0, BGq1, BGq2, BGq3, BGq4⟩, BGf⟩ := id (BG_10.out)
  clear BGf
  go_wp2_with fail
  refine (HBl.out p1 pc1 r2 f2 _ P1_10.out Gr_10.out (HT0.out.keep HB_10.out)).mono ?_
  clear BGq0 BGq1 BGq2 BGq3 BGq4
  rintro e w11 ⟨rfl, hb⟩
  have hB : Below w10.heap.size w10 w11 := hb
  have HB_11 : Hid (Below w.heap.size w w11) := HB_10.out.trans (hB.mono HB_10.out.size)
  have RP_11 : Hid (Rd w11 pa xs) := RP_10.out.later hB
  have Gh_11 : Hid (Rd w11 h2 (handsL pq)) := Gh_10.out.later hB
  have Gr_11 : Hid (RdR w11 r2 (recsL xs l A)) := Gr_10.out.later hB
  have BG_11 : Hid (X5 w11 w2.heap.size (.slice h2 pq e2) (.int .i64 l) (.int .i64 a) (.slice r2 A f2) (.int .i64 lo)) := BG_10.out.later hB
  have P1_11 : Hid (Rd w11 p1 (rootL xs)) := P1_10.out.later hB
  have z11 : w10.heap.size ≤ w11.heap.size := hB.size
  clear hb hB HB_10 RP_10 Gh_10 Gr_10 BG_10 P1_10 
  obtain ⟨⟨BGq0, BGq1, BGq2, BGq3, BGq4⟩, BGf⟩ := id (BG_11.out)
  clear BGf
  go_wp2_with fail
  refine (HWh.out p1 pc1 r2 f2 _ P1_11.out Gr_11.out (HT0.out.keep HB_11.out)).mono ?_
  clear BGq0 BGq1 BGq2 BGq3 BGq4
  rintro e w12 ⟨rfl, hb⟩
  have hB : Below w11.heap.size w11 w12 := hb
  have HB_12 : Hid (Below w.heap.size w w12) := HB_11.out.trans (hB.mono HB_11.out.size)
  have RP_12 : Hid (Rd w12 pa xs) := RP_11.out.later hB
  have Gh_12 : Hid (Rd w12 h2 (handsL pq)) := Gh_11.out.later hB
  have Gr_12 : Hid (RdR w12 r2 (recsL xs l A)) := Gr_11.out.later hB
  have BG_12 : Hid (X5 w12 w2.heap.size (.slice h2 pq e2) (.int .i64 l) (.int .i64 a) (.slice r2 A f2) (.int .i64 lo)) := BG_11.out.later hB
  have P1_12 : Hid (Rd w12 p1 (rootL xs)) := P1_11.out.later hB
  have z12 : w11.heap.size ≤ w12.heap.size := hB.size
  clear hb hB HB_11 RP_11 Gh_11 Gr_11 BG_11 P1_11 
  obtain ⟨⟨BGq0, BGq1, BGq2, BGq3, BGq4⟩, BGf⟩ := id (BG_12.out)
  clear BGf
  obtain ⟨wv, hwv⟩ : ∃ z, decide (A = pq) = z := ⟨_, rfl⟩
  rw [hwv]
  have hcs : (lo < 0 ∧ wv = true ∧ a = (pq : Int) - 1) ∨ (0 ≤ lo ∧ wv = true ∧ lo = (pq : Int) - 1 ∧ a = lo) ∨ (0 ≤ lo ∧ wv = false ∧ lo ≠ (pq : Int) - 1 ∧ a = lo) := by
    have h8 := HLo.out
    have h7 := HA1.out
    rcases h8 with ⟨h8, h9⟩ | ⟨h8, h9⟩
    · exact Or.inl ⟨by omega, by rw [← hwv]; exact decide_eq_true (by omega), h9⟩
    · by_cases e : lo = (pq : Int) - 1
      · exact Or.inr (Or.inl ⟨h8, by rw [← hwv]; exact decide_eq_true (by omega), e, h9⟩)
      · exact Or.inr (Or.inr ⟨h8, by rw [← hwv]; exact decide_eq_false (by omega), e, h9⟩)
  clear hwv
  rcases hcs with ⟨g1, hw1, hae⟩ | ⟨g2, hw1, hle, hae⟩ | ⟨g2, hw1, hle, hae⟩
  · skip
    subst hw1
    have g2 : ¬ 0 ≤ lo := by omega
    have q1 : (a != (pq : Int) - 1) = false := by simpa using hae
    clear hae
    go_wp2
    clear BGq0 BGq1 BGq2 BGq3 BGq4
    go_loopw [21] (fun iv wr => ∃ h : Nat, (h : Int) ≤ a ∧ iv = .int .i64 h ∧ Hid (Below w12.heap.size w12 wr)) (fun iv _ => A - (intOf iv).toNat)
    case atStart => exact ⟨0, by omega, rfl, Below.refl _ _⟩
    case round =>
      obtain ⟨h, hh, rfl, HBr⟩ := hrel
      by_cases hlt : (h : Int) < a
      · have hA0 := HA1.out
        have hh4 : h ≤ 4 := by omega
        have hin : decide ((h : Int) ∈ handsL pq) = true := decide_eq_true (mem_hands.2 ⟨by omega, by omega⟩)
        have hpr := HPrf.out h hlt
        have hgr := gave_right (xs := xs) (l := l) (h := h) HL9.out (HAll.out (h + 1) (by omega)) hh4
        have hpf := fun wx k1 k2 => implProof_c h2 r2 pq A e2 f2 l a lo (h : Int) (handsL pq) (recsL xs l A) wx HLh.out HLr.out (by omega) (by omega) rfl k1 k2 1 (by rw [hpr]; rfl)
        rw [hpr, hin] at hpf
        have hpv : (rootL xs).getD (h + 1) 0 = pw 4 (xs.getD (h + 1) 0).toNat := rootL_getD (by rw [HX.out]; omega)
        rw [← hpv] at hgr
        unfold signR at hpf hgr
        obtain ⟨sg, hsg⟩ : ∃ z, signN (xs.getD (h + 1) 0) (h : Int) l = z := ⟨_, rfl⟩
        rw [hsg] at hpf hgr
        obtain ⟨pv, hpv2⟩ : ∃ z, (rootL xs).getD (h + 1) 0 = z := ⟨_, rfl⟩
        rw [hpv2] at hgr
        have HPf : Hid (∀ wx, Rd wx h2 (handsL pq) → RdR wx r2 (recsL xs l A) → Calls Tryd.prog 18 #[.agg #[.slice h2 pq e2, .int .i64 l, .int .i64 a, .slice r2 A f2, .int .i64 lo], .int .i64 (h : Int)] wx fun e w' => ∃ a' c', e = .returned (.tuple #[.slice a' 1 c', .bool true]) ∧ OwnR w' wx.heap.size (.slice a' 1 c') [((h : Int), (h : Int) + 1, l, sg)] ∧ Below wx.heap.size wx w') := hpf
        have HCk : Hid (∀ wx, Tab wx → Calls Tryd.prog 19 #[.int .i64 pv, .agg #[.int .i64 (h : Int), .int .i64 ((h : Int) + 1), .int .i64 l, .int .i64 sg]] wx fun e w' => e = .returned (.tuple #[.bool true, .bool true]) ∧ Below wx.heap.size wx w') := fun wx k => by have := implCheck_c pv (h : Int) ((h : Int) + 1) l sg wx k; rw [hgr.1, hgr.2] at this; exact this
        have HPv : Hid ((rootL xs).getD (h + 1) 0 = pv) := hpv2
        clear hpf hgr hpv hpv2 hsg hin hpr hA0
        obtain ⟨⟨c0, c1, c2, c3, c4⟩, _⟩ := BG_12.out.later HBr.out
        go_wp2_with fail
        refine (HPf.out _ (Gh_12.out.later HBr.out) (Gr_12.out.later HBr.out)).mono ?_
        clear c0 c1 c2 c3 c4
        rintro e wA ⟨g1, gc1, rfl, ho, hb⟩
        have HBA : Hid (Below w12.heap.size w12 wA) := HBr.out.trans (hb.mono HBr.out.size)
        obtain ⟨br, or, rfl, d0, d1, d2, d3⟩ := (ho.rd'.2).get (k := 0) (by simp)
        simp only [Nat.zero_mul, Nat.add_zero, List.getD_cons_zero] at d0 d1 d2 d3
        obtain ⟨bp, op, rfl, dp⟩ := (P1_12.out.later HBA.out).get (k := h + 1) (by rw [HRl.out]; have := HA1.out; omega)
        rw [HPv.out] at dp
        have HTA : Hid (Tab wA) := (HT0.out.keep HB_12.out).keep HBA.out
        have hw1 : IntKind.i64.wrap ((h : Int) + 1) = (h : Int) + 1 := by rw [IntKind.wrap_i64]; omega
        have hi0 : (0 : Int) ≤ (h : Int) + 1 := by omega
        have hi1 : (h : Int) + 1 < (pq : Int) := by have := HA1.out; omega
        clear ho hb
        go_wp2
        go_region_with (go_at_call 19; refine (HCk.out _ (by exact HTA.out)).mono ?_; rintro e wB ⟨rfl, hb⟩; have HBB : Hid (Below w12.heap.size w12 wB) := (by first | exact HBA.out.trans (hb.mono HBA.out.size) | exact HBA.out.drew.trans (hb.mono HBA.out.size)); clear hb)
        all_goals go_wp2
        all_goals go_roundw
        all_goals first | exact ⟨h + 1, by omega, by go_num, HBB⟩ | (have := HA1.out; simp [intOf]; omega)
      · obtain ⟨w13, hw9⟩ : ∃ z, wr = z := ⟨_, rfl⟩
        rw [hw9] at HBr ⊢
        have HB_13 : Hid (Below w.heap.size w w13) := HB_12.out.trans (HBr.out.mono HB_12.out.size)
        have z13 : w12.heap.size ≤ w13.heap.size := HBr.out.size
        clear HBr hw9 HB_12 RP_12 Gh_12 Gr_12 BG_12 P1_12
        go_wp2_with fail
        refine (drawBlame_c bo m d _ hm (HM.out.later HB_13.out HB_13.out.size)).mono ?_
        rintro e w14 ⟨qa, np2, qc, ps, l2, ra2, nr2, rc2, rs2, rfl, hy1, hy2, hy3, hy4, hy5, hy6, hb⟩
        have hB : Below w13.heap.size w13 w14 := hb
        have HB_14 : Hid (Below w.heap.size w w14) := HB_13.out.trans (hB.mono HB_13.out.size)
        have z14 : w13.heap.size ≤ w14.heap.size := hB.size
        have Y1_14 : Hid (Rd w14 qa ps) := hy5
        have Y2_14 : Hid (RdR w14 ra2 rs2) := hy6
        clear hb hB HB_13 hy5 hy6
        have HY1 : Hid (ps.length = np2) := hy1
        have HY3 : Hid (rs2.length = nr2) := hy3
        obtain ⟨tb, htb⟩ : ∃ z, traceB ps l2 rs2 = z := ⟨_, rfl⟩
        obtain ⟨bl, hbl⟩ : ∃ z, blameI ps l2 rs2 = z := ⟨_, rfl⟩
        obtain ⟨wh, hwh⟩ : ∃ z, wholeB ps l2 rs2 = z := ⟨_, rfl⟩
        have hfin := blame_fin ps l2 rs2
        rw [htb, hbl, hwh, hy1] at hfin
        have B1 : Hid (∀ wx, Rd wx qa ps → RdR wx ra2 rs2 → Tab wx → Calls Tryd.prog 16 #[.slice qa np2 qc, .int .i64 l2, .slice ra2 nr2 rc2] wx fun e w' => e = .returned (.tuple #[.int .i64 bl, .bool tb]) ∧ Below wx.heap.size wx w') := fun wx h1 h2 h3 => by have := implBlameOf_c qa np2 qc ps l2 ra2 nr2 rc2 rs2 wx hy1 (by omega) (by omega) hy3 h1 h2 h3; rw [hbl, htb] at this; exact this
        have B2 : Hid (∀ wx, Rd wx qa ps → RdR wx ra2 rs2 → Calls Tryd.prog 21 #[.slice qa np2 qc, .int .i64 l2, .slice ra2 nr2 rc2] wx fun e w' => e = .returned (.tuple #[.int .i64 bl, .bool tb]) ∧ Below wx.heap.size wx w') := fun wx h1 h2 => by have := specBlameOf_c qa np2 qc ps l2 ra2 nr2 rc2 rs2 wx hy1 (by omega) (by omega) hy3 h1 h2; rw [hbl, htb] at this; exact this
        have B3 : Hid (∀ wx, Rd wx qa ps → RdR wx ra2 rs2 → Tab wx → Calls Tryd.prog 17 #[.slice qa np2 qc, .int .i64 l2, .slice ra2 nr2 rc2] wx fun e w' => e = .returned (.tuple #[.bool wh, .bool tb]) ∧ Below wx.heap.size wx w') := fun wx h1 h2 h3 => by have := implWholeTrip_c qa np2 qc ps l2 ra2 nr2 rc2 rs2 wx hy1 (by omega) (by omega) hy3 h1 h2 h3; rw [hwh, htb] at this; exact this
        have B4 : Hid (∀ wx, Rd wx qa ps → RdR wx ra2 rs2 → Calls Tryd.prog 22 #[.slice qa np2 qc, .int .i64 l2, .slice ra2 nr2 rc2] wx fun e w' => e = .returned (.tuple #[.bool wh, .bool tb]) ∧ Below wx.heap.size wx w') := fun wx h1 h2 => by have := specWholeTrip_c qa np2 qc ps l2 ra2 nr2 rc2 rs2 wx hy1 (by omega) (by omega) hy3 h1 h2; rw [hwh, htb] at this; exact this
        clear hy1 hy3 htb hbl hwh
        have u1 : (tb != tb) = false := by simp
        have u2 : (bl != bl) = false := by simp
        have u3 : (wh != wh) = false := by simp
        go_wp2_with fail
        refine (B1.out _ Y1_14.out Y2_14.out (HT0.out.keep HB_14.out)).mono ?_
        rintro e w15 ⟨rfl, hb⟩
        have hB : Below w14.heap.size w14 w15 := hb
        have HB_15 : Hid (Below w.heap.size w w15) := HB_14.out.trans (hB.mono HB_14.out.size)
        have Y1_15 : Hid (Rd w15 qa ps) := Y1_14.out.later hB
        have Y2_15 : Hid (RdR w15 ra2 rs2) := Y2_14.out.later hB
        have z15 : w14.heap.size ≤ w15.heap.size := hB.size
        clear hb hB HB_14 Y1_14 Y2_14 
        go_wp2_with fail
        refine (B2.out _ Y1_15.out Y2_15.out).mono ?_
        rintro e w16 ⟨rfl, hb⟩
        have hB : Below w15.heap.size w15 w16 := hb
        have HB_16 : Hid (Below w.heap.size w w16) := HB_15.out.trans (hB.mono HB_15.out.size)
        have Y1_16 : Hid (Rd w16 qa ps) := Y1_15.out.later hB
        have Y2_16 : Hid (RdR w16 ra2 rs2) := Y2_15.out.later hB
        have z16 : w15.heap.size ≤ w16.heap.size := hB.size
        clear hb hB HB_15 Y1_15 Y2_15 
        go_wp2_with fail
        refine (B3.out _ Y1_16.out Y2_16.out (HT0.out.keep HB_16.out)).mono ?_
        rintro e w17 ⟨rfl, hb⟩
        have hB : Below w16.heap.size w16 w17 := hb
        have HB_17 : Hid (Below w.heap.size w w17) := HB_16.out.trans (hB.mono HB_16.out.size)
        have Y1_17 : Hid (Rd w17 qa ps) := Y1_16.out.later hB
        have Y2_17 : Hid (RdR w17 ra2 rs2) := Y2_16.out.later hB
        have z17 : w16.heap.size ≤ w17.heap.size := hB.size
        clear hb hB HB_16 Y1_16 Y2_16 
        go_wp2_with fail
        refine (B4.out _ Y1_17.out Y2_17.out).mono ?_
        rintro e w18 ⟨rfl, hb⟩
        have hB : Below w17.heap.size w17 w18 := hb
        have HB_18 : Hid (Below w.heap.size w w18) := HB_17.out.trans (hB.mono HB_17.out.size)
        have Y1_18 : Hid (Rd w18 qa ps) := Y1_17.out.later hB
        have Y2_18 : Hid (RdR w18 ra2 rs2) := Y2_17.out.later hB
        have z18 : w17.heap.size ≤ w18.heap.size := hB.size
        clear hb hB HB_17 Y1_17 Y2_17 
        rcases hfin with htb | ⟨htb, hwt, hbe⟩ | ⟨htb, hwt, hbe, hbl2⟩
        · subst htb
          go_wp2
          go_ret
          exact ⟨rfl, HB_18.out⟩
        · subst htb hwt
          have v1 : (bl == (np2 : Int) - 1) = true := by simpa using hbe
          clear hbe
          go_wp2
          go_ret
          exact ⟨rfl, HB_18.out⟩
        · subst htb hwt
          have v1 : (bl == (np2 : Int) - 1) = false := by simpa using hbe
          clear hbe
          go_wp2
          go_ret
          exact ⟨rfl, HB_18.out⟩
  · skip
    subst hw1
    have g1 : ¬ lo < 0 := by omega
    have q1 : (lo == (pq : Int) - 1) = true := by simpa using hle
    have q2 : (a != lo) = false := by simpa using hae
    clear hae hle
    go_wp2
    clear BGq0 BGq1 BGq2 BGq3 BGq4
    go_loopw [21] (fun iv wr => ∃ h : Nat, (h : Int) ≤ a ∧ iv = .int .i64 h ∧ Hid (Below w12.heap.size w12 wr)) (fun iv _ => A - (intOf iv).toNat)
    case atStart => exact ⟨0, by omega, rfl, Below.refl _ _⟩
    case round =>
      obtain ⟨h, hh, rfl, HBr⟩ := hrel
      by_cases hlt : (h : Int) < a
      · have hA0 := HA1.out
        have hh4 : h ≤ 4 := by omega
        have hin : decide ((h : Int) ∈ handsL pq) = true := decide_eq_true (mem_hands.2 ⟨by omega, by omega⟩)
        have hpr := HPrf.out h hlt
        have hgr := gave_right (xs := xs) (l := l) (h := h) HL9.out (HAll.out (h + 1) (by omega)) hh4
        have hpf := fun wx k1 k2 => implProof_c h2 r2 pq A e2 f2 l a lo (h : Int) (handsL pq) (recsL xs l A) wx HLh.out HLr.out (by omega) (by omega) rfl k1 k2 1 (by rw [hpr]; rfl)
        rw [hpr, hin] at hpf
        have hpv : (rootL xs).getD (h + 1) 0 = pw 4 (xs.getD (h + 1) 0).toNat := rootL_getD (by rw [HX.out]; omega)
        rw [← hpv] at hgr
        unfold signR at hpf hgr
        obtain ⟨sg, hsg⟩ : ∃ z, signN (xs.getD (h + 1) 0) (h : Int) l = z := ⟨_, rfl⟩
        rw [hsg] at hpf hgr
        obtain ⟨pv, hpv2⟩ : ∃ z, (rootL xs).getD (h + 1) 0 = z := ⟨_, rfl⟩
        rw [hpv2] at hgr
        have HPf : Hid (∀ wx, Rd wx h2 (handsL pq) → RdR wx r2 (recsL xs l A) → Calls Tryd.prog 18 #[.agg #[.slice h2 pq e2, .int .i64 l, .int .i64 a, .slice r2 A f2, .int .i64 lo], .int .i64 (h : Int)] wx fun e w' => ∃ a' c', e = .returned (.tuple #[.slice a' 1 c', .bool true]) ∧ OwnR w' wx.heap.size (.slice a' 1 c') [((h : Int), (h : Int) + 1, l, sg)] ∧ Below wx.heap.size wx w') := hpf
        have HCk : Hid (∀ wx, Tab wx → Calls Tryd.prog 19 #[.int .i64 pv, .agg #[.int .i64 (h : Int), .int .i64 ((h : Int) + 1), .int .i64 l, .int .i64 sg]] wx fun e w' => e = .returned (.tuple #[.bool true, .bool true]) ∧ Below wx.heap.size wx w') := fun wx k => by have := implCheck_c pv (h : Int) ((h : Int) + 1) l sg wx k; rw [hgr.1, hgr.2] at this; exact this
        have HPv : Hid ((rootL xs).getD (h + 1) 0 = pv) := hpv2
        clear hpf hgr hpv hpv2 hsg hin hpr hA0
        obtain ⟨⟨c0, c1, c2, c3, c4⟩, _⟩ := BG_12.out.later HBr.out
        go_wp2_with fail
        refine (HPf.out _ (Gh_12.out.later HBr.out) (Gr_12.out.later HBr.out)).mono ?_
        clear c0 c1 c2 c3 c4
        rintro e wA ⟨g1, gc1, rfl, ho, hb⟩
        have HBA : Hid (Below w12.heap.size w12 wA) := HBr.out.trans (hb.mono HBr.out.size)
        obtain ⟨br, or, rfl, d0, d1, d2, d3⟩ := (ho.rd'.2).get (k := 0) (by simp)
        simp only [Nat.zero_mul, Nat.add_zero, List.getD_cons_zero] at d0 d1 d2 d3
        obtain ⟨bp, op, rfl, dp⟩ := (P1_12.out.later HBA.out).get (k := h + 1) (by rw [HRl.out]; have := HA1.out; omega)
        rw [HPv.out] at dp
        have HTA : Hid (Tab wA) := (HT0.out.keep HB_12.out).keep HBA.out
        have hw1 : IntKind.i64.wrap ((h : Int) + 1) = (h : Int) + 1 := by rw [IntKind.wrap_i64]; omega
        have hi0 : (0 : Int) ≤ (h : Int) + 1 := by omega
        have hi1 : (h : Int) + 1 < (pq : Int) := by have := HA1.out; omega
        clear ho hb
        go_wp2
        go_region_with (go_at_call 19; refine (HCk.out _ (by exact HTA.out)).mono ?_; rintro e wB ⟨rfl, hb⟩; have HBB : Hid (Below w12.heap.size w12 wB) := (by first | exact HBA.out.trans (hb.mono HBA.out.size) | exact HBA.out.drew.trans (hb.mono HBA.out.size)); clear hb)
        all_goals go_wp2
        all_goals go_roundw
        all_goals first | exact ⟨h + 1, by omega, by go_num, HBB⟩ | (have := HA1.out; simp [intOf]; omega)
      · obtain ⟨w13, hw9⟩ : ∃ z, wr = z := ⟨_, rfl⟩
        rw [hw9] at HBr ⊢
        have HB_13 : Hid (Below w.heap.size w w13) := HB_12.out.trans (HBr.out.mono HB_12.out.size)
        have z13 : w12.heap.size ≤ w13.heap.size := HBr.out.size
        clear HBr hw9 HB_12 RP_12 Gh_12 Gr_12 BG_12 P1_12
        go_wp2_with fail
        refine (drawBlame_c bo m d _ hm (HM.out.later HB_13.out HB_13.out.size)).mono ?_
        rintro e w14 ⟨qa, np2, qc, ps, l2, ra2, nr2, rc2, rs2, rfl, hy1, hy2, hy3, hy4, hy5, hy6, hb⟩
        have hB : Below w13.heap.size w13 w14 := hb
        have HB_14 : Hid (Below w.heap.size w w14) := HB_13.out.trans (hB.mono HB_13.out.size)
        have z14 : w13.heap.size ≤ w14.heap.size := hB.size
        have Y1_14 : Hid (Rd w14 qa ps) := hy5
        have Y2_14 : Hid (RdR w14 ra2 rs2) := hy6
        clear hb hB HB_13 hy5 hy6
        have HY1 : Hid (ps.length = np2) := hy1
        have HY3 : Hid (rs2.length = nr2) := hy3
        obtain ⟨tb, htb⟩ : ∃ z, traceB ps l2 rs2 = z := ⟨_, rfl⟩
        obtain ⟨bl, hbl⟩ : ∃ z, blameI ps l2 rs2 = z := ⟨_, rfl⟩
        obtain ⟨wh, hwh⟩ : ∃ z, wholeB ps l2 rs2 = z := ⟨_, rfl⟩
        have hfin := blame_fin ps l2 rs2
        rw [htb, hbl, hwh, hy1] at hfin
        have B1 : Hid (∀ wx, Rd wx qa ps → RdR wx ra2 rs2 → Tab wx → Calls Tryd.prog 16 #[.slice qa np2 qc, .int .i64 l2, .slice ra2 nr2 rc2] wx fun e w' => e = .returned (.tuple #[.int .i64 bl, .bool tb]) ∧ Below wx.heap.size wx w') := fun wx h1 h2 h3 => by have := implBlameOf_c qa np2 qc ps l2 ra2 nr2 rc2 rs2 wx hy1 (by omega) (by omega) hy3 h1 h2 h3; rw [hbl, htb] at this; exact this
        have B2 : Hid (∀ wx, Rd wx qa ps → RdR wx ra2 rs2 → Calls Tryd.prog 21 #[.slice qa np2 qc, .int .i64 l2, .slice ra2 nr2 rc2] wx fun e w' => e = .returned (.tuple #[.int .i64 bl, .bool tb]) ∧ Below wx.heap.size wx w') := fun wx h1 h2 => by have := specBlameOf_c qa np2 qc ps l2 ra2 nr2 rc2 rs2 wx hy1 (by omega) (by omega) hy3 h1 h2; rw [hbl, htb] at this; exact this
        have B3 : Hid (∀ wx, Rd wx qa ps → RdR wx ra2 rs2 → Tab wx → Calls Tryd.prog 17 #[.slice qa np2 qc, .int .i64 l2, .slice ra2 nr2 rc2] wx fun e w' => e = .returned (.tuple #[.bool wh, .bool tb]) ∧ Below wx.heap.size wx w') := fun wx h1 h2 h3 => by have := implWholeTrip_c qa np2 qc ps l2 ra2 nr2 rc2 rs2 wx hy1 (by omega) (by omega) hy3 h1 h2 h3; rw [hwh, htb] at this; exact this
        have B4 : Hid (∀ wx, Rd wx qa ps → RdR wx ra2 rs2 → Calls Tryd.prog 22 #[.slice qa np2 qc, .int .i64 l2, .slice ra2 nr2 rc2] wx fun e w' => e = .returned (.tuple #[.bool wh, .bool tb]) ∧ Below wx.heap.size wx w') := fun wx h1 h2 => by have := specWholeTrip_c qa np2 qc ps l2 ra2 nr2 rc2 rs2 wx hy1 (by omega) (by omega) hy3 h1 h2; rw [hwh, htb] at this; exact this
        clear hy1 hy3 htb hbl hwh
        have u1 : (tb != tb) = false := by simp
        have u2 : (bl != bl) = false := by simp
        have u3 : (wh != wh) = false := by simp
        go_wp2_with fail
        refine (B1.out _ Y1_14.out Y2_14.out (HT0.out.keep HB_14.out)).mono ?_
        rintro e w15 ⟨rfl, hb⟩
        have hB : Below w14.heap.size w14 w15 := hb
        have HB_15 : Hid (Below w.heap.size w w15) := HB_14.out.trans (hB.mono HB_14.out.size)
        have Y1_15 : Hid (Rd w15 qa ps) := Y1_14.out.later hB
        have Y2_15 : Hid (RdR w15 ra2 rs2) := Y2_14.out.later hB
        have z15 : w14.heap.size ≤ w15.heap.size := hB.size
        clear hb hB HB_14 Y1_14 Y2_14 
        go_wp2_with fail
        refine (B2.out _ Y1_15.out Y2_15.out).mono ?_
        rintro e w16 ⟨rfl, hb⟩
        have hB : Below w15.heap.size w15 w16 := hb
        have HB_16 : Hid (Below w.heap.size w w16) := HB_15.out.trans (hB.mono HB_15.out.size)
        have Y1_16 : Hid (Rd w16 qa ps) := Y1_15.out.later hB
        have Y2_16 : Hid (RdR w16 ra2 rs2) := Y2_15.out.later hB
        have z16 : w15.heap.size ≤ w16.heap.size := hB.size
        clear hb hB HB_15 Y1_15 Y2_15 
        go_wp2_with fail
        refine (B3.out _ Y1_16.out Y2_16.out (HT0.out.keep HB_16.out)).mono ?_
        rintro e w17 ⟨rfl, hb⟩
        have hB : Below w16.heap.size w16 w17 := hb
        have HB_17 : Hid (Below w.heap.size w w17) := HB_16.out.trans (hB.mono HB_16.out.size)
        have Y1_17 : Hid (Rd w17 qa ps) := Y1_16.out.later hB
        have Y2_17 : Hid (RdR w17 ra2 rs2) := Y2_16.out.later hB
        have z17 : w16.heap.size ≤ w17.heap.size := hB.size
        clear hb hB HB_16 Y1_16 Y2_16 
        go_wp2_with fail
        refine (B4.out _ Y1_17.out Y2_17.out).mono ?_
        rintro e w18 ⟨rfl, hb⟩
        have hB : Below w17.heap.size w17 w18 := hb
        have HB_18 : Hid (Below w.heap.size w w18) := HB_17.out.trans (hB.mono HB_17.out.size)
        have Y1_18 : Hid (Rd w18 qa ps) := Y1_17.out.later hB
        have Y2_18 : Hid (RdR w18 ra2 rs2) := Y2_17.out.later hB
        have z18 : w17.heap.size ≤ w18.heap.size := hB.size
        clear hb hB HB_17 Y1_17 Y2_17 
        rcases hfin with htb | ⟨htb, hwt, hbe⟩ | ⟨htb, hwt, hbe, hbl2⟩
        · subst htb
          go_wp2
          go_ret
          exact ⟨rfl, HB_18.out⟩
        · subst htb hwt
          have v1 : (bl == (np2 : Int) - 1) = true := by simpa using hbe
          clear hbe
          go_wp2
          go_ret
          exact ⟨rfl, HB_18.out⟩
        · subst htb hwt
          have v1 : (bl == (np2 : Int) - 1) = false := by simpa using hbe
          clear hbe
          go_wp2
          go_ret
          exact ⟨rfl, HB_18.out⟩
  · skip
    subst hw1
    have g1 : ¬ lo < 0 := by omega
    have q1 : (lo == (pq : Int) - 1) = false := by simpa using hle
    have q2 : (a != lo) = false := by simpa using hae
    clear hae hle
    go_wp2
    clear BGq0 BGq1 BGq2 BGq3 BGq4
    go_loopw [21] (fun iv wr => ∃ h : Nat, (h : Int) ≤ a ∧ iv = .int .i64 h ∧ Hid (Below w12.heap.size w12 wr)) (fun iv _ => A - (intOf iv).toNat)
    case atStart => exact ⟨0, by omega, rfl, Below.refl _ _⟩
    case round =>
      obtain ⟨h, hh, rfl, HBr⟩ := hrel
      by_cases hlt : (h : Int) < a
      · have hA0 := HA1.out
        have hh4 : h ≤ 4 := by omega
        have hin : decide ((h : Int) ∈ handsL pq) = true := decide_eq_true (mem_hands.2 ⟨by omega, by omega⟩)
        have hpr := HPrf.out h hlt
        have hgr := gave_right (xs := xs) (l := l) (h := h) HL9.out (HAll.out (h + 1) (by omega)) hh4
        have hpf := fun wx k1 k2 => implProof_c h2 r2 pq A e2 f2 l a lo (h : Int) (handsL pq) (recsL xs l A) wx HLh.out HLr.out (by omega) (by omega) rfl k1 k2 1 (by rw [hpr]; rfl)
        rw [hpr, hin] at hpf
        have hpv : (rootL xs).getD (h + 1) 0 = pw 4 (xs.getD (h + 1) 0).toNat := rootL_getD (by rw [HX.out]; omega)
        rw [← hpv] at hgr
        unfold signR at hpf hgr
        obtain ⟨sg, hsg⟩ : ∃ z, signN (xs.getD (h + 1) 0) (h : Int) l = z := ⟨_, rfl⟩
        rw [hsg] at hpf hgr
        obtain ⟨pv, hpv2⟩ : ∃ z, (rootL xs).getD (h + 1) 0 = z := ⟨_, rfl⟩
        rw [hpv2] at hgr
        have HPf : Hid (∀ wx, Rd wx h2 (handsL pq) → RdR wx r2 (recsL xs l A) → Calls Tryd.prog 18 #[.agg #[.slice h2 pq e2, .int .i64 l, .int .i64 a, .slice r2 A f2, .int .i64 lo], .int .i64 (h : Int)] wx fun e w' => ∃ a' c', e = .returned (.tuple #[.slice a' 1 c', .bool true]) ∧ OwnR w' wx.heap.size (.slice a' 1 c') [((h : Int), (h : Int) + 1, l, sg)] ∧ Below wx.heap.size wx w') := hpf
        have HCk : Hid (∀ wx, Tab wx → Calls Tryd.prog 19 #[.int .i64 pv, .agg #[.int .i64 (h : Int), .int .i64 ((h : Int) + 1), .int .i64 l, .int .i64 sg]] wx fun e w' => e = .returned (.tuple #[.bool true, .bool true]) ∧ Below wx.heap.size wx w') := fun wx k => by have := implCheck_c pv (h : Int) ((h : Int) + 1) l sg wx k; rw [hgr.1, hgr.2] at this; exact this
        have HPv : Hid ((rootL xs).getD (h + 1) 0 = pv) := hpv2
        clear hpf hgr hpv hpv2 hsg hin hpr hA0
        obtain ⟨⟨c0, c1, c2, c3, c4⟩, _⟩ := BG_12.out.later HBr.out
        go_wp2_with fail
        refine (HPf.out _ (Gh_12.out.later HBr.out) (Gr_12.out.later HBr.out)).mono ?_
        clear c0 c1 c2 c3 c4
        rintro e wA ⟨g1, gc1, rfl, ho, hb⟩
        have HBA : Hid (Below w12.heap.size w12 wA) := HBr.out.trans (hb.mono HBr.out.size)
        obtain ⟨br, or, rfl, d0, d1, d2, d3⟩ := (ho.rd'.2).get (k := 0) (by simp)
        simp only [Nat.zero_mul, Nat.add_zero, List.getD_cons_zero] at d0 d1 d2 d3
        obtain ⟨bp, op, rfl, dp⟩ := (P1_12.out.later HBA.out).get (k := h + 1) (by rw [HRl.out]; have := HA1.out; omega)
        rw [HPv.out] at dp
        have HTA : Hid (Tab wA) := (HT0.out.keep HB_12.out).keep HBA.out
        have hw1 : IntKind.i64.wrap ((h : Int) + 1) = (h : Int) + 1 := by rw [IntKind.wrap_i64]; omega
        have hi0 : (0 : Int) ≤ (h : Int) + 1 := by omega
        have hi1 : (h : Int) + 1 < (pq : Int) := by have := HA1.out; omega
        clear ho hb
        go_wp2
        go_region_with (go_at_call 19; refine (HCk.out _ (by exact HTA.out)).mono ?_; rintro e wB ⟨rfl, hb⟩; have HBB : Hid (Below w12.heap.size w12 wB) := (by first | exact HBA.out.trans (hb.mono HBA.out.size) | exact HBA.out.drew.trans (hb.mono HBA.out.size)); clear hb)
        all_goals go_wp2
        all_goals go_roundw
        all_goals first | exact ⟨h + 1, by omega, by go_num, HBB⟩ | (have := HA1.out; simp [intOf]; omega)
      · obtain ⟨w13, hw9⟩ : ∃ z, wr = z := ⟨_, rfl⟩
        rw [hw9] at HBr ⊢
        have HB_13 : Hid (Below w.heap.size w w13) := HB_12.out.trans (HBr.out.mono HB_12.out.size)
        have z13 : w12.heap.size ≤ w13.heap.size := HBr.out.size
        clear HBr hw9 HB_12 RP_12 Gh_12 Gr_12 BG_12 P1_12
        go_wp2_with fail
        refine (drawBlame_c bo m d _ hm (HM.out.later HB_13.out HB_13.out.size)).mono ?_
        rintro e w14 ⟨qa, np2, qc, ps, l2, ra2, nr2, rc2, rs2, rfl, hy1, hy2, hy3, hy4, hy5, hy6, hb⟩
        have hB : Below w13.heap.size w13 w14 := hb
        have HB_14 : Hid (Below w.heap.size w w14) := HB_13.out.trans (hB.mono HB_13.out.size)
        have z14 : w13.heap.size ≤ w14.heap.size := hB.size
        have Y1_14 : Hid (Rd w14 qa ps) := hy5
        have Y2_14 : Hid (RdR w14 ra2 rs2) := hy6
        clear hb hB HB_13 hy5 hy6
        have HY1 : Hid (ps.length = np2) := hy1
        have HY3 : Hid (rs2.length = nr2) := hy3
        obtain ⟨tb, htb⟩ : ∃ z, traceB ps l2 rs2 = z := ⟨_, rfl⟩
        obtain ⟨bl, hbl⟩ : ∃ z, blameI ps l2 rs2 = z := ⟨_, rfl⟩
        obtain ⟨wh, hwh⟩ : ∃ z, wholeB ps l2 rs2 = z := ⟨_, rfl⟩
        have hfin := blame_fin ps l2 rs2
        rw [htb, hbl, hwh, hy1] at hfin
        have B1 : Hid (∀ wx, Rd wx qa ps → RdR wx ra2 rs2 → Tab wx → Calls Tryd.prog 16 #[.slice qa np2 qc, .int .i64 l2, .slice ra2 nr2 rc2] wx fun e w' => e = .returned (.tuple #[.int .i64 bl, .bool tb]) ∧ Below wx.heap.size wx w') := fun wx h1 h2 h3 => by have := implBlameOf_c qa np2 qc ps l2 ra2 nr2 rc2 rs2 wx hy1 (by omega) (by omega) hy3 h1 h2 h3; rw [hbl, htb] at this; exact this
        have B2 : Hid (∀ wx, Rd wx qa ps → RdR wx ra2 rs2 → Calls Tryd.prog 21 #[.slice qa np2 qc, .int .i64 l2, .slice ra2 nr2 rc2] wx fun e w' => e = .returned (.tuple #[.int .i64 bl, .bool tb]) ∧ Below wx.heap.size wx w') := fun wx h1 h2 => by have := specBlameOf_c qa np2 qc ps l2 ra2 nr2 rc2 rs2 wx hy1 (by omega) (by omega) hy3 h1 h2; rw [hbl, htb] at this; exact this
        have B3 : Hid (∀ wx, Rd wx qa ps → RdR wx ra2 rs2 → Tab wx → Calls Tryd.prog 17 #[.slice qa np2 qc, .int .i64 l2, .slice ra2 nr2 rc2] wx fun e w' => e = .returned (.tuple #[.bool wh, .bool tb]) ∧ Below wx.heap.size wx w') := fun wx h1 h2 h3 => by have := implWholeTrip_c qa np2 qc ps l2 ra2 nr2 rc2 rs2 wx hy1 (by omega) (by omega) hy3 h1 h2 h3; rw [hwh, htb] at this; exact this
        have B4 : Hid (∀ wx, Rd wx qa ps → RdR wx ra2 rs2 → Calls Tryd.prog 22 #[.slice qa np2 qc, .int .i64 l2, .slice ra2 nr2 rc2] wx fun e w' => e = .returned (.tuple #[.bool wh, .bool tb]) ∧ Below wx.heap.size wx w') := fun wx h1 h2 => by have := specWholeTrip_c qa np2 qc ps l2 ra2 nr2 rc2 rs2 wx hy1 (by omega) (by omega) hy3 h1 h2; rw [hwh, htb] at this; exact this
        clear hy1 hy3 htb hbl hwh
        have u1 : (tb != tb) = false := by simp
        have u2 : (bl != bl) = false := by simp
        have u3 : (wh != wh) = false := by simp
        go_wp2_with fail
        refine (B1.out _ Y1_14.out Y2_14.out (HT0.out.keep HB_14.out)).mono ?_
        rintro e w15 ⟨rfl, hb⟩
        have hB : Below w14.heap.size w14 w15 := hb
        have HB_15 : Hid (Below w.heap.size w w15) := HB_14.out.trans (hB.mono HB_14.out.size)
        have Y1_15 : Hid (Rd w15 qa ps) := Y1_14.out.later hB
        have Y2_15 : Hid (RdR w15 ra2 rs2) := Y2_14.out.later hB
        have z15 : w14.heap.size ≤ w15.heap.size := hB.size
        clear hb hB HB_14 Y1_14 Y2_14 
        go_wp2_with fail
        refine (B2.out _ Y1_15.out Y2_15.out).mono ?_
        rintro e w16 ⟨rfl, hb⟩
        have hB : Below w15.heap.size w15 w16 := hb
        have HB_16 : Hid (Below w.heap.size w w16) := HB_15.out.trans (hB.mono HB_15.out.size)
        have Y1_16 : Hid (Rd w16 qa ps) := Y1_15.out.later hB
        have Y2_16 : Hid (RdR w16 ra2 rs2) := Y2_15.out.later hB
        have z16 : w15.heap.size ≤ w16.heap.size := hB.size
        clear hb hB HB_15 Y1_15 Y2_15 
        go_wp2_with fail
        refine (B3.out _ Y1_16.out Y2_16.out (HT0.out.keep HB_16.out)).mono ?_
        rintro e w17 ⟨rfl, hb⟩
        have hB : Below w16.heap.size w16 w17 := hb
        have HB_17 : Hid (Below w.heap.size w w17) := HB_16.out.trans (hB.mono HB_16.out.size)
        have Y1_17 : Hid (Rd w17 qa ps) := Y1_16.out.later hB
        have Y2_17 : Hid (RdR w17 ra2 rs2) := Y2_16.out.later hB
        have z17 : w16.heap.size ≤ w17.heap.size := hB.size
        clear hb hB HB_16 Y1_16 Y2_16 
        go_wp2_with fail
        refine (B4.out _ Y1_17.out Y2_17.out).mono ?_
        rintro e w18 ⟨rfl, hb⟩
        have hB : Below w17.heap.size w17 w18 := hb
        have HB_18 : Hid (Below w.heap.size w w18) := HB_17.out.trans (hB.mono HB_17.out.size)
        have Y1_18 : Hid (Rd w18 qa ps) := Y1_17.out.later hB
        have Y2_18 : Hid (RdR w18 ra2 rs2) := Y2_17.out.later hB
        have z18 : w17.heap.size ≤ w18.heap.size := hB.size
        clear hb hB HB_17 Y1_17 Y2_17 
        rcases hfin with htb | ⟨htb, hwt, hbe⟩ | ⟨htb, hwt, hbe, hbl2⟩
        · subst htb
          go_wp2
          go_ret
          exact ⟨rfl, HB_18.out⟩
        · subst htb hwt
          have v1 : (bl == (np2 : Int) - 1) = true := by simpa using hbe
          clear hbe
          go_wp2
          go_ret
          exact ⟨rfl, HB_18.out⟩
        · subst htb hwt
          have v1 : (bl == (np2 : Int) - 1) = false := by simpa using hbe
          clear hbe
          go_wp2
          go_ret
          exact ⟨rfl, HB_18.out⟩

end Go.Proofs.YtdhnolafkgkliaaDoor
