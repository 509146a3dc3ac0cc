/- The law FnReceipts, walked: true at every two texts of bytes. -/
import Derived.Test.YtdhnolafkgkliaaDoorPF11
import Derived.Test.YtdhnolafkgkliaaDoorFR11P
import Derived.Test.YtdhnolafkgkliaaDoorDC11
namespace Go.Proofs.YtdhnolafkgkliaaDoor
set_option linter.unusedVariables false
set_option maxRecDepth 1000000
set_option linter.unusedSimpArgs false
open Go.RowKit

theorem trip_hands (xs : List Int) (l lo : Int) : (tripV xs l lo).hands = handsL (tripV xs l lo).hands.length := by
  unfold tripV
  split
  · simp only [handsL_length]
  · rfl

set_option maxHeartbeats 16000000 in
theorem lawFnReceipts_c (ao : Option Addr) (n c : Nat) (bo : Option Addr) (m d : Nat) (w : World) (hn : n ≤ 9223372036854775807) (h1 : CodeOk w w.heap.size ao n) (hm : m ≤ 9223372036854775807) (h2 : CodeOk w w.heap.size bo m) (ht : Tab w) :
    Calls Tryd.prog 4 #[.slice ao n c, .slice bo m d] w fun e w' => e = .returned (.bool true) ∧ Below w.heap.size w w' := by
  by_cases hl : 1048576 < wrap64 ((n : Int) + (m : Int))
  · clear h1 h2 ht
    go_enter Tryd.func4, Tryd.ntmps4
    go_wp2
    go_ret
    exact ⟨rfl, Below.refl _ _⟩
  have HN : Hid (CodeOk w w.heap.size ao n) := h1
  have HM : Hid (CodeOk w w.heap.size bo m) := h2
  have HT0 : Hid (Tab w) := ht
  clear h1 h2 ht
  have HB_0 : Hid (Below w.heap.size w w) := Below.refl _ _
  go_enter Tryd.func4, Tryd.ntmps4
  go_wp2_with fail
  refine (drawSignFor_c ao n c _ hn HN.out).mono ?_
  rintro e w1 ⟨sc, f, t, l, rfl, hf, ht9, hb⟩
  have hB : Below w.heap.size w w1 := hb
  have HB_1 : Hid (Below w.heap.size w w1) := HB_0.out.trans (hB.mono HB_0.out.size)
  have z1 : w.heap.size ≤ w1.heap.size := hB.size
  clear hb hB HB_0 
  by_cases hok : signOk sc f t l = true
  case neg =>
    rw [Bool.not_eq_true] at hok
    have qi := fun wx => implSign_c sc f t l wx (by omega) (by omega)
    have qs := fun wx => specSign_c sc f t l wx (by omega) (by omega)
    simp only [signV_no hok, hok] at qi qs
    have hrn := fun wx => run_neq_rc (0) (0) (0) (0) wx
    clear hok
    go_wp2_with fail
    refine (qi _).mono ?_
    rintro e w2 ⟨rfl, hb⟩
    have hB : Below w1.heap.size w1 w2 := hb
    have HB_2 : Hid (Below w.heap.size w w2) := HB_1.out.trans (hB.mono HB_1.out.size)
    have z2 : w1.heap.size ≤ w2.heap.size := hB.size
    clear hb hB HB_1 
    go_wp2_with fail
    refine (qs _).mono ?_
    rintro e w3 ⟨rfl, hb⟩
    have hB : Below w2.heap.size w2 w3 := (balloc w2 (.cells #[.int .i64 0, .int .i64 0, .int .i64 0, .int .i64 0] 43)).trans (hb.mono (balloc w2 (.cells #[.int .i64 0, .int .i64 0, .int .i64 0, .int .i64 0] 43)).size)
    have HB_3 : Hid (Below w.heap.size w w3) := HB_2.out.trans (hB.mono HB_2.out.size)
    have z3 : w2.heap.size + 1 ≤ w3.heap.size := by have h8 := hb.size; simp at h8; omega
    have R_3 : Hid (X4 w3 w2.heap.size (.int .i64 0) (.int .i64 0) (.int .i64 0) (.int .i64 0)) := (x4_new w2 (.int .i64 0) (.int .i64 0) (.int .i64 0) (.int .i64 0) 43 w2.heap.size rfl).later hb
    clear hb hB HB_2
    clear qi qs
    obtain ⟨⟨aR0, aR1, aR2, aR3⟩, _⟩ := R_3.out.later (balloc w3 (.cells #[.int .i64 0, .int .i64 0, .int .i64 0, .int .i64 0] 43))
    obtain ⟨⟨bR0, bR1, bR2, bR3⟩, _⟩ := id (R_3.out)
    go_wp2_with fail
    refine (drawCheckR_c bo m d _ hm (HM.out.later (HB_3.out.alloc HB_3.out.size (.cells #[.int .i64 0, .int .i64 0, .int .i64 0, .int .i64 0] 43)) (HB_3.out.alloc HB_3.out.size (.cells #[.int .i64 0, .int .i64 0, .int .i64 0, .int .i64 0] 43)).size)).mono ?_
    clear aR0 aR1 aR2 aR3 bR0 bR1 bR2 bR3
    rintro e w4 ⟨p2, b0, b1, b2, b3, rfl, hb⟩
    have hB : Below w3.heap.size w3 w4 := (balloc w3 (.cells #[.int .i64 0, .int .i64 0, .int .i64 0, .int .i64 0] 43)).trans (hb.mono (balloc w3 (.cells #[.int .i64 0, .int .i64 0, .int .i64 0, .int .i64 0] 43)).size)
    have HB_4 : Hid (Below w.heap.size w w4) := HB_3.out.trans (hB.mono HB_3.out.size)
    have R_4 : Hid (X4 w4 w2.heap.size (.int .i64 0) (.int .i64 0) (.int .i64 0) (.int .i64 0)) := R_3.out.later hB
    have z4 : w3.heap.size + 1 ≤ w4.heap.size := by have h8 := hb.size; simp at h8; omega
    clear hb hB HB_3 R_3
    have hHB := HB_4.out.alloc HB_4.out.size (.cells #[.int .i64 b0, .int .i64 b1, .int .i64 b2, .int .i64 b3] 43)
    have hR := R_4.out.later (balloc w4 (.cells #[.int .i64 b0, .int .i64 b1, .int .i64 b2, .int .i64 b3] 43))
    have hX := x4_new w4 (.int .i64 b0) (.int .i64 b1) (.int .i64 b2) (.int .i64 b3) 43 w4.heap.size rfl
    have hz : (w4.alloc (.cells #[.int .i64 b0, .int .i64 b1, .int .i64 b2, .int .i64 b3] 43)).heap.size = w4.heap.size + 1 := by simp
    obtain ⟨w5, hV5⟩ : ∃ V, w4.alloc (.cells #[.int .i64 b0, .int .i64 b1, .int .i64 b2, .int .i64 b3] 43) = V := ⟨_, rfl⟩
    rw [hV5] at hHB hR hX hz
    have HB_5 : Hid (Below w.heap.size w w5) := hHB
    have R_5 : Hid (X4 w5 w2.heap.size (.int .i64 0) (.int .i64 0) (.int .i64 0) (.int .i64 0)) := hR
    have X_5 : Hid (X4 w5 w4.heap.size (.int .i64 b0) (.int .i64 b1) (.int .i64 b2) (.int .i64 b3)) := hX
    have z5 : w4.heap.size + 1 ≤ w5.heap.size := by omega
    clear HB_4 R_4 hHB hR hX hz
    obtain ⟨rb, hrb⟩ : ∃ z, rightB p2 (b0, b1, b2, b3) = z := ⟨_, rfl⟩
    obtain ⟨cb, hcb⟩ : ∃ z, checkB p2 (b0, b1, b2, b3) = z := ⟨_, rfl⟩
    have QI : Hid (∀ wx, Tab wx → Calls Tryd.prog 19 #[.int .i64 p2, .agg #[.int .i64 b0, .int .i64 b1, .int .i64 b2, .int .i64 b3]] wx fun e w' => e = .returned (.tuple #[.bool rb, .bool cb]) ∧ Below wx.heap.size wx w') := fun wx h => by have := implCheck_c p2 b0 b1 b2 b3 wx h; rw [hrb, hcb] at this; exact this
    have QS : Hid (∀ wx, Calls Tryd.prog 29 #[.int .i64 p2, .agg #[.int .i64 b0, .int .i64 b1, .int .i64 b2, .int .i64 b3]] wx fun e w' => e = .returned (.tuple #[.bool rb, .bool cb]) ∧ Below wx.heap.size wx w') := fun wx => by have := specCheck_c p2 b0 b1 b2 b3 wx; rw [hrb, hcb] at this; exact this
    have e1 : (rb == rb) = true := by simp
    have e2 : (cb == cb) = true := by simp
    clear hrb hcb
    obtain ⟨⟨Xq0, Xq1, Xq2, Xq3⟩, Xf⟩ := id (X_5.out)
    clear Xf
    go_wp2_with fail
    clear hV5
    refine (QI.out _ (HT0.out.keep HB_5.out)).mono ?_
    clear Xq0 Xq1 Xq2 Xq3
    rintro e w6 ⟨rfl, hb⟩
    have hB : Below w5.heap.size w5 w6 := hb
    have HB_6 : Hid (Below w.heap.size w w6) := HB_5.out.trans (hB.mono HB_5.out.size)
    have R_6 : Hid (X4 w6 w2.heap.size (.int .i64 0) (.int .i64 0) (.int .i64 0) (.int .i64 0)) := R_5.out.later hB
    have X_6 : Hid (X4 w6 w4.heap.size (.int .i64 b0) (.int .i64 b1) (.int .i64 b2) (.int .i64 b3)) := X_5.out.later hB
    have z6 : w5.heap.size ≤ w6.heap.size := hB.size
    clear hb hB HB_5 R_5 X_5 
    obtain ⟨⟨Xq0, Xq1, Xq2, Xq3⟩, Xf⟩ := id (X_6.out)
    clear Xf
    go_wp2_with fail
    refine (QS.out _).mono ?_
    clear Xq0 Xq1 Xq2 Xq3
    rintro e w7 ⟨rfl, hb⟩
    have hB : Below w6.heap.size w6 w7 := hb
    have HB_7 : Hid (Below w.heap.size w w7) := HB_6.out.trans (hB.mono HB_6.out.size)
    have R_7 : Hid (X4 w7 w2.heap.size (.int .i64 0) (.int .i64 0) (.int .i64 0) (.int .i64 0)) := R_6.out.later hB
    have X_7 : Hid (X4 w7 w4.heap.size (.int .i64 b0) (.int .i64 b1) (.int .i64 b2) (.int .i64 b3)) := X_6.out.later hB
    have z7 : w6.heap.size ≤ w7.heap.size := hB.size
    clear hb hB HB_6 R_6 X_6 
    go_wp2_with fail
    refine (drawProofFor_c bo m d _ hm (HM.out.later HB_7.out HB_7.out.size)).mono ?_
    rintro e w8 ⟨zs, l9, lo9, ha, nh, hc, ra, nr, rc, vl, va, vo, hand, lh, lr, rfl, hL1, hL2, hL3, hL4, hz6, hoh, hor, hb⟩
    have hB : Below w7.heap.size w7 w8 := hb
    have HB_8 : Hid (Below w.heap.size w w8) := HB_7.out.trans (hB.mono HB_7.out.size)
    have R_8 : Hid (X4 w8 w2.heap.size (.int .i64 0) (.int .i64 0) (.int .i64 0) (.int .i64 0)) := R_7.out.later hB
    have z8 : w7.heap.size ≤ w8.heap.size := hB.size
    have Th_8 : Hid (Rd w8 ha lh) := hoh.rd'.2
    have Tr_8 : Hid (RdR w8 ra lr) := hor.rd'.2
    clear hb hB HB_7 R_7 
    have hHB := HB_8.out.alloc HB_8.out.size (.cells #[.slice ha nh hc, .int .i64 vl, .int .i64 va, .slice ra nr rc, .int .i64 vo] 28)
    have hR := R_8.out.later (balloc w8 (.cells #[.slice ha nh hc, .int .i64 vl, .int .i64 va, .slice ra nr rc, .int .i64 vo] 28))
    have hTh := Th_8.out.later (balloc w8 (.cells #[.slice ha nh hc, .int .i64 vl, .int .i64 va, .slice ra nr rc, .int .i64 vo] 28))
    have hTr := Tr_8.out.later (balloc w8 (.cells #[.slice ha nh hc, .int .i64 vl, .int .i64 va, .slice ra nr rc, .int .i64 vo] 28))
    have hT := x5_new w8 (.slice ha nh hc) (.int .i64 vl) (.int .i64 va) (.slice ra nr rc) (.int .i64 vo) 28 w8.heap.size rfl
    have hz : (w8.alloc (.cells #[.slice ha nh hc, .int .i64 vl, .int .i64 va, .slice ra nr rc, .int .i64 vo] 28)).heap.size = w8.heap.size + 1 := by simp
    obtain ⟨w9, hV9⟩ : ∃ V, w8.alloc (.cells #[.slice ha nh hc, .int .i64 vl, .int .i64 va, .slice ra nr rc, .int .i64 vo] 28) = V := ⟨_, rfl⟩
    rw [hV9] at hHB hR hTh hTr hT hz
    have HB_9 : Hid (Below w.heap.size w w9) := hHB
    have R_9 : Hid (X4 w9 w2.heap.size (.int .i64 0) (.int .i64 0) (.int .i64 0) (.int .i64 0)) := hR
    have Th_9 : Hid (Rd w9 ha lh) := hTh
    have Tr_9 : Hid (RdR w9 ra lr) := hTr
    have T_9 : Hid (X5 w9 w8.heap.size (.slice ha nh hc) (.int .i64 vl) (.int .i64 va) (.slice ra nr rc) (.int .i64 vo)) := hT
    have z9 : w8.heap.size + 1 ≤ w9.heap.size := by omega
    clear HB_8 R_8 Th_8 Tr_8 hHB hR hTh hTr hT hz
    have hlen := trip_len zs l9 lo9
    have hhs := trip_hands zs l9 lo9
    rw [hL1, hL2, hL3, hL4] at hlen
    rw [hL1, hL3] at hhs
    obtain ⟨pl, hpl⟩ : ∃ z, proofL lh lr hand = z := ⟨_, rfl⟩
    obtain ⟨pq, hpq⟩ : ∃ z, pl.length = z := ⟨_, rfl⟩
    obtain ⟨pb, hpb⟩ : ∃ z, decide (hand ∈ lh) = z := ⟨_, rfl⟩
    have hpq8 : pq ≤ 1000 := by rw [← hpq, ← hpl]; unfold proofL; split; exact Nat.le_trans (gaveL_len _ _) (by rw [hL4]; omega); simp
    have HPQ : Hid (pl.length = pq) := hpq
    have PI : Hid (∀ wx, Rd wx ha lh → RdR wx ra lr → Calls Tryd.prog 18 #[.agg #[.slice ha nh hc, .int .i64 vl, .int .i64 va, .slice ra nr rc, .int .i64 vo], .int .i64 hand] wx fun e w' => ∃ a' c', e = .returned (.tuple #[.slice a' pq c', .bool pb]) ∧ OwnR w' wx.heap.size (.slice a' pq c') pl ∧ Below wx.heap.size wx w') := fun wx h1 h2 => by have := implProof_c ha ra nh nr hc rc vl va vo hand lh lr wx hL3 hL4 (by omega) (by omega) hhs h1 h2 pq (by rw [hpl]; exact hpq); rw [hpl, hpb] at this; exact this
    have PS : Hid (∀ wx, Rd wx ha lh → RdR wx ra lr → Calls Tryd.prog 31 #[.agg #[.slice ha nh hc, .int .i64 vl, .int .i64 va, .slice ra nr rc, .int .i64 vo], .int .i64 hand] wx fun e w' => ∃ a' c', e = .returned (.tuple #[.slice a' pq c', .bool pb]) ∧ OwnR w' wx.heap.size (.slice a' pq c') pl ∧ Below wx.heap.size wx w') := fun wx h1 h2 => by have := specProof_c ha ra nh nr hc rc vl va vo hand lh lr wx hL3 hL4 (by omega) (by omega) hhs h1 h2 pq (by rw [hpl]; exact hpq); rw [hpl, hpb] at this; exact this
    have e3 : (pb == pb) = true := by simp
    clear hL1 hL2 hL3 hL4 hz6 hoh hor hlen hhs hpl hpq hpb
    obtain ⟨⟨Tq0, Tq1, Tq2, Tq3, Tq4⟩, Tf⟩ := id (T_9.out)
    clear Tf
    go_wp2_with fail
    clear hV9
    refine (PI.out _ Th_9.out Tr_9.out).mono ?_
    clear Tq0 Tq1 Tq2 Tq3 Tq4
    rintro e w10 ⟨g1, gc1, rfl, ho, hb⟩
    have hB : Below w9.heap.size w9 w10 := hb
    have HB_10 : Hid (Below w.heap.size w w10) := HB_9.out.trans (hB.mono HB_9.out.size)
    have R_10 : Hid (X4 w10 w2.heap.size (.int .i64 0) (.int .i64 0) (.int .i64 0) (.int .i64 0)) := R_9.out.later hB
    have Th_10 : Hid (Rd w10 ha lh) := Th_9.out.later hB
    have Tr_10 : Hid (RdR w10 ra lr) := Tr_9.out.later hB
    have T_10 : Hid (X5 w10 w8.heap.size (.slice ha nh hc) (.int .i64 vl) (.int .i64 va) (.slice ra nr rc) (.int .i64 vo)) := T_9.out.later hB
    have z10 : w9.heap.size ≤ w10.heap.size := hB.size
    have G1_10 : Hid (RdR w10 g1 pl) := ho.rd'.2
    clear hb hB HB_9 R_9 Th_9 Tr_9 T_9 
    clear ho
    obtain ⟨⟨Tq0, Tq1, Tq2, Tq3, Tq4⟩, Tf⟩ := id (T_10.out)
    clear Tf
    go_wp2_with fail
    refine (PS.out _ Th_10.out Tr_10.out).mono ?_
    clear Tq0 Tq1 Tq2 Tq3 Tq4
    rintro e w11 ⟨g2, gc2, rfl, ho, hb⟩
    have hB : Below w10.heap.size w10 w11 := hb
    have HB_11 : Hid (Below w.heap.size w w11) := HB_10.out.trans (hB.mono HB_10.out.size)
    have R_11 : Hid (X4 w11 w2.heap.size (.int .i64 0) (.int .i64 0) (.int .i64 0) (.int .i64 0)) := R_10.out.later hB
    have Th_11 : Hid (Rd w11 ha lh) := Th_10.out.later hB
    have Tr_11 : Hid (RdR w11 ra lr) := Tr_10.out.later hB
    have T_11 : Hid (X5 w11 w8.heap.size (.slice ha nh hc) (.int .i64 vl) (.int .i64 va) (.slice ra nr rc) (.int .i64 vo)) := T_10.out.later hB
    have G1_11 : Hid (RdR w11 g1 pl) := G1_10.out.later hB
    have z11 : w10.heap.size ≤ w11.heap.size := hB.size
    have G2_11 : Hid (RdR w11 g2 pl) := ho.rd'.2
    clear hb hB HB_10 R_10 Th_10 Tr_10 T_10 G1_10 
    clear ho
    go_wp2_with fail
    refine (sameReceipts_b g1 g2 pq gc1 gc2 pl _ HPQ.out (by omega) G1_11.out G2_11.out).mono ?_
    rintro e w12 ⟨rfl, hb⟩
    have hB : Below w11.heap.size w11 w12 := hb
    have HB_12 : Hid (Below w.heap.size w w12) := HB_11.out.trans (hB.mono HB_11.out.size)
    have R_12 : Hid (X4 w12 w2.heap.size (.int .i64 0) (.int .i64 0) (.int .i64 0) (.int .i64 0)) := R_11.out.later hB
    have Th_12 : Hid (Rd w12 ha lh) := Th_11.out.later hB
    have Tr_12 : Hid (RdR w12 ra lr) := Tr_11.out.later hB
    have T_12 : Hid (X5 w12 w8.heap.size (.slice ha nh hc) (.int .i64 vl) (.int .i64 va) (.slice ra nr rc) (.int .i64 vo)) := T_11.out.later hB
    have G1_12 : Hid (RdR w12 g1 pl) := G1_11.out.later hB
    have G2_12 : Hid (RdR w12 g2 pl) := G2_11.out.later hB
    have z12 : w11.heap.size ≤ w12.heap.size := hB.size
    clear hb hB HB_11 R_11 Th_11 Tr_11 T_11 G1_11 G2_11 
    go_wp2
    go_ret
    exact ⟨rfl, HB_12.out⟩
  have qi := fun wx => implSign_c sc f t l wx (by omega) (by omega)
  have qs := fun wx => specSign_c sc f t l wx (by omega) (by omega)
  simp only [signV_yes hok, hok] at qi qs
  have hsp := signOk_parts hok
  obtain ⟨sg, hsg⟩ : ∃ z, signN sc f l = z := ⟨_, rfl⟩
  have hsb := signN_bd (s := sc) (f := f) (l := l)
  have hso := fun z hz => sign_other (s := sc) (f := f) (l := l) (z := z) (by omega) hz
  have hsc := sign_chk (s := sc) (f := f) (l := l) (by omega)
  have hsr := sign_rec (s := sc) (f := f) (l := l) hsp.2.1 (by unfold letB; simp; omega)
  unfold signR at hsc hsr
  rw [hsg] at qi qs hsb hso hsc hsr
  clear hsg
  have hrn := fun wx => run_neq_rc (f) (f + 1) (l) (sg) wx
  have HSO : Hid (∀ z, 0 ≤ z ∧ z < 1498 → chkR (pw 4 sc.toNat) (f, f + 1, l, (sg + 1 + z) % 1499) = false) := hso
  have HSC : Hid (chkR (pw 4 sc.toNat) (f, f + 1, l, sg) = true) := hsc
  have HSR : Hid (recB (f, f + 1, l, sg) = true) := hsr
  have hs14 : 1 ≤ sc ∧ sc ≤ 1498 := hsp.1
  have HSP : Hid ((-1 ≤ f ∧ f ≤ 4) ∧ t = f + 1 ∧ 0 ≤ l ∧ l ≤ 1000) := hsp.2
  clear hso hsc hsr hsp
  clear hok
  go_wp2_with fail
  refine (qi _).mono ?_
  rintro e w2 ⟨rfl, hb⟩
  have hB : Below w1.heap.size w1 w2 := hb
  have HB_2 : Hid (Below w.heap.size w w2) := HB_1.out.trans (hB.mono HB_1.out.size)
  have z2 : w1.heap.size ≤ w2.heap.size := hB.size
  clear hb hB HB_1 
  have hHB := HB_2.out.alloc HB_2.out.size (.cells #[.int .i64 f, .int .i64 (f + 1), .int .i64 l, .int .i64 sg] 43)
  have hR := x4_new w2 (.int .i64 f) (.int .i64 (f + 1)) (.int .i64 l) (.int .i64 sg) 43 w2.heap.size rfl
  have hz : (w2.alloc (.cells #[.int .i64 f, .int .i64 (f + 1), .int .i64 l, .int .i64 sg] 43)).heap.size = w2.heap.size + 1 := by simp
  obtain ⟨w3, hV3⟩ : ∃ V, w2.alloc (.cells #[.int .i64 f, .int .i64 (f + 1), .int .i64 l, .int .i64 sg] 43) = V := ⟨_, rfl⟩
  rw [hV3] at hHB hR hz
  have HB_3 : Hid (Below w.heap.size w w3) := hHB
  have R_3 : Hid (X4 w3 w2.heap.size (.int .i64 f) (.int .i64 (f + 1)) (.int .i64 l) (.int .i64 sg)) := hR
  have z3 : w2.heap.size + 1 ≤ w3.heap.size := by omega
  clear HB_2 hHB hR hz
  go_wp2_with fail
  clear hV3
  refine (qs _).mono ?_
  rintro e w4 ⟨rfl, hb⟩
  have hB : Below w3.heap.size w3 w4 := hb
  have HB_4 : Hid (Below w.heap.size w w4) := HB_3.out.trans (hB.mono HB_3.out.size)
  have R_4 : Hid (X4 w4 w2.heap.size (.int .i64 f) (.int .i64 (f + 1)) (.int .i64 l) (.int .i64 sg)) := R_3.out.later hB
  have z4 : w3.heap.size ≤ w4.heap.size := hB.size
  clear hb hB HB_3 R_3 
  have hHB := HB_4.out.alloc HB_4.out.size (.cells #[.int .i64 f, .int .i64 (f + 1), .int .i64 l, .int .i64 sg] 43)
  have hR := R_4.out.later (balloc w4 (.cells #[.int .i64 f, .int .i64 (f + 1), .int .i64 l, .int .i64 sg] 43))
  have hW := x4_new w4 (.int .i64 f) (.int .i64 (f + 1)) (.int .i64 l) (.int .i64 sg) 43 w4.heap.size rfl
  have hz : (w4.alloc (.cells #[.int .i64 f, .int .i64 (f + 1), .int .i64 l, .int .i64 sg] 43)).heap.size = w4.heap.size + 1 := by simp
  obtain ⟨w5, hV5⟩ : ∃ V, w4.alloc (.cells #[.int .i64 f, .int .i64 (f + 1), .int .i64 l, .int .i64 sg] 43) = V := ⟨_, rfl⟩
  rw [hV5] at hHB hR hW hz
  have HB_5 : Hid (Below w.heap.size w w5) := hHB
  have R_5 : Hid (X4 w5 w2.heap.size (.int .i64 f) (.int .i64 (f + 1)) (.int .i64 l) (.int .i64 sg)) := hR
  have W_5 : Hid (X4 w5 w4.heap.size (.int .i64 f) (.int .i64 (f + 1)) (.int .i64 l) (.int .i64 sg)) := hW
  have z5 : w4.heap.size + 1 ≤ w5.heap.size := by omega
  clear HB_4 R_4 hHB hR hW hz
  clear qi qs
  obtain ⟨⟨Rq0, Rq1, Rq2, Rq3⟩, Rf⟩ := id (R_5.out)
  clear Rf
  obtain ⟨⟨Wq0, Wq1, Wq2, Wq3⟩, Wf⟩ := id (W_5.out)
  clear Wf
  have qp := fun wx h => implPublic_c sc wx h
  have hsB : secB sc = true := by unfold secB; simp; omega
  simp only [hsB, if_true] at qp
  have hmp : memB (pw 4 sc.toNat) = true := mem_pw4 _
  obtain ⟨p, hp⟩ : ∃ z, pw 4 sc.toNat = z := ⟨_, rfl⟩
  rw [hp] at qp hmp HSO HSC
  have HQP : Hid (∀ wx, Tab wx → Calls Tryd.prog 26 #[.int .i64 sc] wx fun e w' => e = .returned (.tuple #[.int .i64 p, .bool true]) ∧ w' = wx) := qp
  have HMP : Hid (memB p = true) := hmp
  clear qp hsB hp hmp
  have HC1 : Hid (∀ wx, Tab wx → Calls Tryd.prog 19 #[.int .i64 p, .agg #[.int .i64 f, .int .i64 (f + 1), .int .i64 l, .int .i64 sg]] wx fun e w' => e = .returned (.tuple #[.bool true, .bool true]) ∧ Below wx.heap.size wx w') := fun wx h => by have := implCheck_c p f (f + 1) l sg wx h; unfold rightB checkB at this; rw [HMP.out, HSR.out, HSC.out] at this; exact this
  go_wp2_with fail
  clear hV5
  refine (HQP.out _ (HT0.out.keep HB_5.out)).mono ?_
  rintro e w' ⟨rfl, hw⟩
  subst w'
  clear Rq0 Rq1 Rq2 Rq3
  clear Wq0 Wq1 Wq2 Wq3
  obtain ⟨⟨Rq0, Rq1, Rq2, Rq3⟩, Rf⟩ := id (R_5.out)
  clear Rf
  go_wp2_with fail
  refine (HC1.out _ (HT0.out.keep HB_5.out)).mono ?_
  clear Rq0 Rq1 Rq2 Rq3
  rintro e w6 ⟨rfl, hb⟩
  have hB : Below w5.heap.size w5 w6 := hb
  have HB_6 : Hid (Below w.heap.size w w6) := HB_5.out.trans (hB.mono HB_5.out.size)
  have R_6 : Hid (X4 w6 w2.heap.size (.int .i64 f) (.int .i64 (f + 1)) (.int .i64 l) (.int .i64 sg)) := R_5.out.later hB
  have W_6 : Hid (X4 w6 w4.heap.size (.int .i64 f) (.int .i64 (f + 1)) (.int .i64 l) (.int .i64 sg)) := W_5.out.later hB
  have z6 : w5.heap.size ≤ w6.heap.size := hB.size
  clear hb hB HB_5 R_5 W_5 
  obtain ⟨⟨Rq0, Rq1, Rq2, Rq3⟩, Rf⟩ := id (R_6.out)
  clear Rf
  go_wp2
  obtain ⟨_, rff⟩ := id (R_6.out)
  have rf3 := rff 3
  clear rff
  go_region_with (go_at_call 27; refine (numberOf_c bo m d _ hm (by first | exact HM.out.later (HB_6.out) (HB_6.out).size | exact HM.out.later (HB_6.out).drew (HB_6.out).drew.size)).mono ?_; rintro e wz ⟨z, rfl, hz0, hz1, hw⟩; subst wz)
  all_goals (
    clear Rq0 Rq1 Rq2 Rq3
    rw [show (IntKind.i64.wrap (IntKind.i64.wrap (sg + 1) + z.tmod 1498)).tmod 1499 = (sg + 1 + z % 1498) % 1499 from by rw [Int.tmod_eq_emod_of_nonneg hz0, IntKind.wrap_i64, IntKind.wrap_i64]; have h9 : z % 1498 < 1498 := Int.emod_lt_of_pos _ (by omega); have h8 : 0 ≤ z % 1498 := Int.emod_nonneg _ (by omega); rw [Int.tmod_eq_emod_of_nonneg (by omega)]; congr 1; omega]
    have hz9 : 0 ≤ z % 1498 ∧ z % 1498 < 1498 := ⟨Int.emod_nonneg _ (by omega), Int.emod_lt_of_pos _ (by omega)⟩
    have hs2 := HSO.out _ hz9
    obtain ⟨s2, hs2e⟩ : ∃ y, (sg + 1 + z % 1498) % 1499 = y := ⟨_, rfl⟩
    have hs2b : 0 ≤ s2 ∧ s2 < 1499 := by rw [← hs2e]; exact ⟨Int.emod_nonneg _ (by omega), Int.emod_lt_of_pos _ (by omega)⟩
    rw [hs2e] at hs2 ⊢
    clear hs2e hz9
    have hr2 : recB (f, f + 1, l, s2) = true := by have := HSP.out; simp [recB, letB]; omega
    have HC2 : Hid (∀ wx, Tab wx → Calls Tryd.prog 19 #[.int .i64 p, .agg #[.int .i64 f, .int .i64 (f + 1), .int .i64 l, .int .i64 s2]] wx fun e w' => e = .returned (.tuple #[.bool false, .bool true]) ∧ Below wx.heap.size wx w') := fun wx h => by have := implCheck_c p f (f + 1) l s2 wx h; unfold rightB checkB at this; rw [HMP.out, hr2, hs2] at this; exact this
    clear hs2 hr2
    have hHB : Below w.heap.size w (w6.setCell ⟨w2.heap.size, 3, none⟩ (.int .i64 s2)).drew := (HB_6.out.setCell (by show w.heap.size ≤ w2.heap.size; have := HB_6.out.size; omega) _).drew
    have hR : X4 (w6.setCell ⟨w2.heap.size, 3, none⟩ (.int .i64 s2)).drew (w2.heap.size) (.int .i64 f) (.int .i64 (f + 1)) (.int .i64 l) (.int .i64 s2) := (R_6.out.set3 (.int .i64 s2)).later (Below.refl _ _).drew
    have hz : w6.heap.size ≤ (w6.setCell ⟨w2.heap.size, 3, none⟩ (.int .i64 s2)).drew.heap.size := (grown_setCell w6 (w2.heap.size) 3 (.int .i64 s2)).size
    obtain ⟨w7, hV7⟩ : ∃ V, (w6.setCell ⟨w2.heap.size, 3, none⟩ (.int .i64 s2)).drew = V := ⟨_, rfl⟩
    rw [hV7] at hHB hR hz ⊢
    have HB_7 : Hid (Below w.heap.size w w7) := hHB
    have R_7 : Hid (X4 w7 (w2.heap.size) (.int .i64 f) (.int .i64 (f + 1)) (.int .i64 l) (.int .i64 s2)) := hR
    have z7 : w6.heap.size ≤ w7.heap.size := hz
    clear hHB hR hz hV7 rf3 HB_6 R_6 W_6
    obtain ⟨⟨Rq0, Rq1, Rq2, Rq3⟩, Rf⟩ := id (R_7.out)
    clear Rf
    go_wp2_with fail
    refine (HC2.out _ (HT0.out.keep HB_7.out)).mono ?_
    clear Rq0 Rq1 Rq2 Rq3
    rintro e w8 ⟨rfl, hb⟩
    have hB : Below w7.heap.size w7 w8 := hb
    have HB_8 : Hid (Below w.heap.size w w8) := HB_7.out.trans (hB.mono HB_7.out.size)
    have R_8 : Hid (X4 w8 (w2.heap.size) (.int .i64 f) (.int .i64 (f + 1)) (.int .i64 l) (.int .i64 s2)) := R_7.out.later hB
    have z8 : w7.heap.size ≤ w8.heap.size := hB.size
    clear hb hB HB_7 R_7 
    go_wp2_with fail
    refine (drawCheckR_c bo m d _ hm (HM.out.later HB_8.out HB_8.out.size)).mono ?_
    rintro e w9 ⟨p2, b0, b1, b2, b3, rfl, hb⟩
    have hB : Below w8.heap.size w8 w9 := hb
    have HB_9 : Hid (Below w.heap.size w w9) := HB_8.out.trans (hB.mono HB_8.out.size)
    have z9 : w8.heap.size ≤ w9.heap.size := hB.size
    clear hb hB HB_8 
    have hHB := HB_9.out.alloc HB_9.out.size (.cells #[.int .i64 b0, .int .i64 b1, .int .i64 b2, .int .i64 b3] 43)
    have hX := x4_new w9 (.int .i64 b0) (.int .i64 b1) (.int .i64 b2) (.int .i64 b3) 43 w9.heap.size rfl
    have hz : (w9.alloc (.cells #[.int .i64 b0, .int .i64 b1, .int .i64 b2, .int .i64 b3] 43)).heap.size = w9.heap.size + 1 := by simp
    obtain ⟨w10, hV10⟩ : ∃ V, w9.alloc (.cells #[.int .i64 b0, .int .i64 b1, .int .i64 b2, .int .i64 b3] 43) = V := ⟨_, rfl⟩
    rw [hV10] at hHB hX hz
    have HB_10 : Hid (Below w.heap.size w w10) := hHB
    have X_10 : Hid (X4 w10 w9.heap.size (.int .i64 b0) (.int .i64 b1) (.int .i64 b2) (.int .i64 b3)) := hX
    have z10 : w9.heap.size + 1 ≤ w10.heap.size := by omega
    clear HB_9 hHB hX hz
    obtain ⟨rb, hrb⟩ : ∃ z, rightB p2 (b0, b1, b2, b3) = z := ⟨_, rfl⟩
    obtain ⟨cb, hcb⟩ : ∃ z, checkB p2 (b0, b1, b2, b3) = z := ⟨_, rfl⟩
    have QI : Hid (∀ wx, Tab wx → Calls Tryd.prog 19 #[.int .i64 p2, .agg #[.int .i64 b0, .int .i64 b1, .int .i64 b2, .int .i64 b3]] wx fun e w' => e = .returned (.tuple #[.bool rb, .bool cb]) ∧ Below wx.heap.size wx w') := fun wx h => by have := implCheck_c p2 b0 b1 b2 b3 wx h; rw [hrb, hcb] at this; exact this
    have QS : Hid (∀ wx, Calls Tryd.prog 29 #[.int .i64 p2, .agg #[.int .i64 b0, .int .i64 b1, .int .i64 b2, .int .i64 b3]] wx fun e w' => e = .returned (.tuple #[.bool rb, .bool cb]) ∧ Below wx.heap.size wx w') := fun wx => by have := specCheck_c p2 b0 b1 b2 b3 wx; rw [hrb, hcb] at this; exact this
    have e1 : (rb == rb) = true := by simp
    have e2 : (cb == cb) = true := by simp
    clear hrb hcb
    obtain ⟨⟨Xq0, Xq1, Xq2, Xq3⟩, Xf⟩ := id (X_10.out)
    clear Xf
    go_wp2_with fail
    clear hV10
    refine (QI.out _ (HT0.out.keep HB_10.out)).mono ?_
    clear Xq0 Xq1 Xq2 Xq3
    rintro e w11 ⟨rfl, hb⟩
    have hB : Below w10.heap.size w10 w11 := hb
    have HB_11 : Hid (Below w.heap.size w w11) := HB_10.out.trans (hB.mono HB_10.out.size)
    have X_11 : Hid (X4 w11 w9.heap.size (.int .i64 b0) (.int .i64 b1) (.int .i64 b2) (.int .i64 b3)) := X_10.out.later hB
    have z11 : w10.heap.size ≤ w11.heap.size := hB.size
    clear hb hB HB_10 X_10 
    obtain ⟨⟨Xq0, Xq1, Xq2, Xq3⟩, Xf⟩ := id (X_11.out)
    clear Xf
    go_wp2_with fail
    refine (QS.out _).mono ?_
    clear Xq0 Xq1 Xq2 Xq3
    rintro e w12 ⟨rfl, hb⟩
    have hB : Below w11.heap.size w11 w12 := hb
    have HB_12 : Hid (Below w.heap.size w w12) := HB_11.out.trans (hB.mono HB_11.out.size)
    have X_12 : Hid (X4 w12 w9.heap.size (.int .i64 b0) (.int .i64 b1) (.int .i64 b2) (.int .i64 b3)) := X_11.out.later hB
    have z12 : w11.heap.size ≤ w12.heap.size := hB.size
    clear hb hB HB_11 X_11 
    go_wp2_with fail
    refine (drawProofFor_c bo m d _ hm (HM.out.later HB_12.out HB_12.out.size)).mono ?_
    rintro e w13 ⟨zs, l9, lo9, ha, nh, hc, ra, nr, rc, vl, va, vo, hand, lh, lr, rfl, hL1, hL2, hL3, hL4, hz6, hoh, hor, hb⟩
    have hB : Below w12.heap.size w12 w13 := hb
    have HB_13 : Hid (Below w.heap.size w w13) := HB_12.out.trans (hB.mono HB_12.out.size)
    have z13 : w12.heap.size ≤ w13.heap.size := hB.size
    have Th_13 : Hid (Rd w13 ha lh) := hoh.rd'.2
    have Tr_13 : Hid (RdR w13 ra lr) := hor.rd'.2
    clear hb hB HB_12 
    have hHB := HB_13.out.alloc HB_13.out.size (.cells #[.slice ha nh hc, .int .i64 vl, .int .i64 va, .slice ra nr rc, .int .i64 vo] 28)
    have hTh := Th_13.out.later (balloc w13 (.cells #[.slice ha nh hc, .int .i64 vl, .int .i64 va, .slice ra nr rc, .int .i64 vo] 28))
    have hTr := Tr_13.out.later (balloc w13 (.cells #[.slice ha nh hc, .int .i64 vl, .int .i64 va, .slice ra nr rc, .int .i64 vo] 28))
    have hT := x5_new w13 (.slice ha nh hc) (.int .i64 vl) (.int .i64 va) (.slice ra nr rc) (.int .i64 vo) 28 w13.heap.size rfl
    have hz : (w13.alloc (.cells #[.slice ha nh hc, .int .i64 vl, .int .i64 va, .slice ra nr rc, .int .i64 vo] 28)).heap.size = w13.heap.size + 1 := by simp
    obtain ⟨w14, hV14⟩ : ∃ V, w13.alloc (.cells #[.slice ha nh hc, .int .i64 vl, .int .i64 va, .slice ra nr rc, .int .i64 vo] 28) = V := ⟨_, rfl⟩
    rw [hV14] at hHB hTh hTr hT hz
    have HB_14 : Hid (Below w.heap.size w w14) := hHB
    have Th_14 : Hid (Rd w14 ha lh) := hTh
    have Tr_14 : Hid (RdR w14 ra lr) := hTr
    have T_14 : Hid (X5 w14 w13.heap.size (.slice ha nh hc) (.int .i64 vl) (.int .i64 va) (.slice ra nr rc) (.int .i64 vo)) := hT
    have z14 : w13.heap.size + 1 ≤ w14.heap.size := by omega
    clear HB_13 Th_13 Tr_13 hHB hTh hTr hT hz
    have hlen := trip_len zs l9 lo9
    have hhs := trip_hands zs l9 lo9
    rw [hL1, hL2, hL3, hL4] at hlen
    rw [hL1, hL3] at hhs
    obtain ⟨pl, hpl⟩ : ∃ z, proofL lh lr hand = z := ⟨_, rfl⟩
    obtain ⟨pq, hpq⟩ : ∃ z, pl.length = z := ⟨_, rfl⟩
    obtain ⟨pb, hpb⟩ : ∃ z, decide (hand ∈ lh) = z := ⟨_, rfl⟩
    have hpq8 : pq ≤ 1000 := by rw [← hpq, ← hpl]; unfold proofL; split; exact Nat.le_trans (gaveL_len _ _) (by rw [hL4]; omega); simp
    have HPQ : Hid (pl.length = pq) := hpq
    have PI : Hid (∀ wx, Rd wx ha lh → RdR wx ra lr → Calls Tryd.prog 18 #[.agg #[.slice ha nh hc, .int .i64 vl, .int .i64 va, .slice ra nr rc, .int .i64 vo], .int .i64 hand] wx fun e w' => ∃ a' c', e = .returned (.tuple #[.slice a' pq c', .bool pb]) ∧ OwnR w' wx.heap.size (.slice a' pq c') pl ∧ Below wx.heap.size wx w') := fun wx h1 h2 => by have := implProof_c ha ra nh nr hc rc vl va vo hand lh lr wx hL3 hL4 (by omega) (by omega) hhs h1 h2 pq (by rw [hpl]; exact hpq); rw [hpl, hpb] at this; exact this
    have PS : Hid (∀ wx, Rd wx ha lh → RdR wx ra lr → Calls Tryd.prog 31 #[.agg #[.slice ha nh hc, .int .i64 vl, .int .i64 va, .slice ra nr rc, .int .i64 vo], .int .i64 hand] wx fun e w' => ∃ a' c', e = .returned (.tuple #[.slice a' pq c', .bool pb]) ∧ OwnR w' wx.heap.size (.slice a' pq c') pl ∧ Below wx.heap.size wx w') := fun wx h1 h2 => by have := specProof_c ha ra nh nr hc rc vl va vo hand lh lr wx hL3 hL4 (by omega) (by omega) hhs h1 h2 pq (by rw [hpl]; exact hpq); rw [hpl, hpb] at this; exact this
    have e3 : (pb == pb) = true := by simp
    clear hL1 hL2 hL3 hL4 hz6 hoh hor hlen hhs hpl hpq hpb
    obtain ⟨⟨Tq0, Tq1, Tq2, Tq3, Tq4⟩, Tf⟩ := id (T_14.out)
    clear Tf
    go_wp2_with fail
    clear hV14
    refine (PI.out _ Th_14.out Tr_14.out).mono ?_
    clear Tq0 Tq1 Tq2 Tq3 Tq4
    rintro e w15 ⟨g1, gc1, rfl, ho, hb⟩
    have hB : Below w14.heap.size w14 w15 := hb
    have HB_15 : Hid (Below w.heap.size w w15) := HB_14.out.trans (hB.mono HB_14.out.size)
    have Th_15 : Hid (Rd w15 ha lh) := Th_14.out.later hB
    have Tr_15 : Hid (RdR w15 ra lr) := Tr_14.out.later hB
    have T_15 : Hid (X5 w15 w13.heap.size (.slice ha nh hc) (.int .i64 vl) (.int .i64 va) (.slice ra nr rc) (.int .i64 vo)) := T_14.out.later hB
    have z15 : w14.heap.size ≤ w15.heap.size := hB.size
    have G1_15 : Hid (RdR w15 g1 pl) := ho.rd'.2
    clear hb hB HB_14 Th_14 Tr_14 T_14 
    clear ho
    obtain ⟨⟨Tq0, Tq1, Tq2, Tq3, Tq4⟩, Tf⟩ := id (T_15.out)
    clear Tf
    go_wp2_with fail
    refine (PS.out _ Th_15.out Tr_15.out).mono ?_
    clear Tq0 Tq1 Tq2 Tq3 Tq4
    rintro e w16 ⟨g2, gc2, rfl, ho, hb⟩
    have hB : Below w15.heap.size w15 w16 := hb
    have HB_16 : Hid (Below w.heap.size w w16) := HB_15.out.trans (hB.mono HB_15.out.size)
    have Th_16 : Hid (Rd w16 ha lh) := Th_15.out.later hB
    have Tr_16 : Hid (RdR w16 ra lr) := Tr_15.out.later hB
    have T_16 : Hid (X5 w16 w13.heap.size (.slice ha nh hc) (.int .i64 vl) (.int .i64 va) (.slice ra nr rc) (.int .i64 vo)) := T_15.out.later hB
    have G1_16 : Hid (RdR w16 g1 pl) := G1_15.out.later hB
    have z16 : w15.heap.size ≤ w16.heap.size := hB.size
    have G2_16 : Hid (RdR w16 g2 pl) := ho.rd'.2
    clear hb hB HB_15 Th_15 Tr_15 T_15 G1_15 
    clear ho
    go_wp2_with fail
    refine (sameReceipts_b g1 g2 pq gc1 gc2 pl _ HPQ.out (by omega) G1_16.out G2_16.out).mono ?_
    rintro e w17 ⟨rfl, hb⟩
    have hB : Below w16.heap.size w16 w17 := hb
    have HB_17 : Hid (Below w.heap.size w w17) := HB_16.out.trans (hB.mono HB_16.out.size)
    have Th_17 : Hid (Rd w17 ha lh) := Th_16.out.later hB
    have Tr_17 : Hid (RdR w17 ra lr) := Tr_16.out.later hB
    have T_17 : Hid (X5 w17 w13.heap.size (.slice ha nh hc) (.int .i64 vl) (.int .i64 va) (.slice ra nr rc) (.int .i64 vo)) := T_16.out.later hB
    have G1_17 : Hid (RdR w17 g1 pl) := G1_16.out.later hB
    have G2_17 : Hid (RdR w17 g2 pl) := G2_16.out.later hB
    have z17 : w16.heap.size ≤ w17.heap.size := hB.size
    clear hb hB HB_16 Th_16 Tr_16 T_16 G1_16 G2_16 
    go_wp2
    go_ret
    exact ⟨rfl, HB_17.out⟩)

end Go.Proofs.YtdhnolafkgkliaaDoor
