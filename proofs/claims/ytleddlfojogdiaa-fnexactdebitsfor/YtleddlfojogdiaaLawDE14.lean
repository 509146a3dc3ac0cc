/- The law on DebitsFor, walked: it answers true at every argument and turns nothing that was there. -/
import Derived.Test.YtleddlfojogdiaaDE14
import Derived.Test.YtleddlfojogdiaaWM12
namespace Go.Proofs.Ytleddlfojogdiaa
set_option linter.unusedVariables false
set_option maxRecDepth 1000000
set_option linter.unusedSimpArgs false
open Go.RowKit

set_option maxHeartbeats 16000000 in
theorem lawDebits_c (f : Int) (ao : Option Addr) (n c : Nat) (xs : List St) (h : Int) (w : World) (hx : xs.length = n) (hn0 : n ≤ 9223372036854775807) (hr : RdS w ao xs) :
    Calls Try.prog 9 #[.int .i64 f, .slice ao n c, .int .i64 h] w fun e w' => e = .returned (.bool true) ∧ Below w.heap.size w w' := by
  obtain ⟨l, hl⟩ : ∃ l, debV f xs h = l := ⟨_, rfl⟩
  obtain ⟨fb, hF⟩ : ∃ fb, debOk f xs h = fb := ⟨_, rfl⟩
  obtain ⟨q, hq⟩ : ∃ q, l.length = q := ⟨_, rfl⟩
  have hq60 : q ≤ 60 := by rw [← hq, ← hl]; exact debV_length f xs h
  have HQS : Hid (∀ p' k' wx, n ≤ 1048576 → RdS wx p' xs → Calls Try.prog 41 #[.int .i64 f, .slice p' n k', .int .i64 h] wx fun e w' => ∃ a' c', e = .returned (.tuple #[.slice a' q c', .bool fb]) ∧ OwnC w' wx.heap.size (.slice a' q c') l ∧ Below wx.heap.size wx w') := fun p' k' wx h2 h1 => by have := specDebits_c f p' n k' xs h wx hx (by omega) h1 q (by rw [hl]; exact hq); rw [hl, hF] at this; exact this
  have HQI : Hid (∀ p' k' wx, n ≤ 1048576 → RdS wx p' xs → Calls Try.prog 43 #[.int .i64 f, .slice p' n k', .int .i64 h] wx fun e w' => ∃ a' c', e = .returned (.tuple #[.slice a' q c', .bool fb]) ∧ OwnC w' wx.heap.size (.slice a' q c') l ∧ Below wx.heap.size wx w') := fun p' k' wx h2 h1 => by have := implDebits_c f p' n k' xs h wx hx (by omega) h1 q (by rw [hl]; exact hq); rw [hl, hF] at this; exact this
  have HL : Hid (l.length = q) := hq
  have HX : Hid (xs.length = n) := hx
  have HR0 : Hid (RdS w ao xs) := hr
  have hfb : (fb != fb) = false := by simp
  obtain ⟨M, hM⟩ : ∃ M : Int, ((1 + 3 * q : Nat) : Int) = M := ⟨_, rfl⟩
  have HM : Hid (((1 + 3 * q : Nat) : Int) = M) := hM
  obtain ⟨Mo, hMo⟩ : ∃ Mo : Int, ((1 + 5 * n : Nat) : Int) = Mo := ⟨_, rfl⟩
  have HMo : Hid (((1 + 5 * n : Nat) : Int) = Mo) := hMo
  have hmm : (M != M) = false := by simp
  have hmn : ¬ M < 0 := by omega
  have hmo : ¬ Mo < 0 := by omega
  clear hF hq hx hl hMo hM
  have HB_0 : Hid (Below w.heap.size w w) := Below.refl _ _
  have RP_0 : Hid (RdS w ao xs) := hr
  clear hr
  go_enter Try.func9, Try.ntmps9
  go_wp2_with fail
  refine (szStatementS_c ao n c 1048576 _ hn0 (by omega)).mono ?_
  rintro e w' ⟨r, rfl, hw, hr1, hr2⟩
  subst w'
  by_cases hr0 : r < 0
  · go_wp2
    go_ret
    exact ⟨rfl, HB_0.out⟩
  have hn : n ≤ 1048576 := (hr2 (by omega)).1
  have hhn_r : ¬ r < 0 := hr0
  clear hr1 hr2 hr0
  go_wp2_with fail
  refine (toStatementS_c ao n c xs _ HX.out hn RP_0.out).mono ?_
  rintro e w1 ⟨p1, k1, rfl, ho, hb⟩
  have hB : Below w.heap.size w w1 := hb
  have HB_1 : Hid (Below w.heap.size w w1) := HB_0.out.trans (hB.mono HB_0.out.size)
  have RP_1 : Hid (RdS w1 ao xs) := RP_0.out.later hB
  have z1 : w.heap.size ≤ w1.heap.size := hB.size
  have P1_1 : Hid (OwnS w1 w.heap.size (Value.slice p1 n k1) (xs)) := ho
  have I_P1 : Hid (∀ k, (Value.slice p1 n k1).ownBlock = some k → w.heap.size ≤ k ∧ k < w1.heap.size) := World.ownsRow.lt P1_1.out
  clear hb hB HB_0 RP_0 ho
  go_wp2_with fail
  refine (HQS.out p1 k1 _ hn P1_1.out.rd'.2).mono ?_
  rintro e w2 ⟨a1, c1, rfl, ho, hb⟩
  have hB : Below w1.heap.size w1 w2 := hb
  have HB_2 : Hid (Below w.heap.size w w2) := HB_1.out.trans (hB.mono HB_1.out.size)
  have RP_2 : Hid (RdS w2 ao xs) := RP_1.out.later hB
  have z2 : w1.heap.size ≤ w2.heap.size := hB.size
  have W1_2 : Hid (OwnC w2 w1.heap.size (Value.slice a1 q c1) (l)) := ho
  have I_W1 : Hid (∀ k, (Value.slice a1 q c1).ownBlock = some k → w1.heap.size ≤ k ∧ k < w2.heap.size) := World.ownsRow.lt W1_2.out
  clear hb hB HB_1 RP_1 P1_1 ho
  go_wp2_with fail
  refine (toStatementS_c ao n c xs _ HX.out hn RP_2.out).mono ?_
  rintro e w3 ⟨p2, k2, rfl, ho, hb⟩
  have hB : Below w2.heap.size w2 w3 := hb
  have HB_3 : Hid (Below w.heap.size w w3) := HB_2.out.trans (hB.mono HB_2.out.size)
  have RP_3 : Hid (RdS w3 ao xs) := RP_2.out.later hB
  have W1_3 : Hid (OwnC w3 w1.heap.size (Value.slice a1 q c1) (l)) := W1_2.out.later hB
  have z3 : w2.heap.size ≤ w3.heap.size := hB.size
  have P2_3 : Hid (OwnS w3 w2.heap.size (Value.slice p2 n k2) (xs)) := ho
  have I_P2 : Hid (∀ k, (Value.slice p2 n k2).ownBlock = some k → w2.heap.size ≤ k ∧ k < w3.heap.size) := World.ownsRow.lt P2_3.out
  clear hb hB HB_2 RP_2 W1_2 ho
  go_wp2_with fail
  refine (HQI.out p2 k2 _ hn P2_3.out.rd'.2).mono ?_
  rintro e w4 ⟨a2, c2, rfl, ho, hb⟩
  have hB : Below w3.heap.size w3 w4 := hb
  have HB_4 : Hid (Below w.heap.size w w4) := HB_3.out.trans (hB.mono HB_3.out.size)
  have RP_4 : Hid (RdS w4 ao xs) := RP_3.out.later hB
  have W1_4 : Hid (OwnC w4 w1.heap.size (Value.slice a1 q c1) (l)) := W1_3.out.later hB
  have P2_4 : Hid (OwnS w4 w2.heap.size (Value.slice p2 n k2) (xs)) := P2_3.out.later hB
  have z4 : w3.heap.size ≤ w4.heap.size := hB.size
  have G2_4 : Hid (OwnC w4 w3.heap.size (Value.slice a2 q c2) (l)) := ho
  have I_G2 : Hid (∀ k, (Value.slice a2 q c2).ownBlock = some k → w3.heap.size ≤ k ∧ k < w4.heap.size) := World.ownsRow.lt G2_4.out
  clear hb hB HB_3 RP_3 W1_3 P2_3 ho
  go_wp2_with fail
  refine (eqClaimS_c a2 a1 q q c2 c1 l l _ HL.out HL.out (by omega) (by omega) G2_4.out.rd'.2 W1_4.out.rd'.2).mono ?_
  rw [decide_eq_true rfl]
  rintro e w5 ⟨rfl, hb⟩
  have hB : Below w4.heap.size w4 w5 := hb
  have HB_5 : Hid (Below w.heap.size w w5) := HB_4.out.trans (hB.mono HB_4.out.size)
  have RP_5 : Hid (RdS w5 ao xs) := RP_4.out.later hB
  have W1_5 : Hid (OwnC w5 w1.heap.size (Value.slice a1 q c1) (l)) := W1_4.out.later hB
  have P2_5 : Hid (OwnS w5 w2.heap.size (Value.slice p2 n k2) (xs)) := P2_4.out.later hB
  have G2_5 : Hid (OwnC w5 w3.heap.size (Value.slice a2 q c2) (l)) := G2_4.out.later hB
  have z5 : w4.heap.size ≤ w5.heap.size := hB.size
  clear hb hB HB_4 RP_4 W1_4 P2_4 G2_4 
  go_wp2_with fail
  refine (toStatementS_c ao n c xs _ HX.out hn RP_5.out).mono ?_
  rintro e w6 ⟨p3, k3, rfl, ho, hb⟩
  have hB : Below w5.heap.size w5 w6 := hb
  have HB_6 : Hid (Below w.heap.size w w6) := HB_5.out.trans (hB.mono HB_5.out.size)
  have RP_6 : Hid (RdS w6 ao xs) := RP_5.out.later hB
  have W1_6 : Hid (OwnC w6 w1.heap.size (Value.slice a1 q c1) (l)) := W1_5.out.later hB
  have P2_6 : Hid (OwnS w6 w2.heap.size (Value.slice p2 n k2) (xs)) := P2_5.out.later hB
  have G2_6 : Hid (OwnC w6 w3.heap.size (Value.slice a2 q c2) (l)) := G2_5.out.later hB
  have z6 : w5.heap.size ≤ w6.heap.size := hB.size
  have P3_6 : Hid (OwnS w6 w5.heap.size (Value.slice p3 n k3) (xs)) := ho
  have I_P3 : Hid (∀ k, (Value.slice p3 n k3).ownBlock = some k → w5.heap.size ≤ k ∧ k < w6.heap.size) := World.ownsRow.lt P3_6.out
  clear hb hB HB_5 RP_5 W1_5 P2_5 G2_5 ho
  go_wp2_with fail
  refine (eqStatementS_c p2 p3 n n k2 k3 xs xs _ HX.out HX.out (by omega) (by omega) P2_6.out.rd'.2 P3_6.out.rd'.2).mono ?_
  rw [decide_eq_true rfl]
  rintro e w7 ⟨rfl, hb⟩
  have hB : Below w6.heap.size w6 w7 := hb
  have HB_7 : Hid (Below w.heap.size w w7) := HB_6.out.trans (hB.mono HB_6.out.size)
  have RP_7 : Hid (RdS w7 ao xs) := RP_6.out.later hB
  have W1_7 : Hid (OwnC w7 w1.heap.size (Value.slice a1 q c1) (l)) := W1_6.out.later hB
  have P2_7 : Hid (OwnS w7 w2.heap.size (Value.slice p2 n k2) (xs)) := P2_6.out.later hB
  have G2_7 : Hid (OwnC w7 w3.heap.size (Value.slice a2 q c2) (l)) := G2_6.out.later hB
  have z7 : w6.heap.size ≤ w7.heap.size := hB.size
  clear hb hB HB_6 RP_6 W1_6 P2_6 G2_6 P3_6 
  go_wp2_with fail
  refine (markStatementS_c p2 n k2 1 w2.heap.size xs _ (by omega) (by omega) P2_7.out).mono ?_
  rw [HMo.out]
  rintro e w8 ⟨rfl, ho, hg⟩
  have z8 : w7.heap.size ≤ w8.heap.size := hg.size
  have HB_8 : Hid (Below w.heap.size w w8) := Below.grown HB_7.out hg (by have := HB_7.out.size; omega) (fun k e => by have := I_P2.out k e; have := HB_7.out.size; omega)
  have W1_8 : Hid (OwnC w8 w1.heap.size (Value.slice a1 q c1) (l)) := W1_7.out.kept hg (own_sep I_W1.out I_P2.out (by omega))
  have G2_8 : Hid (OwnC w8 w3.heap.size (Value.slice a2 q c2) (l)) := G2_7.out.kept hg (own_sep I_G2.out I_P2.out (by omega))
  have P2_8 : Hid (OwnS w8 w2.heap.size (Value.slice p2 n k2) (marksS 1 n)) := ho
  clear hg ho HB_7 RP_7 W1_7 P2_7 G2_7
  have RP_8 : Hid (RdS w8 ao xs) := HR0.out.later HB_8.out
  go_wp2_with fail
  refine (eqClaimS_c a2 a1 q q c2 c1 l l _ HL.out HL.out (by omega) (by omega) G2_8.out.rd'.2 W1_8.out.rd'.2).mono ?_
  rw [decide_eq_true rfl]
  rintro e w9 ⟨rfl, hb⟩
  have hB : Below w8.heap.size w8 w9 := hb
  have HB_9 : Hid (Below w.heap.size w w9) := HB_8.out.trans (hB.mono HB_8.out.size)
  have W1_9 : Hid (OwnC w9 w1.heap.size (Value.slice a1 q c1) (l)) := W1_8.out.later hB
  have P2_9 : Hid (OwnS w9 w2.heap.size (Value.slice p2 n k2) (marksS 1 n)) := P2_8.out.later hB
  have G2_9 : Hid (OwnC w9 w3.heap.size (Value.slice a2 q c2) (l)) := G2_8.out.later hB
  have RP_9 : Hid (RdS w9 ao xs) := RP_8.out.later hB
  have z9 : w8.heap.size ≤ w9.heap.size := hB.size
  clear hb hB HB_8 W1_8 P2_8 G2_8 RP_8 
  go_wp2_with fail
  refine (markClaimS_c a2 q c2 1 w3.heap.size l _ (by omega) (by omega) G2_9.out).mono ?_
  rw [HM.out]
  rintro e w10 ⟨rfl, ho, hg⟩
  have z10 : w9.heap.size ≤ w10.heap.size := hg.size
  have HB_10 : Hid (Below w.heap.size w w10) := Below.grown HB_9.out hg (by have := HB_9.out.size; omega) (fun k e => by have := I_G2.out k e; have := HB_9.out.size; omega)
  have W1_10 : Hid (OwnC w10 w1.heap.size (Value.slice a1 q c1) (l)) := W1_9.out.kept hg (own_sep I_W1.out I_G2.out (by omega))
  have P2_10 : Hid (OwnS w10 w2.heap.size (Value.slice p2 n k2) (marksS 1 n)) := P2_9.out.kept hg (own_sep I_P2.out I_G2.out (by omega))
  have G2_10 : Hid (OwnC w10 w3.heap.size (Value.slice a2 q c2) (marksC 1 q)) := ho
  clear hg ho HB_9 W1_9 P2_9 G2_9 RP_9
  have RP_10 : Hid (RdS w10 ao xs) := HR0.out.later HB_10.out
  go_wp2_with fail
  refine (heldClaimS_c a2 q c2 1 w3.heap.size _ (by omega) (by omega) G2_10.out).mono ?_
  rw [HM.out]
  rintro e w11 ⟨rfl, hb⟩
  have hB : Below w10.heap.size w10 w11 := hb
  have HB_11 : Hid (Below w.heap.size w w11) := HB_10.out.trans (hB.mono HB_10.out.size)
  have W1_11 : Hid (OwnC w11 w1.heap.size (Value.slice a1 q c1) (l)) := W1_10.out.later hB
  have P2_11 : Hid (OwnS w11 w2.heap.size (Value.slice p2 n k2) (marksS 1 n)) := P2_10.out.later hB
  have G2_11 : Hid (OwnC w11 w3.heap.size (Value.slice a2 q c2) (marksC 1 q)) := G2_10.out.later hB
  have RP_11 : Hid (RdS w11 ao xs) := RP_10.out.later hB
  have z11 : w10.heap.size ≤ w11.heap.size := hB.size
  clear hb hB HB_10 W1_10 P2_10 G2_10 RP_10 
  go_wp2_with fail
  refine (toStatementS_c ao n c xs _ HX.out hn RP_11.out).mono ?_
  rintro e w12 ⟨p4, k4, rfl, ho, hb⟩
  have hB : Below w11.heap.size w11 w12 := hb
  have HB_12 : Hid (Below w.heap.size w w12) := HB_11.out.trans (hB.mono HB_11.out.size)
  have W1_12 : Hid (OwnC w12 w1.heap.size (Value.slice a1 q c1) (l)) := W1_11.out.later hB
  have P2_12 : Hid (OwnS w12 w2.heap.size (Value.slice p2 n k2) (marksS 1 n)) := P2_11.out.later hB
  have G2_12 : Hid (OwnC w12 w3.heap.size (Value.slice a2 q c2) (marksC 1 q)) := G2_11.out.later hB
  have RP_12 : Hid (RdS w12 ao xs) := RP_11.out.later hB
  have z12 : w11.heap.size ≤ w12.heap.size := hB.size
  have P4_12 : Hid (OwnS w12 w11.heap.size (Value.slice p4 n k4) (xs)) := ho
  have I_P4 : Hid (∀ k, (Value.slice p4 n k4).ownBlock = some k → w11.heap.size ≤ k ∧ k < w12.heap.size) := World.ownsRow.lt P4_12.out
  clear hb hB HB_11 W1_11 P2_11 G2_11 RP_11 ho
  go_wp2_with fail
  refine (HQI.out p4 k4 _ hn P4_12.out.rd'.2).mono ?_
  rintro e w13 ⟨a4, c4, rfl, ho, hb⟩
  have hB : Below w12.heap.size w12 w13 := hb
  have HB_13 : Hid (Below w.heap.size w w13) := HB_12.out.trans (hB.mono HB_12.out.size)
  have W1_13 : Hid (OwnC w13 w1.heap.size (Value.slice a1 q c1) (l)) := W1_12.out.later hB
  have P2_13 : Hid (OwnS w13 w2.heap.size (Value.slice p2 n k2) (marksS 1 n)) := P2_12.out.later hB
  have G2_13 : Hid (OwnC w13 w3.heap.size (Value.slice a2 q c2) (marksC 1 q)) := G2_12.out.later hB
  have RP_13 : Hid (RdS w13 ao xs) := RP_12.out.later hB
  have z13 : w12.heap.size ≤ w13.heap.size := hB.size
  have H4_13 : Hid (OwnC w13 w12.heap.size (Value.slice a4 q c4) (l)) := ho
  have I_H4 : Hid (∀ k, (Value.slice a4 q c4).ownBlock = some k → w12.heap.size ≤ k ∧ k < w13.heap.size) := World.ownsRow.lt H4_13.out
  clear hb hB HB_12 W1_12 P2_12 G2_12 RP_12 P4_12 ho
  go_wp2_with fail
  refine (eqClaimS_c a4 a1 q q c4 c1 l l _ HL.out HL.out (by omega) (by omega) H4_13.out.rd'.2 W1_13.out.rd'.2).mono ?_
  rw [decide_eq_true rfl]
  rintro e w14 ⟨rfl, hb⟩
  have hB : Below w13.heap.size w13 w14 := hb
  have HB_14 : Hid (Below w.heap.size w w14) := HB_13.out.trans (hB.mono HB_13.out.size)
  have W1_14 : Hid (OwnC w14 w1.heap.size (Value.slice a1 q c1) (l)) := W1_13.out.later hB
  have P2_14 : Hid (OwnS w14 w2.heap.size (Value.slice p2 n k2) (marksS 1 n)) := P2_13.out.later hB
  have G2_14 : Hid (OwnC w14 w3.heap.size (Value.slice a2 q c2) (marksC 1 q)) := G2_13.out.later hB
  have RP_14 : Hid (RdS w14 ao xs) := RP_13.out.later hB
  have H4_14 : Hid (OwnC w14 w12.heap.size (Value.slice a4 q c4) (l)) := H4_13.out.later hB
  have z14 : w13.heap.size ≤ w14.heap.size := hB.size
  clear hb hB HB_13 W1_13 P2_13 G2_13 RP_13 H4_13 
  go_wp2_with fail
  refine (heldClaimS_c a2 q c2 1 w3.heap.size _ (by omega) (by omega) G2_14.out).mono ?_
  rw [HM.out]
  rintro e w15 ⟨rfl, hb⟩
  have hB : Below w14.heap.size w14 w15 := hb
  have HB_15 : Hid (Below w.heap.size w w15) := HB_14.out.trans (hB.mono HB_14.out.size)
  have W1_15 : Hid (OwnC w15 w1.heap.size (Value.slice a1 q c1) (l)) := W1_14.out.later hB
  have P2_15 : Hid (OwnS w15 w2.heap.size (Value.slice p2 n k2) (marksS 1 n)) := P2_14.out.later hB
  have G2_15 : Hid (OwnC w15 w3.heap.size (Value.slice a2 q c2) (marksC 1 q)) := G2_14.out.later hB
  have RP_15 : Hid (RdS w15 ao xs) := RP_14.out.later hB
  have H4_15 : Hid (OwnC w15 w12.heap.size (Value.slice a4 q c4) (l)) := H4_14.out.later hB
  have z15 : w14.heap.size ≤ w15.heap.size := hB.size
  clear hb hB HB_14 W1_14 P2_14 G2_14 RP_14 H4_14 
  go_wp2
  go_ret
  exact ⟨rfl, HB_15.out⟩

end Go.Proofs.Ytleddlfojogdiaa
