/- The law on RefusedBy, walked: it answers true at every argument and turns nothing that was there. -/
import Derived.Test.YtofdlggohnfgaaaRF12
import Derived.Test.YtofdlggohnfgaaaRH12
import Derived.Test.YtofdlggohnfgaaaWM12
namespace Go.Proofs.Ytofdlggohnfgaaa
set_option linter.unusedVariables false
set_option maxRecDepth 1000000
set_option linter.unusedSimpArgs false
open Go.RowKit

set_option maxHeartbeats 16000000 in
theorem lawRefused_c (ao : Option Addr) (n cc : Nat) (xs : List St) (a b c : Int) (w : World) (hx : xs.length = n) (hn0 : n ≤ 9223372036854775807) (hr : RdS w ao xs) :
    Calls Try.prog 7 #[.slice ao n cc, .agg #[.int .i64 a, .int .i64 b, .int .i64 c]] w fun e w' => e = .returned (.bool true) ∧ Below w.heap.size w w' := by
  obtain ⟨l, hl⟩ : ∃ l, refV xs (a, b, c) = l := ⟨_, rfl⟩
  obtain ⟨fb, hF⟩ : ∃ fb, refOk xs (a, b, c) = fb := ⟨_, rfl⟩
  obtain ⟨q, hq⟩ : ∃ q, l.length = q := ⟨_, rfl⟩
  have hq7 : q ≤ 7 := by
    rw [← hq, ← hl]
    unfold refV
    split
    · exact refTo_length _ _ 7
    · simp
  have HQS : Hid (∀ p' k' wx, RdS wx p' xs → n ≤ 1048576 → Calls Try.prog 23 #[.slice p' n k', .agg #[.int .i64 a, .int .i64 b, .int .i64 c]] wx fun e w' => ∃ a' c', e = .returned (.tuple #[.slice a' q c', .bool fb]) ∧ Own w' wx.heap.size (.slice a' q c') l ∧ Below wx.heap.size wx w') := fun p' k' wx h1 h2 => by have := specRefused_c p' n k' xs a b c wx hx (by omega) h1 q (by rw [hl]; exact hq); rw [hl, hF] at this; exact this
  have HQI : Hid (∀ p' k' wx, RdS wx p' xs → n ≤ 1048576 → Calls Try.prog 22 #[.slice p' n k', .agg #[.int .i64 a, .int .i64 b, .int .i64 c]] wx fun e w' => ∃ a' c', e = .returned (.tuple #[.slice a' q c', .bool fb]) ∧ Own w' wx.heap.size (.slice a' q c') l ∧ Below wx.heap.size wx w') := fun p' k' wx h1 h2 => by have := implRefused_c p' n k' xs a b c wx hx (by omega) h1 q (by rw [hl]; exact hq); rw [hl, hF] at this; exact this
  have HL : Hid (l.length = q) := hq
  have HX : Hid (xs.length = n) := hx
  have HR0 : Hid (RdS w ao xs) := hr
  have hfb : (fb != fb) = false := by simp
  have hmm : ((1 : Int) + (q : Int) != (1 : Int) + (q : Int)) = false := by simp
  have hmn : ¬ (1 : Int) + (q : Int) < 0 := by omega
  obtain ⟨Mo, hMo⟩ : ∃ Mo : Int, ((1 + 5 * n : Nat) : Int) = Mo := ⟨_, rfl⟩
  have HMo : Hid (((1 + 5 * n : Nat) : Int) = Mo) := hMo
  have hmo : ¬ Mo < 0 := by omega
  clear hF hq hx hl hMo
  have HB_0 : Hid (Below w.heap.size w w) := Below.refl _ _
  have RP_0 : Hid (RdS w ao xs) := hr
  clear hr
  have hHB := HB_0.out.alloc HB_0.out.size (.cells #[.int .i64 a, .int .i64 b, .int .i64 c] 57)
  have hRP := RP_0.out.later (balloc w (.cells #[.int .i64 a, .int .i64 b, .int .i64 c] 57))
  have hA := x3_new w (.int .i64 a) (.int .i64 b) (.int .i64 c) 57 w.heap.size rfl
  have hz : (w.alloc (.cells #[.int .i64 a, .int .i64 b, .int .i64 c] 57)).heap.size = w.heap.size + 1 := by simp
  obtain ⟨w1, hV1⟩ : ∃ V, w.alloc (.cells #[.int .i64 a, .int .i64 b, .int .i64 c] 57) = V := ⟨_, rfl⟩
  rw [hV1] at hHB hRP hA hz
  have HB_1 : Hid (Below w.heap.size w w1) := hHB
  have RP_1 : Hid (RdS w1 ao xs) := hRP
  have A_1 : Hid (X3 w1 w.heap.size (.int .i64 a) (.int .i64 b) (.int .i64 c)) := hA
  have z1 : w.heap.size + 1 ≤ w1.heap.size := by omega
  clear HB_0 RP_0 hHB hRP hA hz
  go_enter Try.func7, Try.ntmps7
  go_wp2_with fail
  refine (szStatementS_c ao n cc 1048576 _ hn0 (by omega)).mono ?_
  rintro e w' ⟨r, rfl, hw, hr1, hr2⟩
  subst w'
  by_cases hr0 : r < 0
  · go_wp2
    go_ret
    exact ⟨rfl, HB_1.out⟩
  have hn : n ≤ 1048576 := (hr2 (by omega)).1
  have hrn : ¬ r < 0 := hr0
  clear hr1 hr2 hr0
  obtain ⟨⟨Aq0, Aq1, Aq2⟩, Af⟩ := id (A_1.out)
  clear Af
  go_wp2
  clear hV1
  go_region_with (first | (go_at_call 37; (first | refine (toStatementS_c ao n cc xs _ HX.out hn RP_1.out).mono ?_ | refine (toStatementS_c ao n cc xs _ HX.out hn (RP_1.out.later (Below.refl _ _).drew)).mono ?_); rintro e w2 ⟨p1, k1, rfl, ho, hb⟩; have hB : Below w1.heap.size w1 w2 := (by first | exact hb | exact ((Below.refl w1.heap.size w1).drew).trans hb); have HB_2 : Hid (Below w.heap.size w w2) := HB_1.out.trans (hB.mono HB_1.out.size); have RP_2 : Hid (RdS w2 ao xs) := RP_1.out.later hB; have A_2 : Hid (X3 w2 w.heap.size (.int .i64 a) (.int .i64 b) (.int .i64 c)) := A_1.out.later hB; have z2 : w1.heap.size ≤ w2.heap.size := hB.size; have P1_2 : Hid (OwnS w2 w1.heap.size (Value.slice p1 n k1) (xs)) := ho.mono (by first | exact Nat.le_refl _ | simp); obtain ⟨⟨eA0_2, eA1_2, eA2_2⟩, _⟩ := id (A_2.out); clear hb hB) | (go_at_call 34; (first | refine (toClaim_c a b c _).mono ?_ | refine (toClaim_c a b c _).mono ?_); rintro e w3 ⟨rfl, hb⟩; have hB : Below w2.heap.size w2 w3 := (by first | exact hb | exact ((Below.refl w2.heap.size w2).drew).trans hb); have HB_3 : Hid (Below w.heap.size w w3) := HB_2.out.trans (hB.mono HB_2.out.size); have RP_3 : Hid (RdS w3 ao xs) := RP_2.out.later hB; have A_3 : Hid (X3 w3 w.heap.size (.int .i64 a) (.int .i64 b) (.int .i64 c)) := A_2.out.later hB; have P1_3 : Hid (OwnS w3 w1.heap.size (Value.slice p1 n k1) (xs)) := P1_2.out.later hB; have z3 : w2.heap.size ≤ w3.heap.size := hB.size; obtain ⟨⟨eA0_3, eA1_3, eA2_3⟩, _⟩ := id (A_3.out); clear hb hB) | (go_at_call 23; (first | refine (HQS.out p1 k1 _ (P1_3.out).rd'.2 hn).mono ?_ | refine (HQS.out p1 k1 _ ((P1_3.out.later (Below.refl _ _).drew)).rd'.2 hn).mono ?_); rintro e w4 ⟨a1, c1, rfl, ho, hb⟩; have hB : Below w3.heap.size w3 w4 := (by first | exact hb | exact ((Below.refl w3.heap.size w3).drew).trans hb); have HB_4 : Hid (Below w.heap.size w w4) := HB_3.out.trans (hB.mono HB_3.out.size); have RP_4 : Hid (RdS w4 ao xs) := RP_3.out.later hB; have A_4 : Hid (X3 w4 w.heap.size (.int .i64 a) (.int .i64 b) (.int .i64 c)) := A_3.out.later hB; have P1_4 : Hid (OwnS w4 w1.heap.size (Value.slice p1 n k1) (xs)) := P1_3.out.later hB; have z4 : w3.heap.size ≤ w4.heap.size := hB.size; have W1_4 : Hid (Own w4 w3.heap.size (Value.slice a1 q c1) (l)) := ho.mono (by first | exact Nat.le_refl _ | simp); have I_W1 : Hid (∀ k, (Value.slice a1 q c1).ownBlock = some k → w3.heap.size ≤ k ∧ k < w4.heap.size) := (fun k h => by have := World.ownsRow.lt W1_4.out k h; exact this); obtain ⟨⟨eA0_4, eA1_4, eA2_4⟩, _⟩ := id (A_4.out); clear hb hB))
  all_goals (
    clear HB_1 RP_1 A_1 HB_2 RP_2 A_2 P1_2 HB_3 RP_3 A_3 P1_3 Aq0 Aq1 Aq2 eA0_2 eA1_2 eA2_2 eA0_3 eA1_3 eA2_3 eA0_4 eA1_4 eA2_4
    clear P1_4
    go_wp2_with fail
    refine (toStatementS_c ao n cc xs _ HX.out hn RP_4.out).mono ?_
    rintro e w5 ⟨p2, k2, rfl, ho, hb⟩
    have hB : Below w4.heap.size w4 w5 := hb
    have HB_5 : Hid (Below w.heap.size w w5) := HB_4.out.trans (hB.mono HB_4.out.size)
    have RP_5 : Hid (RdS w5 ao xs) := RP_4.out.later hB
    have A_5 : Hid (X3 w5 w.heap.size (.int .i64 a) (.int .i64 b) (.int .i64 c)) := A_4.out.later hB
    have W1_5 : Hid (Own w5 w3.heap.size (Value.slice a1 q c1) (l)) := W1_4.out.later hB
    have z5 : w4.heap.size ≤ w5.heap.size := hB.size
    have P2_5 : Hid (OwnS w5 w4.heap.size (Value.slice p2 n k2) (xs)) := ho
    have I_P2 : Hid (∀ k, (Value.slice p2 n k2).ownBlock = some k → w4.heap.size ≤ k ∧ k < w5.heap.size) := World.ownsRow.lt P2_5.out
    clear hb hB HB_4 RP_4 A_4 W1_4 ho
    obtain ⟨⟨Aq0, Aq1, Aq2⟩, Af⟩ := id (A_5.out)
    clear Af
    go_wp2_with fail
    refine (toClaim_c a b c _).mono ?_
    clear Aq0 Aq1 Aq2
    rintro e w6 ⟨rfl, hb⟩
    have hB : Below w5.heap.size w5 w6 := hb
    have HB_6 : Hid (Below w.heap.size w w6) := HB_5.out.trans (hB.mono HB_5.out.size)
    have RP_6 : Hid (RdS w6 ao xs) := RP_5.out.later hB
    have A_6 : Hid (X3 w6 w.heap.size (.int .i64 a) (.int .i64 b) (.int .i64 c)) := A_5.out.later hB
    have W1_6 : Hid (Own w6 w3.heap.size (Value.slice a1 q c1) (l)) := W1_5.out.later hB
    have P2_6 : Hid (OwnS w6 w4.heap.size (Value.slice p2 n k2) (xs)) := P2_5.out.later hB
    have z6 : w5.heap.size ≤ w6.heap.size := hB.size
    clear hb hB HB_5 RP_5 A_5 W1_5 P2_5 
    go_wp2_with fail
    refine (HQI.out p2 k2 _ P2_6.out.rd'.2 hn).mono ?_
    rintro e w7 ⟨a2, c2, rfl, ho, hb⟩
    have hB : Below w6.heap.size w6 w7 := hb
    have HB_7 : Hid (Below w.heap.size w w7) := HB_6.out.trans (hB.mono HB_6.out.size)
    have RP_7 : Hid (RdS w7 ao xs) := RP_6.out.later hB
    have A_7 : Hid (X3 w7 w.heap.size (.int .i64 a) (.int .i64 b) (.int .i64 c)) := A_6.out.later hB
    have W1_7 : Hid (Own w7 w3.heap.size (Value.slice a1 q c1) (l)) := W1_6.out.later hB
    have P2_7 : Hid (OwnS w7 w4.heap.size (Value.slice p2 n k2) (xs)) := P2_6.out.later hB
    have z7 : w6.heap.size ≤ w7.heap.size := hB.size
    have G2_7 : Hid (Own w7 w6.heap.size (Value.slice a2 q c2) (l)) := ho
    have I_G2 : Hid (∀ k, (Value.slice a2 q c2).ownBlock = some k → w6.heap.size ≤ k ∧ k < w7.heap.size) := World.ownsRow.lt G2_7.out
    clear hb hB HB_6 RP_6 A_6 W1_6 P2_6 ho
    go_wp2_with fail
    refine (eqIntS_c a2 a1 q q c2 c1 l l _ HL.out HL.out (by omega) (by omega) G2_7.out.rd'.2 W1_7.out.rd'.2).mono ?_
    rw [decide_eq_true rfl]
    rintro e w8 ⟨rfl, hb⟩
    have hB : Below w7.heap.size w7 w8 := hb
    have HB_8 : Hid (Below w.heap.size w w8) := HB_7.out.trans (hB.mono HB_7.out.size)
    have RP_8 : Hid (RdS w8 ao xs) := RP_7.out.later hB
    have A_8 : Hid (X3 w8 w.heap.size (.int .i64 a) (.int .i64 b) (.int .i64 c)) := A_7.out.later hB
    have W1_8 : Hid (Own w8 w3.heap.size (Value.slice a1 q c1) (l)) := W1_7.out.later hB
    have P2_8 : Hid (OwnS w8 w4.heap.size (Value.slice p2 n k2) (xs)) := P2_7.out.later hB
    have G2_8 : Hid (Own w8 w6.heap.size (Value.slice a2 q c2) (l)) := G2_7.out.later hB
    have z8 : w7.heap.size ≤ w8.heap.size := hB.size
    clear hb hB HB_7 RP_7 A_7 W1_7 P2_7 G2_7 
    go_wp2_with fail
    refine (toStatementS_c ao n cc xs _ HX.out hn RP_8.out).mono ?_
    rintro e w9 ⟨p3, k3, rfl, ho, hb⟩
    have hB : Below w8.heap.size w8 w9 := hb
    have HB_9 : Hid (Below w.heap.size w w9) := HB_8.out.trans (hB.mono HB_8.out.size)
    have RP_9 : Hid (RdS w9 ao xs) := RP_8.out.later hB
    have A_9 : Hid (X3 w9 w.heap.size (.int .i64 a) (.int .i64 b) (.int .i64 c)) := A_8.out.later hB
    have W1_9 : Hid (Own w9 w3.heap.size (Value.slice a1 q c1) (l)) := W1_8.out.later hB
    have P2_9 : Hid (OwnS w9 w4.heap.size (Value.slice p2 n k2) (xs)) := P2_8.out.later hB
    have G2_9 : Hid (Own w9 w6.heap.size (Value.slice a2 q c2) (l)) := G2_8.out.later hB
    have z9 : w8.heap.size ≤ w9.heap.size := hB.size
    have P3_9 : Hid (OwnS w9 w8.heap.size (Value.slice p3 n k3) (xs)) := ho
    have I_P3 : Hid (∀ k, (Value.slice p3 n k3).ownBlock = some k → w8.heap.size ≤ k ∧ k < w9.heap.size) := World.ownsRow.lt P3_9.out
    clear hb hB HB_8 RP_8 A_8 W1_8 P2_8 G2_8 ho
    go_wp2_with fail
    refine (eqStatementS_c p2 p3 n n k2 k3 xs xs _ HX.out HX.out (by omega) (by omega) P2_9.out.rd'.2 P3_9.out.rd'.2).mono ?_
    rw [decide_eq_true rfl]
    rintro e w10 ⟨rfl, hb⟩
    have hB : Below w9.heap.size w9 w10 := hb
    have HB_10 : Hid (Below w.heap.size w w10) := HB_9.out.trans (hB.mono HB_9.out.size)
    have RP_10 : Hid (RdS w10 ao xs) := RP_9.out.later hB
    have A_10 : Hid (X3 w10 w.heap.size (.int .i64 a) (.int .i64 b) (.int .i64 c)) := A_9.out.later hB
    have W1_10 : Hid (Own w10 w3.heap.size (Value.slice a1 q c1) (l)) := W1_9.out.later hB
    have P2_10 : Hid (OwnS w10 w4.heap.size (Value.slice p2 n k2) (xs)) := P2_9.out.later hB
    have G2_10 : Hid (Own w10 w6.heap.size (Value.slice a2 q c2) (l)) := G2_9.out.later hB
    have P3_10 : Hid (OwnS w10 w8.heap.size (Value.slice p3 n k3) (xs)) := P3_9.out.later hB
    have z10 : w9.heap.size ≤ w10.heap.size := hB.size
    clear hb hB HB_9 RP_9 A_9 W1_9 P2_9 G2_9 P3_9 
    go_wp2_with fail
    refine (markStatementS_c p2 n k2 1 w4.heap.size xs _ (by omega) (by omega) P2_10.out).mono ?_
    rw [HMo.out]
    rintro e w11 ⟨rfl, ho, hg⟩
    have z11 : w10.heap.size ≤ w11.heap.size := hg.size
    have HB_11 : Hid (Below w.heap.size w w11) := Below.grown HB_10.out hg (by have := HB_10.out.size; omega) (fun k e => by have := I_P2.out k e; have := HB_10.out.size; omega)
    have A_11 : Hid (X3 w11 w.heap.size (.int .i64 a) (.int .i64 b) (.int .i64 c)) := A_10.out.grown hg (fun e => by have := I_P2.out _ e.symm; omega)
    have W1_11 : Hid (Own w11 w3.heap.size (Value.slice a1 q c1) (l)) := W1_10.out.kept hg (own_sep I_W1.out I_P2.out (by omega))
    have G2_11 : Hid (Own w11 w6.heap.size (Value.slice a2 q c2) (l)) := G2_10.out.kept hg (own_sep I_G2.out I_P2.out (by omega))
    have P2_11 : Hid (OwnS w11 w4.heap.size (Value.slice p2 n k2) (marksS 1 n)) := ho
    clear hg ho HB_10 RP_10 A_10 W1_10 P2_10 G2_10 P3_10
    have RP_11 : Hid (RdS w11 ao xs) := HR0.out.later HB_11.out
    go_wp2_with fail
    refine (eqIntS_c a2 a1 q q c2 c1 l l _ HL.out HL.out (by omega) (by omega) G2_11.out.rd'.2 W1_11.out.rd'.2).mono ?_
    rw [decide_eq_true rfl]
    rintro e w12 ⟨rfl, hb⟩
    have hB : Below w11.heap.size w11 w12 := hb
    have HB_12 : Hid (Below w.heap.size w w12) := HB_11.out.trans (hB.mono HB_11.out.size)
    have A_12 : Hid (X3 w12 w.heap.size (.int .i64 a) (.int .i64 b) (.int .i64 c)) := A_11.out.later hB
    have W1_12 : Hid (Own w12 w3.heap.size (Value.slice a1 q c1) (l)) := W1_11.out.later hB
    have P2_12 : Hid (OwnS w12 w4.heap.size (Value.slice p2 n k2) (marksS 1 n)) := P2_11.out.later hB
    have G2_12 : Hid (Own w12 w6.heap.size (Value.slice a2 q c2) (l)) := G2_11.out.later hB
    have RP_12 : Hid (RdS w12 ao xs) := RP_11.out.later hB
    have z12 : w11.heap.size ≤ w12.heap.size := hB.size
    clear hb hB HB_11 A_11 W1_11 P2_11 G2_11 RP_11 
    go_wp2_with fail
    refine (markIntS_c a2 q c2 1 w6.heap.size l _ (by omega) (by omega) (by omega) G2_12.out).mono ?_
    rintro e w13 ⟨rfl, ho, hg⟩
    have z13 : w12.heap.size ≤ w13.heap.size := hg.size
    have HB_13 : Hid (Below w.heap.size w w13) := Below.grown HB_12.out hg (by have := HB_12.out.size; omega) (fun k e => by have := I_G2.out k e; have := HB_12.out.size; omega)
    have A_13 : Hid (X3 w13 w.heap.size (.int .i64 a) (.int .i64 b) (.int .i64 c)) := A_12.out.grown hg (fun e => by have := I_G2.out _ e.symm; omega)
    have W1_13 : Hid (Own w13 w3.heap.size (Value.slice a1 q c1) (l)) := W1_12.out.kept hg (own_sep I_W1.out I_G2.out (by omega))
    have P2_13 : Hid (OwnS w13 w4.heap.size (Value.slice p2 n k2) (marksS 1 n)) := P2_12.out.kept hg (own_sep I_P2.out I_G2.out (by omega))
    have G2_13 : Hid (Own w13 w6.heap.size (Value.slice a2 q c2) (marks 1 q)) := ho
    clear hg ho HB_12 A_12 W1_12 P2_12 G2_12 RP_12
    have RP_13 : Hid (RdS w13 ao xs) := HR0.out.later HB_13.out
    go_wp2_with fail
    refine (heldIntS_c a2 q c2 1 w6.heap.size _ (by omega) (by omega) (by omega) G2_13.out).mono ?_
    rintro e w' ⟨rfl, hw⟩
    subst w'
    obtain ⟨⟨Aq0, Aq1, Aq2⟩, Af⟩ := id (A_13.out)
    clear Af
    go_wp2
    go_region_with (first | (go_at_call 37; (first | refine (toStatementS_c ao n cc xs _ HX.out hn RP_13.out).mono ?_ | refine (toStatementS_c ao n cc xs _ HX.out hn (RP_13.out.later (Below.refl _ _).drew)).mono ?_); rintro e w14 ⟨p4, k4, rfl, ho, hb⟩; have hB : Below w13.heap.size w13 w14 := (by first | exact hb | exact ((Below.refl w13.heap.size w13).drew).trans hb); have HB_14 : Hid (Below w.heap.size w w14) := HB_13.out.trans (hB.mono HB_13.out.size); have A_14 : Hid (X3 w14 w.heap.size (.int .i64 a) (.int .i64 b) (.int .i64 c)) := A_13.out.later hB; have W1_14 : Hid (Own w14 w3.heap.size (Value.slice a1 q c1) (l)) := W1_13.out.later hB; have P2_14 : Hid (OwnS w14 w4.heap.size (Value.slice p2 n k2) (marksS 1 n)) := P2_13.out.later hB; have G2_14 : Hid (Own w14 w6.heap.size (Value.slice a2 q c2) (marks 1 q)) := G2_13.out.later hB; have RP_14 : Hid (RdS w14 ao xs) := RP_13.out.later hB; have z14 : w13.heap.size ≤ w14.heap.size := hB.size; have P4_14 : Hid (OwnS w14 w13.heap.size (Value.slice p4 n k4) (xs)) := ho.mono (by first | exact Nat.le_refl _ | simp); obtain ⟨⟨eA0_14, eA1_14, eA2_14⟩, _⟩ := id (A_14.out); clear hb hB) | (go_at_call 34; (first | refine (toClaim_c a b c _).mono ?_ | refine (toClaim_c a b c _).mono ?_); rintro e w15 ⟨rfl, hb⟩; have hB : Below w14.heap.size w14 w15 := (by first | exact hb | exact ((Below.refl w14.heap.size w14).drew).trans hb); have HB_15 : Hid (Below w.heap.size w w15) := HB_14.out.trans (hB.mono HB_14.out.size); have A_15 : Hid (X3 w15 w.heap.size (.int .i64 a) (.int .i64 b) (.int .i64 c)) := A_14.out.later hB; have W1_15 : Hid (Own w15 w3.heap.size (Value.slice a1 q c1) (l)) := W1_14.out.later hB; have P2_15 : Hid (OwnS w15 w4.heap.size (Value.slice p2 n k2) (marksS 1 n)) := P2_14.out.later hB; have G2_15 : Hid (Own w15 w6.heap.size (Value.slice a2 q c2) (marks 1 q)) := G2_14.out.later hB; have RP_15 : Hid (RdS w15 ao xs) := RP_14.out.later hB; have P4_15 : Hid (OwnS w15 w13.heap.size (Value.slice p4 n k4) (xs)) := P4_14.out.later hB; have z15 : w14.heap.size ≤ w15.heap.size := hB.size; obtain ⟨⟨eA0_15, eA1_15, eA2_15⟩, _⟩ := id (A_15.out); clear hb hB) | (go_at_call 22; (first | refine (HQI.out p4 k4 _ (P4_15.out).rd'.2 hn).mono ?_ | refine (HQI.out p4 k4 _ ((P4_15.out.later (Below.refl _ _).drew)).rd'.2 hn).mono ?_); rintro e w16 ⟨a4, c4, rfl, ho, hb⟩; have hB : Below w15.heap.size w15 w16 := (by first | exact hb | exact ((Below.refl w15.heap.size w15).drew).trans hb); have HB_16 : Hid (Below w.heap.size w w16) := HB_15.out.trans (hB.mono HB_15.out.size); have A_16 : Hid (X3 w16 w.heap.size (.int .i64 a) (.int .i64 b) (.int .i64 c)) := A_15.out.later hB; have W1_16 : Hid (Own w16 w3.heap.size (Value.slice a1 q c1) (l)) := W1_15.out.later hB; have P2_16 : Hid (OwnS w16 w4.heap.size (Value.slice p2 n k2) (marksS 1 n)) := P2_15.out.later hB; have G2_16 : Hid (Own w16 w6.heap.size (Value.slice a2 q c2) (marks 1 q)) := G2_15.out.later hB; have RP_16 : Hid (RdS w16 ao xs) := RP_15.out.later hB; have P4_16 : Hid (OwnS w16 w13.heap.size (Value.slice p4 n k4) (xs)) := P4_15.out.later hB; have z16 : w15.heap.size ≤ w16.heap.size := hB.size; have H4_16 : Hid (Own w16 w15.heap.size (Value.slice a4 q c4) (l)) := ho.mono (by first | exact Nat.le_refl _ | simp); have I_H4 : Hid (∀ k, (Value.slice a4 q c4).ownBlock = some k → w15.heap.size ≤ k ∧ k < w16.heap.size) := (fun k h => by have := World.ownsRow.lt H4_16.out k h; exact this); obtain ⟨⟨eA0_16, eA1_16, eA2_16⟩, _⟩ := id (A_16.out); clear hb hB))
    all_goals (
      clear HB_13 A_13 W1_13 P2_13 G2_13 RP_13 HB_14 A_14 W1_14 P2_14 G2_14 RP_14 P4_14 HB_15 A_15 W1_15 P2_15 G2_15 RP_15 P4_15 Aq0 Aq1 Aq2 eA0_14 eA1_14 eA2_14 eA0_15 eA1_15 eA2_15 eA0_16 eA1_16 eA2_16
      go_wp2_with fail
      refine (eqIntS_c a4 a1 q q c4 c1 l l _ HL.out HL.out (by omega) (by omega) H4_16.out.rd'.2 W1_16.out.rd'.2).mono ?_
      rw [decide_eq_true rfl]
      rintro e w17 ⟨rfl, hb⟩
      have hB : Below w16.heap.size w16 w17 := hb
      have HB_17 : Hid (Below w.heap.size w w17) := HB_16.out.trans (hB.mono HB_16.out.size)
      have A_17 : Hid (X3 w17 w.heap.size (.int .i64 a) (.int .i64 b) (.int .i64 c)) := A_16.out.later hB
      have W1_17 : Hid (Own w17 w3.heap.size (Value.slice a1 q c1) (l)) := W1_16.out.later hB
      have P2_17 : Hid (OwnS w17 w4.heap.size (Value.slice p2 n k2) (marksS 1 n)) := P2_16.out.later hB
      have G2_17 : Hid (Own w17 w6.heap.size (Value.slice a2 q c2) (marks 1 q)) := G2_16.out.later hB
      have RP_17 : Hid (RdS w17 ao xs) := RP_16.out.later hB
      have P4_17 : Hid (OwnS w17 w13.heap.size (Value.slice p4 n k4) (xs)) := P4_16.out.later hB
      have H4_17 : Hid (Own w17 w15.heap.size (Value.slice a4 q c4) (l)) := H4_16.out.later hB
      have z17 : w16.heap.size ≤ w17.heap.size := hB.size
      clear hb hB HB_16 A_16 W1_16 P2_16 G2_16 RP_16 P4_16 H4_16 
      go_wp2_with fail
      refine (heldIntS_c a2 q c2 1 w6.heap.size _ (by omega) (by omega) (by omega) G2_17.out).mono ?_
      rintro e w' ⟨rfl, hw⟩
      subst w'
      go_wp2
      go_ret
      exact ⟨rfl, HB_17.out⟩))

end Go.Proofs.Ytofdlggohnfgaaa
