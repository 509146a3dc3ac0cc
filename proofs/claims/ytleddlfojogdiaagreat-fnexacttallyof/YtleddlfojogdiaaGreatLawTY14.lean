/- The law on TallyOf, walked: it answers true at every argument and turns nothing that was there. -/
import Derived.Test.YtleddlfojogdiaaGreatTY14
import Derived.Test.YtleddlfojogdiaaGreatIT14
import Derived.Test.YtleddlfojogdiaaGreatTC14
import Derived.Test.YtleddlfojogdiaaGreatWM12
namespace Go.Proofs.YtleddlfojogdiaaGreat
set_option linter.unusedVariables false
set_option maxRecDepth 1000000
set_option linter.unusedSimpArgs false
open Go.RowKit

theorem tallyV_len (n f : Int) (xs : List Cl) (ls : List St) : (tallyV n f xs ls).length ≤ 12 := by
  unfold tallyV
  split
  · rename_i h
    rw [tallyL_length]
    unfold tallyOk inB at h
    simp only [Bool.and_eq_true, decide_eq_true_eq] at h
    omega
  · simp

set_option maxHeartbeats 4000000 in
theorem lawTally_c (nh f : Int) (ao : Option Addr) (n c : Nat) (xs : List Cl) (bo : Option Addr) (m d : Nat) (ys : List St) (w : World) (hx : xs.length = n) (hn0 : n ≤ 9223372036854775807) (hr : RdC w ao xs) (hy : ys.length = m) (hm0 : m ≤ 9223372036854775807) (hs : RdS w bo ys) :
    Calls Tryz.prog 4 #[.int .i64 nh, .int .i64 f, .slice ao n c, .slice bo m d] w fun e w' => e = .returned (.bool true) ∧ Below w.heap.size w w' := by
  obtain ⟨l, hl⟩ : ∃ l, tallyV nh f xs ys = l := ⟨_, rfl⟩
  obtain ⟨fb, hF⟩ : ∃ fb, tallyOk nh f xs ys = fb := ⟨_, rfl⟩
  obtain ⟨q, hq⟩ : ∃ q, l.length = q := ⟨_, rfl⟩
  have hq12 : q ≤ 12 := by rw [← hq, ← hl]; exact tallyV_len nh f xs ys
  have HQS : Hid (∀ p1 k1 p2 k2 wx, n ≤ 1048576 → m ≤ 1048576 → n ≤ k1 → RdC wx p1 xs → RdS wx p2 ys → Calls Tryz.prog 7 #[.int .i64 nh, .int .i64 f, .slice p1 n k1, .slice p2 m k2] wx fun e w' => ∃ a' c', e = .returned (.tuple #[.slice a' q c', .bool fb]) ∧ OwnU w' wx.heap.size (.slice a' q c') l ∧ Below wx.heap.size wx w') := fun p1 k1 p2 k2 wx h1 h2 h0 h3 h4 => by have := specTally_c nh f p1 n k1 p2 m k2 xs ys wx hx hy (by omega) (by omega) h0 h3 h4 q (by rw [hl]; exact hq); rw [hl, hF] at this; exact this
  have HQI : Hid (∀ p1 k1 p2 k2 wx, n ≤ 1048576 → m ≤ 1048576 → n ≤ k1 → RdC wx p1 xs → RdS wx p2 ys → Calls Tryz.prog 6 #[.int .i64 nh, .int .i64 f, .slice p1 n k1, .slice p2 m k2] wx fun e w' => ∃ a' c', e = .returned (.tuple #[.slice a' q c', .bool fb]) ∧ OwnU w' wx.heap.size (.slice a' q c') l ∧ Below wx.heap.size wx w') := fun p1 k1 p2 k2 wx h1 h2 h0 h3 h4 => by have := implTally_c nh f p1 n k1 p2 m k2 xs ys wx hx hy (by omega) (by omega) h0 h3 h4 q (by rw [hl]; exact hq); rw [hl, hF] at this; exact this
  have HL : Hid (l.length = q) := hq
  have HX : Hid (xs.length = n) := hx
  have HY : Hid (ys.length = m) := hy
  have HR0 : Hid (RdC w ao xs) := hr
  have HS0 : Hid (RdS w bo ys) := hs
  have hfb : (fb != fb) = false := by simp
  obtain ⟨M, hM⟩ : ∃ M : Int, ((1 + 3 * q : Nat) : Int) = M := ⟨_, rfl⟩
  have HM : Hid (((1 + 3 * q : Nat) : Int) = M) := hM
  obtain ⟨Mo, hMo⟩ : ∃ Mo : Int, ((1 + 3 * n + 5 * m : Nat) : Int) = Mo := ⟨_, rfl⟩
  have HMo : Hid (((1 + 3 * n + 5 * m : Nat) : Int) = Mo) := hMo
  have hmm : (M != M) = false := by simp
  have hmn : ¬ M < 0 := by omega
  have hmo : ¬ Mo < 0 := by omega
  clear hF hq hx hy hl hM hMo
  have HB_0 : Hid (Below w.heap.size w w) := Below.refl _ _
  have RP_0 : Hid (RdC w ao xs) := hr
  have RQ_0 : Hid (RdS w bo ys) := hs
  clear hr hs
  go_enter Tryz.func4, Tryz.ntmps4
  go_wp2_with fail
  refine (szClaimS_c ao n c 1048576 _ hn0 (by omega)).mono ?_
  rintro e w' ⟨r, rfl, hw, hr1, hr2⟩
  subst w'
  by_cases hr0 : r < 0
  · go_wp2
    go_ret
    exact ⟨rfl, HB_0.out⟩
  have hn : n ≤ 1048576 := (hr2 (by omega)).1
  have hhn_r : ¬ r < 0 := hr0
  obtain ⟨rr, rfl⟩ : ∃ rr : Nat, r = (rr : Int) := ⟨r.toNat, by omega⟩
  have hrr : rr ≤ 1048576 := by omega
  clear hr1 hr2 hr0
  go_wp2_with fail
  refine (szStatementS_c bo m d rr _ hm0 (by omega)).mono ?_
  rintro e w' ⟨r, rfl, hw, hr1, hr2⟩
  subst w'
  by_cases hr0 : r < 0
  · go_wp2
    go_ret
    exact ⟨rfl, HB_0.out⟩
  have hm : m ≤ 1048576 := (hr2 (by omega)).1
  have hhm_r : ¬ r < 0 := hr0
  clear hr1 hr2 hr0
  go_wp2_with fail
  refine (toClaimS_c ao n c xs _ HX.out hn RP_0.out).mono ?_
  rintro e w1 ⟨p1, k1, rfl, ho, hb⟩
  have hB : Below w.heap.size w w1 := hb
  have HB_1 : Hid (Below w.heap.size w w1) := HB_0.out.trans (hB.mono HB_0.out.size)
  have RP_1 : Hid (RdC w1 ao xs) := RP_0.out.later hB
  have RQ_1 : Hid (RdS w1 bo ys) := RQ_0.out.later hB
  have z1 : w.heap.size ≤ w1.heap.size := hB.size
  have P1_1 : Hid (OwnC w1 w.heap.size (Value.slice p1 n k1) (xs)) := ho
  have I_P1 : Hid (∀ k, (Value.slice p1 n k1).ownBlock = some k → w.heap.size ≤ k ∧ k < w1.heap.size) := World.ownsRow.lt P1_1.out
  clear hb hB HB_0 RP_0 RQ_0 ho
  go_wp2_with fail
  refine (toStatementS_c bo m d ys _ HY.out hm RQ_1.out).mono ?_
  rintro e w2 ⟨p2, k2, rfl, ho, hb⟩
  have hB : Below w1.heap.size w1 w2 := hb
  have HB_2 : Hid (Below w.heap.size w w2) := HB_1.out.trans (hB.mono HB_1.out.size)
  have RP_2 : Hid (RdC w2 ao xs) := RP_1.out.later hB
  have RQ_2 : Hid (RdS w2 bo ys) := RQ_1.out.later hB
  have P1_2 : Hid (OwnC w2 w.heap.size (Value.slice p1 n k1) (xs)) := P1_1.out.later hB
  have z2 : w1.heap.size ≤ w2.heap.size := hB.size
  have P2_2 : Hid (OwnS w2 w1.heap.size (Value.slice p2 m k2) (ys)) := ho
  have I_P2 : Hid (∀ k, (Value.slice p2 m k2).ownBlock = some k → w1.heap.size ≤ k ∧ k < w2.heap.size) := World.ownsRow.lt P2_2.out
  clear hb hB HB_1 RP_1 RQ_1 P1_1 ho
  go_wp2_with fail
  refine (HQS.out p1 k1 p2 k2 _ hn hm (OwnC.cap P1_2.out) P1_2.out.rd'.2 P2_2.out.rd'.2).mono ?_
  rintro e w3 ⟨a1, c1, rfl, ho, hb⟩
  have hB : Below w2.heap.size w2 w3 := hb
  have HB_3 : Hid (Below w.heap.size w w3) := HB_2.out.trans (hB.mono HB_2.out.size)
  have RP_3 : Hid (RdC w3 ao xs) := RP_2.out.later hB
  have RQ_3 : Hid (RdS w3 bo ys) := RQ_2.out.later hB
  have z3 : w2.heap.size ≤ w3.heap.size := hB.size
  have W1_3 : Hid (OwnU w3 w2.heap.size (Value.slice a1 q c1) (l)) := ho
  have I_W1 : Hid (∀ k, (Value.slice a1 q c1).ownBlock = some k → w2.heap.size ≤ k ∧ k < w3.heap.size) := World.ownsRow.lt W1_3.out
  clear hb hB HB_2 RP_2 RQ_2 P1_2 P2_2 ho
  go_wp2_with fail
  refine (toClaimS_c ao n c xs _ HX.out hn RP_3.out).mono ?_
  rintro e w4 ⟨p3, k3, rfl, ho, hb⟩
  have hB : Below w3.heap.size w3 w4 := hb
  have HB_4 : Hid (Below w.heap.size w w4) := HB_3.out.trans (hB.mono HB_3.out.size)
  have RP_4 : Hid (RdC w4 ao xs) := RP_3.out.later hB
  have RQ_4 : Hid (RdS w4 bo ys) := RQ_3.out.later hB
  have W1_4 : Hid (OwnU w4 w2.heap.size (Value.slice a1 q c1) (l)) := W1_3.out.later hB
  have z4 : w3.heap.size ≤ w4.heap.size := hB.size
  have P3_4 : Hid (OwnC w4 w3.heap.size (Value.slice p3 n k3) (xs)) := ho
  have I_P3 : Hid (∀ k, (Value.slice p3 n k3).ownBlock = some k → w3.heap.size ≤ k ∧ k < w4.heap.size) := World.ownsRow.lt P3_4.out
  clear hb hB HB_3 RP_3 RQ_3 W1_3 ho
  go_wp2_with fail
  refine (toStatementS_c bo m d ys _ HY.out hm RQ_4.out).mono ?_
  rintro e w5 ⟨p4, k4, rfl, ho, hb⟩
  have hB : Below w4.heap.size w4 w5 := hb
  have HB_5 : Hid (Below w.heap.size w w5) := HB_4.out.trans (hB.mono HB_4.out.size)
  have RP_5 : Hid (RdC w5 ao xs) := RP_4.out.later hB
  have RQ_5 : Hid (RdS w5 bo ys) := RQ_4.out.later hB
  have W1_5 : Hid (OwnU w5 w2.heap.size (Value.slice a1 q c1) (l)) := W1_4.out.later hB
  have P3_5 : Hid (OwnC w5 w3.heap.size (Value.slice p3 n k3) (xs)) := P3_4.out.later hB
  have z5 : w4.heap.size ≤ w5.heap.size := hB.size
  have P4_5 : Hid (OwnS w5 w4.heap.size (Value.slice p4 m k4) (ys)) := ho
  have I_P4 : Hid (∀ k, (Value.slice p4 m k4).ownBlock = some k → w4.heap.size ≤ k ∧ k < w5.heap.size) := World.ownsRow.lt P4_5.out
  clear hb hB HB_4 RP_4 RQ_4 W1_4 P3_4 ho
  go_wp2_with fail
  refine (HQI.out p3 k3 p4 k4 _ hn hm (OwnC.cap P3_5.out) P3_5.out.rd'.2 P4_5.out.rd'.2).mono ?_
  rintro e w6 ⟨a2, c2, rfl, ho, hb⟩
  have hB : Below w5.heap.size w5 w6 := hb
  have HB_6 : Hid (Below w.heap.size w w6) := HB_5.out.trans (hB.mono HB_5.out.size)
  have RP_6 : Hid (RdC w6 ao xs) := RP_5.out.later hB
  have RQ_6 : Hid (RdS w6 bo ys) := RQ_5.out.later hB
  have W1_6 : Hid (OwnU w6 w2.heap.size (Value.slice a1 q c1) (l)) := W1_5.out.later hB
  have P3_6 : Hid (OwnC w6 w3.heap.size (Value.slice p3 n k3) (xs)) := P3_5.out.later hB
  have P4_6 : Hid (OwnS w6 w4.heap.size (Value.slice p4 m k4) (ys)) := P4_5.out.later hB
  have z6 : w5.heap.size ≤ w6.heap.size := hB.size
  have G2_6 : Hid (OwnU w6 w5.heap.size (Value.slice a2 q c2) (l)) := ho
  have I_G2 : Hid (∀ k, (Value.slice a2 q c2).ownBlock = some k → w5.heap.size ≤ k ∧ k < w6.heap.size) := World.ownsRow.lt G2_6.out
  clear hb hB HB_5 RP_5 RQ_5 W1_5 P3_5 P4_5 ho
  go_wp2_with fail
  refine (eqTallyS_c a2 a1 q q c2 c1 l l _ HL.out HL.out (by omega) (by omega) G2_6.out.rd'.2 W1_6.out.rd'.2).mono ?_
  rw [decide_eq_true rfl]
  rintro e w7 ⟨rfl, hb⟩
  have hB : Below w6.heap.size w6 w7 := hb
  have HB_7 : Hid (Below w.heap.size w w7) := HB_6.out.trans (hB.mono HB_6.out.size)
  have RP_7 : Hid (RdC w7 ao xs) := RP_6.out.later hB
  have RQ_7 : Hid (RdS w7 bo ys) := RQ_6.out.later hB
  have W1_7 : Hid (OwnU w7 w2.heap.size (Value.slice a1 q c1) (l)) := W1_6.out.later hB
  have P3_7 : Hid (OwnC w7 w3.heap.size (Value.slice p3 n k3) (xs)) := P3_6.out.later hB
  have P4_7 : Hid (OwnS w7 w4.heap.size (Value.slice p4 m k4) (ys)) := P4_6.out.later hB
  have G2_7 : Hid (OwnU w7 w5.heap.size (Value.slice a2 q c2) (l)) := G2_6.out.later hB
  have z7 : w6.heap.size ≤ w7.heap.size := hB.size
  clear hb hB HB_6 RP_6 RQ_6 W1_6 P3_6 P4_6 G2_6 
  go_wp2_with fail
  refine (toClaimS_c ao n c xs _ HX.out hn RP_7.out).mono ?_
  rintro e w8 ⟨p5, k5, rfl, ho, hb⟩
  have hB : Below w7.heap.size w7 w8 := hb
  have HB_8 : Hid (Below w.heap.size w w8) := HB_7.out.trans (hB.mono HB_7.out.size)
  have RP_8 : Hid (RdC w8 ao xs) := RP_7.out.later hB
  have RQ_8 : Hid (RdS w8 bo ys) := RQ_7.out.later hB
  have W1_8 : Hid (OwnU w8 w2.heap.size (Value.slice a1 q c1) (l)) := W1_7.out.later hB
  have P3_8 : Hid (OwnC w8 w3.heap.size (Value.slice p3 n k3) (xs)) := P3_7.out.later hB
  have P4_8 : Hid (OwnS w8 w4.heap.size (Value.slice p4 m k4) (ys)) := P4_7.out.later hB
  have G2_8 : Hid (OwnU w8 w5.heap.size (Value.slice a2 q c2) (l)) := G2_7.out.later hB
  have z8 : w7.heap.size ≤ w8.heap.size := hB.size
  have P5_8 : Hid (OwnC w8 w7.heap.size (Value.slice p5 n k5) (xs)) := ho
  have I_P5 : Hid (∀ k, (Value.slice p5 n k5).ownBlock = some k → w7.heap.size ≤ k ∧ k < w8.heap.size) := World.ownsRow.lt P5_8.out
  clear hb hB HB_7 RP_7 RQ_7 W1_7 P3_7 P4_7 G2_7 ho
  go_wp2_with fail
  refine (eqClaimS_c p3 p5 n n k3 k5 xs xs _ HX.out HX.out (by omega) (by omega) P3_8.out.rd'.2 P5_8.out.rd'.2).mono ?_
  rw [decide_eq_true rfl]
  rintro e w9 ⟨rfl, hb⟩
  have hB : Below w8.heap.size w8 w9 := hb
  have HB_9 : Hid (Below w.heap.size w w9) := HB_8.out.trans (hB.mono HB_8.out.size)
  have RP_9 : Hid (RdC w9 ao xs) := RP_8.out.later hB
  have RQ_9 : Hid (RdS w9 bo ys) := RQ_8.out.later hB
  have W1_9 : Hid (OwnU w9 w2.heap.size (Value.slice a1 q c1) (l)) := W1_8.out.later hB
  have P3_9 : Hid (OwnC w9 w3.heap.size (Value.slice p3 n k3) (xs)) := P3_8.out.later hB
  have P4_9 : Hid (OwnS w9 w4.heap.size (Value.slice p4 m k4) (ys)) := P4_8.out.later hB
  have G2_9 : Hid (OwnU w9 w5.heap.size (Value.slice a2 q c2) (l)) := G2_8.out.later hB
  have z9 : w8.heap.size ≤ w9.heap.size := hB.size
  clear hb hB HB_8 RP_8 RQ_8 W1_8 P3_8 P4_8 G2_8 P5_8 
  go_wp2_with fail
  refine (toStatementS_c bo m d ys _ HY.out hm RQ_9.out).mono ?_
  rintro e w10 ⟨p6, k6, rfl, ho, hb⟩
  have hB : Below w9.heap.size w9 w10 := hb
  have HB_10 : Hid (Below w.heap.size w w10) := HB_9.out.trans (hB.mono HB_9.out.size)
  have RP_10 : Hid (RdC w10 ao xs) := RP_9.out.later hB
  have RQ_10 : Hid (RdS w10 bo ys) := RQ_9.out.later hB
  have W1_10 : Hid (OwnU w10 w2.heap.size (Value.slice a1 q c1) (l)) := W1_9.out.later hB
  have P3_10 : Hid (OwnC w10 w3.heap.size (Value.slice p3 n k3) (xs)) := P3_9.out.later hB
  have P4_10 : Hid (OwnS w10 w4.heap.size (Value.slice p4 m k4) (ys)) := P4_9.out.later hB
  have G2_10 : Hid (OwnU w10 w5.heap.size (Value.slice a2 q c2) (l)) := G2_9.out.later hB
  have z10 : w9.heap.size ≤ w10.heap.size := hB.size
  have P6_10 : Hid (OwnS w10 w9.heap.size (Value.slice p6 m k6) (ys)) := ho
  have I_P6 : Hid (∀ k, (Value.slice p6 m k6).ownBlock = some k → w9.heap.size ≤ k ∧ k < w10.heap.size) := World.ownsRow.lt P6_10.out
  clear hb hB HB_9 RP_9 RQ_9 W1_9 P3_9 P4_9 G2_9 ho
  go_wp2_with fail
  refine (eqStatementS_c p4 p6 m m k4 k6 ys ys _ HY.out HY.out (by omega) (by omega) P4_10.out.rd'.2 P6_10.out.rd'.2).mono ?_
  rw [decide_eq_true rfl]
  rintro e w11 ⟨rfl, hb⟩
  have hB : Below w10.heap.size w10 w11 := hb
  have HB_11 : Hid (Below w.heap.size w w11) := HB_10.out.trans (hB.mono HB_10.out.size)
  have RP_11 : Hid (RdC w11 ao xs) := RP_10.out.later hB
  have RQ_11 : Hid (RdS w11 bo ys) := RQ_10.out.later hB
  have W1_11 : Hid (OwnU w11 w2.heap.size (Value.slice a1 q c1) (l)) := W1_10.out.later hB
  have P3_11 : Hid (OwnC w11 w3.heap.size (Value.slice p3 n k3) (xs)) := P3_10.out.later hB
  have P4_11 : Hid (OwnS w11 w4.heap.size (Value.slice p4 m k4) (ys)) := P4_10.out.later hB
  have G2_11 : Hid (OwnU w11 w5.heap.size (Value.slice a2 q c2) (l)) := G2_10.out.later hB
  have z11 : w10.heap.size ≤ w11.heap.size := hB.size
  clear hb hB HB_10 RP_10 RQ_10 W1_10 P3_10 P4_10 G2_10 P6_10 
  go_wp2_with fail
  refine (markClaimS_c p3 n k3 1 w3.heap.size xs _ (by omega) (by omega) P3_11.out).mono ?_
  rintro e w12 ⟨rfl, ho, hg⟩
  have z12 : w11.heap.size ≤ w12.heap.size := hg.size
  have HB_12 : Hid (Below w.heap.size w w12) := Below.grown HB_11.out hg (by have := HB_11.out.size; omega) (fun k e => by have := I_P3.out k e; have := HB_11.out.size; omega)
  have W1_12 : Hid (OwnU w12 w2.heap.size (Value.slice a1 q c1) (l)) := W1_11.out.kept hg (own_sep I_W1.out I_P3.out (by omega))
  have P4_12 : Hid (OwnS w12 w4.heap.size (Value.slice p4 m k4) (ys)) := P4_11.out.kept hg (own_sep I_P4.out I_P3.out (by omega))
  have G2_12 : Hid (OwnU w12 w5.heap.size (Value.slice a2 q c2) (l)) := G2_11.out.kept hg (own_sep I_G2.out I_P3.out (by omega))
  have P3_12 : Hid (OwnC w12 w3.heap.size (Value.slice p3 n k3) (marksC 1 n)) := ho
  clear hg ho HB_11 RP_11 RQ_11 W1_11 P3_11 P4_11 G2_11
  have RP_12 : Hid (RdC w12 ao xs) := HR0.out.later HB_12.out
  have RQ_12 : Hid (RdS w12 bo ys) := HS0.out.later HB_12.out
  go_wp2_with fail
  refine (markStatementS_c p4 m k4 (1 + 3 * n) w4.heap.size ys _ (by omega) (by omega) P4_12.out).mono ?_
  rw [HMo.out]
  rintro e w13 ⟨rfl, ho, hg⟩
  have z13 : w12.heap.size ≤ w13.heap.size := hg.size
  have HB_13 : Hid (Below w.heap.size w w13) := Below.grown HB_12.out hg (by have := HB_12.out.size; omega) (fun k e => by have := I_P4.out k e; have := HB_12.out.size; omega)
  have W1_13 : Hid (OwnU w13 w2.heap.size (Value.slice a1 q c1) (l)) := W1_12.out.kept hg (own_sep I_W1.out I_P4.out (by omega))
  have P3_13 : Hid (OwnC w13 w3.heap.size (Value.slice p3 n k3) (marksC 1 n)) := P3_12.out.kept hg (own_sep I_P3.out I_P4.out (by omega))
  have G2_13 : Hid (OwnU w13 w5.heap.size (Value.slice a2 q c2) (l)) := G2_12.out.kept hg (own_sep I_G2.out I_P4.out (by omega))
  have P4_13 : Hid (OwnS w13 w4.heap.size (Value.slice p4 m k4) (marksS (1 + 3 * n) m)) := ho
  clear hg ho HB_12 W1_12 P3_12 P4_12 G2_12 RP_12 RQ_12
  have RP_13 : Hid (RdC w13 ao xs) := HR0.out.later HB_13.out
  have RQ_13 : Hid (RdS w13 bo ys) := HS0.out.later HB_13.out
  go_wp2_with fail
  refine (eqTallyS_c a2 a1 q q c2 c1 l l _ HL.out HL.out (by omega) (by omega) G2_13.out.rd'.2 W1_13.out.rd'.2).mono ?_
  rw [decide_eq_true rfl]
  rintro e w14 ⟨rfl, hb⟩
  have hB : Below w13.heap.size w13 w14 := hb
  have HB_14 : Hid (Below w.heap.size w w14) := HB_13.out.trans (hB.mono HB_13.out.size)
  have W1_14 : Hid (OwnU w14 w2.heap.size (Value.slice a1 q c1) (l)) := W1_13.out.later hB
  have P3_14 : Hid (OwnC w14 w3.heap.size (Value.slice p3 n k3) (marksC 1 n)) := P3_13.out.later hB
  have P4_14 : Hid (OwnS w14 w4.heap.size (Value.slice p4 m k4) (marksS (1 + 3 * n) m)) := P4_13.out.later hB
  have G2_14 : Hid (OwnU w14 w5.heap.size (Value.slice a2 q c2) (l)) := G2_13.out.later hB
  have RP_14 : Hid (RdC w14 ao xs) := RP_13.out.later hB
  have RQ_14 : Hid (RdS w14 bo ys) := RQ_13.out.later hB
  have z14 : w13.heap.size ≤ w14.heap.size := hB.size
  clear hb hB HB_13 W1_13 P3_13 P4_13 G2_13 RP_13 RQ_13 
  go_wp2_with fail
  refine (markTallyS_c a2 q c2 1 w5.heap.size l _ (by omega) (by omega) G2_14.out).mono ?_
  rw [HM.out]
  rintro e w15 ⟨rfl, ho, hg⟩
  have z15 : w14.heap.size ≤ w15.heap.size := hg.size
  have HB_15 : Hid (Below w.heap.size w w15) := Below.grown HB_14.out hg (by have := HB_14.out.size; omega) (fun k e => by have := I_G2.out k e; have := HB_14.out.size; omega)
  have W1_15 : Hid (OwnU w15 w2.heap.size (Value.slice a1 q c1) (l)) := W1_14.out.kept hg (own_sep I_W1.out I_G2.out (by omega))
  have P3_15 : Hid (OwnC w15 w3.heap.size (Value.slice p3 n k3) (marksC 1 n)) := P3_14.out.kept hg (own_sep I_P3.out I_G2.out (by omega))
  have P4_15 : Hid (OwnS w15 w4.heap.size (Value.slice p4 m k4) (marksS (1 + 3 * n) m)) := P4_14.out.kept hg (own_sep I_P4.out I_G2.out (by omega))
  have G2_15 : Hid (OwnU w15 w5.heap.size (Value.slice a2 q c2) (marksU 1 q)) := ho
  clear hg ho HB_14 W1_14 P3_14 P4_14 G2_14 RP_14 RQ_14
  have RP_15 : Hid (RdC w15 ao xs) := HR0.out.later HB_15.out
  have RQ_15 : Hid (RdS w15 bo ys) := HS0.out.later HB_15.out
  go_wp2_with fail
  refine (heldTallyS_c a2 q c2 1 w5.heap.size _ (by omega) (by omega) G2_15.out).mono ?_
  rw [HM.out]
  rintro e w16 ⟨rfl, hb⟩
  have hB : Below w15.heap.size w15 w16 := hb
  have HB_16 : Hid (Below w.heap.size w w16) := HB_15.out.trans (hB.mono HB_15.out.size)
  have W1_16 : Hid (OwnU w16 w2.heap.size (Value.slice a1 q c1) (l)) := W1_15.out.later hB
  have P3_16 : Hid (OwnC w16 w3.heap.size (Value.slice p3 n k3) (marksC 1 n)) := P3_15.out.later hB
  have P4_16 : Hid (OwnS w16 w4.heap.size (Value.slice p4 m k4) (marksS (1 + 3 * n) m)) := P4_15.out.later hB
  have G2_16 : Hid (OwnU w16 w5.heap.size (Value.slice a2 q c2) (marksU 1 q)) := G2_15.out.later hB
  have RP_16 : Hid (RdC w16 ao xs) := RP_15.out.later hB
  have RQ_16 : Hid (RdS w16 bo ys) := RQ_15.out.later hB
  have z16 : w15.heap.size ≤ w16.heap.size := hB.size
  clear hb hB HB_15 W1_15 P3_15 P4_15 G2_15 RP_15 RQ_15 
  go_wp2_with fail
  refine (toClaimS_c ao n c xs _ HX.out hn RP_16.out).mono ?_
  rintro e w17 ⟨p7, k7, rfl, ho, hb⟩
  have hB : Below w16.heap.size w16 w17 := hb
  have HB_17 : Hid (Below w.heap.size w w17) := HB_16.out.trans (hB.mono HB_16.out.size)
  have W1_17 : Hid (OwnU w17 w2.heap.size (Value.slice a1 q c1) (l)) := W1_16.out.later hB
  have P3_17 : Hid (OwnC w17 w3.heap.size (Value.slice p3 n k3) (marksC 1 n)) := P3_16.out.later hB
  have P4_17 : Hid (OwnS w17 w4.heap.size (Value.slice p4 m k4) (marksS (1 + 3 * n) m)) := P4_16.out.later hB
  have G2_17 : Hid (OwnU w17 w5.heap.size (Value.slice a2 q c2) (marksU 1 q)) := G2_16.out.later hB
  have RP_17 : Hid (RdC w17 ao xs) := RP_16.out.later hB
  have RQ_17 : Hid (RdS w17 bo ys) := RQ_16.out.later hB
  have z17 : w16.heap.size ≤ w17.heap.size := hB.size
  have P7_17 : Hid (OwnC w17 w16.heap.size (Value.slice p7 n k7) (xs)) := ho
  have I_P7 : Hid (∀ k, (Value.slice p7 n k7).ownBlock = some k → w16.heap.size ≤ k ∧ k < w17.heap.size) := World.ownsRow.lt P7_17.out
  clear hb hB HB_16 W1_16 P3_16 P4_16 G2_16 RP_16 RQ_16 ho
  go_wp2_with fail
  refine (toStatementS_c bo m d ys _ HY.out hm RQ_17.out).mono ?_
  rintro e w18 ⟨p8, k8, rfl, ho, hb⟩
  have hB : Below w17.heap.size w17 w18 := hb
  have HB_18 : Hid (Below w.heap.size w w18) := HB_17.out.trans (hB.mono HB_17.out.size)
  have W1_18 : Hid (OwnU w18 w2.heap.size (Value.slice a1 q c1) (l)) := W1_17.out.later hB
  have P3_18 : Hid (OwnC w18 w3.heap.size (Value.slice p3 n k3) (marksC 1 n)) := P3_17.out.later hB
  have P4_18 : Hid (OwnS w18 w4.heap.size (Value.slice p4 m k4) (marksS (1 + 3 * n) m)) := P4_17.out.later hB
  have G2_18 : Hid (OwnU w18 w5.heap.size (Value.slice a2 q c2) (marksU 1 q)) := G2_17.out.later hB
  have RP_18 : Hid (RdC w18 ao xs) := RP_17.out.later hB
  have RQ_18 : Hid (RdS w18 bo ys) := RQ_17.out.later hB
  have P7_18 : Hid (OwnC w18 w16.heap.size (Value.slice p7 n k7) (xs)) := P7_17.out.later hB
  have z18 : w17.heap.size ≤ w18.heap.size := hB.size
  have P8_18 : Hid (OwnS w18 w17.heap.size (Value.slice p8 m k8) (ys)) := ho
  have I_P8 : Hid (∀ k, (Value.slice p8 m k8).ownBlock = some k → w17.heap.size ≤ k ∧ k < w18.heap.size) := World.ownsRow.lt P8_18.out
  clear hb hB HB_17 W1_17 P3_17 P4_17 G2_17 RP_17 RQ_17 P7_17 ho
  go_wp2_with fail
  refine (HQI.out p7 k7 p8 k8 _ hn hm (OwnC.cap P7_18.out) P7_18.out.rd'.2 P8_18.out.rd'.2).mono ?_
  rintro e w19 ⟨a4, c4, rfl, ho, hb⟩
  have hB : Below w18.heap.size w18 w19 := hb
  have HB_19 : Hid (Below w.heap.size w w19) := HB_18.out.trans (hB.mono HB_18.out.size)
  have W1_19 : Hid (OwnU w19 w2.heap.size (Value.slice a1 q c1) (l)) := W1_18.out.later hB
  have P3_19 : Hid (OwnC w19 w3.heap.size (Value.slice p3 n k3) (marksC 1 n)) := P3_18.out.later hB
  have P4_19 : Hid (OwnS w19 w4.heap.size (Value.slice p4 m k4) (marksS (1 + 3 * n) m)) := P4_18.out.later hB
  have G2_19 : Hid (OwnU w19 w5.heap.size (Value.slice a2 q c2) (marksU 1 q)) := G2_18.out.later hB
  have RP_19 : Hid (RdC w19 ao xs) := RP_18.out.later hB
  have RQ_19 : Hid (RdS w19 bo ys) := RQ_18.out.later hB
  have z19 : w18.heap.size ≤ w19.heap.size := hB.size
  have H4_19 : Hid (OwnU w19 w18.heap.size (Value.slice a4 q c4) (l)) := ho
  have I_H4 : Hid (∀ k, (Value.slice a4 q c4).ownBlock = some k → w18.heap.size ≤ k ∧ k < w19.heap.size) := World.ownsRow.lt H4_19.out
  clear hb hB HB_18 W1_18 P3_18 P4_18 G2_18 RP_18 RQ_18 P7_18 P8_18 ho
  go_wp2_with fail
  refine (eqTallyS_c a4 a1 q q c4 c1 l l _ HL.out HL.out (by omega) (by omega) H4_19.out.rd'.2 W1_19.out.rd'.2).mono ?_
  rw [decide_eq_true rfl]
  rintro e w20 ⟨rfl, hb⟩
  have hB : Below w19.heap.size w19 w20 := hb
  have HB_20 : Hid (Below w.heap.size w w20) := HB_19.out.trans (hB.mono HB_19.out.size)
  have W1_20 : Hid (OwnU w20 w2.heap.size (Value.slice a1 q c1) (l)) := W1_19.out.later hB
  have P3_20 : Hid (OwnC w20 w3.heap.size (Value.slice p3 n k3) (marksC 1 n)) := P3_19.out.later hB
  have P4_20 : Hid (OwnS w20 w4.heap.size (Value.slice p4 m k4) (marksS (1 + 3 * n) m)) := P4_19.out.later hB
  have G2_20 : Hid (OwnU w20 w5.heap.size (Value.slice a2 q c2) (marksU 1 q)) := G2_19.out.later hB
  have RP_20 : Hid (RdC w20 ao xs) := RP_19.out.later hB
  have RQ_20 : Hid (RdS w20 bo ys) := RQ_19.out.later hB
  have H4_20 : Hid (OwnU w20 w18.heap.size (Value.slice a4 q c4) (l)) := H4_19.out.later hB
  have z20 : w19.heap.size ≤ w20.heap.size := hB.size
  clear hb hB HB_19 W1_19 P3_19 P4_19 G2_19 RP_19 RQ_19 H4_19 
  go_wp2_with fail
  refine (heldTallyS_c a2 q c2 1 w5.heap.size _ (by omega) (by omega) G2_20.out).mono ?_
  rw [HM.out]
  rintro e w21 ⟨rfl, hb⟩
  have hB : Below w20.heap.size w20 w21 := hb
  have HB_21 : Hid (Below w.heap.size w w21) := HB_20.out.trans (hB.mono HB_20.out.size)
  have W1_21 : Hid (OwnU w21 w2.heap.size (Value.slice a1 q c1) (l)) := W1_20.out.later hB
  have P3_21 : Hid (OwnC w21 w3.heap.size (Value.slice p3 n k3) (marksC 1 n)) := P3_20.out.later hB
  have P4_21 : Hid (OwnS w21 w4.heap.size (Value.slice p4 m k4) (marksS (1 + 3 * n) m)) := P4_20.out.later hB
  have G2_21 : Hid (OwnU w21 w5.heap.size (Value.slice a2 q c2) (marksU 1 q)) := G2_20.out.later hB
  have RP_21 : Hid (RdC w21 ao xs) := RP_20.out.later hB
  have RQ_21 : Hid (RdS w21 bo ys) := RQ_20.out.later hB
  have H4_21 : Hid (OwnU w21 w18.heap.size (Value.slice a4 q c4) (l)) := H4_20.out.later hB
  have z21 : w20.heap.size ≤ w21.heap.size := hB.size
  clear hb hB HB_20 W1_20 P3_20 P4_20 G2_20 RP_20 RQ_20 H4_20 
  go_wp2
  go_ret
  exact ⟨rfl, HB_21.out⟩

end Go.Proofs.YtleddlfojogdiaaGreat
