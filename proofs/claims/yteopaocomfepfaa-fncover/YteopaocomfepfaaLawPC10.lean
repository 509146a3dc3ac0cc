/- The law on PlayCover, walked: it answers true at every argument and turns nothing that was there. -/
import Derived.Test.YteopaocomfepfaaSP10
import Derived.Test.YteopaocomfepfaaER10
namespace Go.Proofs.Yteopaocomfepfaa
set_option linter.unusedVariables false
set_option maxRecDepth 1000000
set_option linter.unusedSimpArgs false
open Go.RowKit

set_option maxHeartbeats 16000000 in
theorem lawPlayC_c (i0 : Int) (lo : Option Addr) (ln lc : Nat) (ls : List (Int × ByteArray)) (w : World) (hw0 : -9223372036854775808 ≤ i0 ∧ i0 ≤ 9223372036854775807) (hx : ls.length = ln) (hn0 : ln ≤ 9223372036854775807) (hr : RdK w lo ls) (hz : ∀ x ∈ ls, x.2.size ≤ 9223372036854775807) :
    Calls Try.prog 8 #[.int .i64 i0, .slice lo ln lc] w fun e w' => e = .returned (.bool true) ∧ Below w.heap.size w w' := by
  obtain ⟨em, tx, did, fb, hF⟩ : ∃ em tx did fb, playF i0 ls = (em, tx, did, fb) := ⟨_, _, _, _, rfl⟩
  obtain ⟨hp8, htl, hd8⟩ := playF_len hF
  obtain ⟨p, hp⟩ : ∃ p, em.length = p := ⟨_, rfl⟩
  obtain ⟨d, hd⟩ : ∃ d, did.length = d := ⟨_, rfl⟩
  rw [hp] at hp8 htl
  rw [hd] at hd8
  have qs : ∀ p' k' wx, ln ≤ 1048576 → RdK wx p' ls → _ := fun p' k' wx hn h => play_both specPlay_yes specPlay_no i0 p' ln k' ls wx hx (by omega) h hz em tx did fb hF p d hp hd
  have qi : ∀ p' k' wx, ln ≤ 1048576 → RdK wx p' ls → _ := fun p' k' wx hn h => play_both implPlay_yes implPlay_no i0 p' ln k' ls wx hx (by omega) h hz em tx did fb hF p d hp hd
  have HE : Hid (em.length = p) := hp
  have HT : Hid (tx.length = p) := htl
  have HD : Hid (did.length = d) := hd
  have HX : Hid (ls.length = ln) := hx
  have HZ : Hid (∀ x ∈ ls, x.2.size ≤ 9223372036854775807) := hz
  have HR0 : Hid (RdK w lo ls) := hr
  obtain ⟨y1, hy1⟩ : ∃ y1 : Int, ((1 + 3 * p : Nat) : Int) = y1 := ⟨_, rfl⟩
  obtain ⟨y2, hy2⟩ : ∃ y2 : Int, y1 + (p : Int) = y2 := ⟨_, rfl⟩
  obtain ⟨y3, hy3⟩ : ∃ y3 : Int, y2 + (d : Int) = y3 := ⟨_, rfl⟩
  have HZ1 : Hid (((1 + 3 * p : Nat) : Int) = y1) := hy1
  have HZ2 : Hid (y1 + (p : Int) = y2) := hy2
  have HZ3 : Hid (y2 + (d : Int) = y3) := hy3
  have hb1 : 0 ≤ y1 ∧ y1 ≤ 1000 := by omega
  have hb2 : 0 ≤ y2 ∧ y2 ≤ 1000 := by omega
  have hb3 : 0 ≤ y3 ∧ y3 ≤ 1000 := by omega
  have hn1 : ¬ y1 < 0 := by omega
  have hn2 : ¬ y2 < 0 := by omega
  have hn3 : ¬ y3 < 0 := by omega
  have hfb : (fb != fb) = false := by simp
  have hmm : (y3 != y3) = false := by simp
  have hmo : ¬ ((1 + 2 * ln : Nat) : Int) < 0 := by omega
  clear hF hp hd htl hx hz hy1 hy2 hy3
  have HB_0 : Hid (Below w.heap.size w w) := Below.refl _ _
  have RL_0 : Hid (RdK w lo ls) := hr
  clear hr
  go_enter Try.func8, Try.ntmps8
  go_wp2_with fail
  refine (szCoverStepS_c lo ln lc 1048576 ls _ HX.out hn0 (by omega) HZ.out RL_0.out).mono ?_
  rintro e w1 ⟨r, rfl, hb, hr1, hr2⟩
  have hB : Below w.heap.size w w1 := hb
  have HB_1 : Hid (Below w.heap.size w w1) := HB_0.out.trans (hB.mono HB_0.out.size)
  have RL_1 : Hid (RdK w1 lo ls) := RL_0.out.later hB
  have z1 : w.heap.size ≤ w1.heap.size := hB.size
  clear hb hB HB_0 RL_0 
  by_cases hr0 : r < 0
  · go_wp2
    go_ret
    exact ⟨rfl, HB_1.out⟩
  have hn : ln ≤ 1048576 := hr2 (by omega)
  have hrn : ¬ r < 0 := hr0
  clear hr1 hr2 hr0
  go_wp2_with fail
  refine (toCoverStepS_c lo ln lc ls _ HX.out hn RL_1.out).mono ?_
  rintro e w2 ⟨p1, k1, rfl, ho, hb⟩
  have hB : Below w1.heap.size w1 w2 := hb
  have HB_2 : Hid (Below w.heap.size w w2) := HB_1.out.trans (hB.mono HB_1.out.size)
  have RL_2 : Hid (RdK w2 lo ls) := RL_1.out.later hB
  have z2 : w1.heap.size ≤ w2.heap.size := hB.size
  have P1_2 : Hid (OwnK w2 w1.heap.size (Value.slice p1 ln k1) (ls)) := ho
  have I_P1 : Hid (∀ k, (Value.slice p1 ln k1).ownBlock = some k → w1.heap.size ≤ k ∧ k < w2.heap.size) := World.ownsRow.lt P1_2.out
  clear hb hB HB_1 RL_1 ho
  go_wp2_with fail
  refine (qs p1 k1 _ hn P1_2.out.rd'.2).mono ?_
  rintro e w3 ⟨e1, ec1, s1, sc1, b1, bc1, rfl, hoe, hos, hob, hb⟩
  have hB : Below w2.heap.size w2 w3 := hb
  have HB_3 : Hid (Below w.heap.size w w3) := HB_2.out.trans (hB.mono HB_2.out.size)
  have RL_3 : Hid (RdK w3 lo ls) := RL_2.out.later hB
  have z3 : w2.heap.size ≤ w3.heap.size := hB.size
  have WE_3 : Hid (OwnE w3 w2.heap.size (Value.slice e1 p ec1) (em)) := hoe
  have I_WE : Hid (∀ k, (Value.slice e1 p ec1).ownBlock = some k → w2.heap.size ≤ k ∧ k < w3.heap.size) := World.ownsRow.lt WE_3.out
  have WS_3 : Hid (OwnS w3 w2.heap.size (Value.slice s1 p sc1) (tx)) := hos
  have I_WS : Hid (∀ k, (Value.slice s1 p sc1).ownBlock = some k → w2.heap.size ≤ k ∧ k < w3.heap.size) := World.ownsRow.lt WS_3.out
  have WB_3 : Hid (OwnB w3 w2.heap.size (Value.slice b1 d bc1) (did)) := hob
  have I_WB : Hid (∀ k, (Value.slice b1 d bc1).ownBlock = some k → w2.heap.size ≤ k ∧ k < w3.heap.size) := World.ownsRow.lt WB_3.out
  clear hb hB HB_2 RL_2 P1_2 hoe hos hob
  go_wp2_with fail
  refine (toCoverStepS_c lo ln lc ls _ HX.out hn RL_3.out).mono ?_
  rintro e w4 ⟨p2, k2, rfl, ho, hb⟩
  have hB : Below w3.heap.size w3 w4 := hb
  have HB_4 : Hid (Below w.heap.size w w4) := HB_3.out.trans (hB.mono HB_3.out.size)
  have RL_4 : Hid (RdK w4 lo ls) := RL_3.out.later hB
  have WE_4 : Hid (OwnE w4 w2.heap.size (Value.slice e1 p ec1) (em)) := WE_3.out.later hB
  have WS_4 : Hid (OwnS w4 w2.heap.size (Value.slice s1 p sc1) (tx)) := WS_3.out.later hB
  have WB_4 : Hid (OwnB w4 w2.heap.size (Value.slice b1 d bc1) (did)) := WB_3.out.later hB
  have z4 : w3.heap.size ≤ w4.heap.size := hB.size
  have P2_4 : Hid (OwnK w4 w3.heap.size (Value.slice p2 ln k2) (ls)) := ho
  have I_P2 : Hid (∀ k, (Value.slice p2 ln k2).ownBlock = some k → w3.heap.size ≤ k ∧ k < w4.heap.size) := World.ownsRow.lt P2_4.out
  clear hb hB HB_3 RL_3 WE_3 WS_3 WB_3 ho
  go_wp2_with fail
  refine (qi p2 k2 _ hn P2_4.out.rd'.2).mono ?_
  rintro e w5 ⟨e2, ec2, s2, sc2, b2, bc2, rfl, hoe, hos, hob, hb⟩
  have hB : Below w4.heap.size w4 w5 := hb
  have HB_5 : Hid (Below w.heap.size w w5) := HB_4.out.trans (hB.mono HB_4.out.size)
  have RL_5 : Hid (RdK w5 lo ls) := RL_4.out.later hB
  have WE_5 : Hid (OwnE w5 w2.heap.size (Value.slice e1 p ec1) (em)) := WE_4.out.later hB
  have WS_5 : Hid (OwnS w5 w2.heap.size (Value.slice s1 p sc1) (tx)) := WS_4.out.later hB
  have WB_5 : Hid (OwnB w5 w2.heap.size (Value.slice b1 d bc1) (did)) := WB_4.out.later hB
  have P2_5 : Hid (OwnK w5 w3.heap.size (Value.slice p2 ln k2) (ls)) := P2_4.out.later hB
  have z5 : w4.heap.size ≤ w5.heap.size := hB.size
  have GE_5 : Hid (OwnE w5 w4.heap.size (Value.slice e2 p ec2) (em)) := hoe
  have I_GE : Hid (∀ k, (Value.slice e2 p ec2).ownBlock = some k → w4.heap.size ≤ k ∧ k < w5.heap.size) := World.ownsRow.lt GE_5.out
  have GS_5 : Hid (OwnS w5 w4.heap.size (Value.slice s2 p sc2) (tx)) := hos
  have I_GS : Hid (∀ k, (Value.slice s2 p sc2).ownBlock = some k → w4.heap.size ≤ k ∧ k < w5.heap.size) := World.ownsRow.lt GS_5.out
  have GB_5 : Hid (OwnB w5 w4.heap.size (Value.slice b2 d bc2) (did)) := hob
  have I_GB : Hid (∀ k, (Value.slice b2 d bc2).ownBlock = some k → w4.heap.size ≤ k ∧ k < w5.heap.size) := World.ownsRow.lt GB_5.out
  clear hb hB HB_4 RL_4 WE_4 WS_4 WB_4 P2_4 hoe hos hob
  have SPSE : Hid ((Value.slice s2 p sc2).ownBlock = none ∨ (Value.slice s2 p sc2).ownBlock ≠ (Value.slice e2 p ec2).ownBlock) := row_sepT GS_5.out GE_5.out (by decide)
  have SPBE : Hid ((Value.slice b2 d bc2).ownBlock = none ∨ (Value.slice b2 d bc2).ownBlock ≠ (Value.slice e2 p ec2).ownBlock) := row_sepT GB_5.out GE_5.out (by decide)
  have SPES : Hid ((Value.slice e2 p ec2).ownBlock = none ∨ (Value.slice e2 p ec2).ownBlock ≠ (Value.slice s2 p sc2).ownBlock) := row_sepT GE_5.out GS_5.out (by decide)
  have SPBS : Hid ((Value.slice b2 d bc2).ownBlock = none ∨ (Value.slice b2 d bc2).ownBlock ≠ (Value.slice s2 p sc2).ownBlock) := row_sepT GB_5.out GS_5.out (by decide)
  have SPEB : Hid ((Value.slice e2 p ec2).ownBlock = none ∨ (Value.slice e2 p ec2).ownBlock ≠ (Value.slice b2 d bc2).ownBlock) := row_sepT GE_5.out GB_5.out (by decide)
  have SPSB : Hid ((Value.slice s2 p sc2).ownBlock = none ∨ (Value.slice s2 p sc2).ownBlock ≠ (Value.slice b2 d bc2).ownBlock) := row_sepT GS_5.out GB_5.out (by decide)
  go_wp2_with fail
  refine (eqEmitS_c e2 e1 p p ec2 ec1 em em _ HE.out HE.out (by omega) (by omega) GE_5.out.rd'.2 WE_5.out.rd'.2).mono ?_
  rw [decide_eq_true rfl]
  rintro e w6 ⟨rfl, hb⟩
  have hB : Below w5.heap.size w5 w6 := hb
  have HB_6 : Hid (Below w.heap.size w w6) := HB_5.out.trans (hB.mono HB_5.out.size)
  have RL_6 : Hid (RdK w6 lo ls) := RL_5.out.later hB
  have WE_6 : Hid (OwnE w6 w2.heap.size (Value.slice e1 p ec1) (em)) := WE_5.out.later hB
  have WS_6 : Hid (OwnS w6 w2.heap.size (Value.slice s1 p sc1) (tx)) := WS_5.out.later hB
  have WB_6 : Hid (OwnB w6 w2.heap.size (Value.slice b1 d bc1) (did)) := WB_5.out.later hB
  have P2_6 : Hid (OwnK w6 w3.heap.size (Value.slice p2 ln k2) (ls)) := P2_5.out.later hB
  have GE_6 : Hid (OwnE w6 w4.heap.size (Value.slice e2 p ec2) (em)) := GE_5.out.later hB
  have GS_6 : Hid (OwnS w6 w4.heap.size (Value.slice s2 p sc2) (tx)) := GS_5.out.later hB
  have GB_6 : Hid (OwnB w6 w4.heap.size (Value.slice b2 d bc2) (did)) := GB_5.out.later hB
  have z6 : w5.heap.size ≤ w6.heap.size := hB.size
  clear hb hB HB_5 RL_5 WE_5 WS_5 WB_5 P2_5 GE_5 GS_5 GB_5 
  go_wp2_with fail
  refine (eqStringS_c s2 s1 p p sc2 sc1 tx tx _ HT.out HT.out (by omega) (by omega) GS_6.out.rd'.2 WS_6.out.rd'.2).mono ?_
  rw [decide_eq_true rfl]
  rintro e w7 ⟨rfl, hb⟩
  have hB : Below w6.heap.size w6 w7 := hb
  have HB_7 : Hid (Below w.heap.size w w7) := HB_6.out.trans (hB.mono HB_6.out.size)
  have RL_7 : Hid (RdK w7 lo ls) := RL_6.out.later hB
  have WE_7 : Hid (OwnE w7 w2.heap.size (Value.slice e1 p ec1) (em)) := WE_6.out.later hB
  have WS_7 : Hid (OwnS w7 w2.heap.size (Value.slice s1 p sc1) (tx)) := WS_6.out.later hB
  have WB_7 : Hid (OwnB w7 w2.heap.size (Value.slice b1 d bc1) (did)) := WB_6.out.later hB
  have P2_7 : Hid (OwnK w7 w3.heap.size (Value.slice p2 ln k2) (ls)) := P2_6.out.later hB
  have GE_7 : Hid (OwnE w7 w4.heap.size (Value.slice e2 p ec2) (em)) := GE_6.out.later hB
  have GS_7 : Hid (OwnS w7 w4.heap.size (Value.slice s2 p sc2) (tx)) := GS_6.out.later hB
  have GB_7 : Hid (OwnB w7 w4.heap.size (Value.slice b2 d bc2) (did)) := GB_6.out.later hB
  have z7 : w6.heap.size ≤ w7.heap.size := hB.size
  clear hb hB HB_6 RL_6 WE_6 WS_6 WB_6 P2_6 GE_6 GS_6 GB_6 
  go_wp2_with fail
  refine (eqBoolS_c b2 b1 d d bc2 bc1 did did _ HD.out HD.out (by omega) (by omega) GB_7.out.rd'.2 WB_7.out.rd'.2).mono ?_
  rw [decide_eq_true rfl]
  rintro e w8 ⟨rfl, hb⟩
  have hB : Below w7.heap.size w7 w8 := hb
  have HB_8 : Hid (Below w.heap.size w w8) := HB_7.out.trans (hB.mono HB_7.out.size)
  have RL_8 : Hid (RdK w8 lo ls) := RL_7.out.later hB
  have WE_8 : Hid (OwnE w8 w2.heap.size (Value.slice e1 p ec1) (em)) := WE_7.out.later hB
  have WS_8 : Hid (OwnS w8 w2.heap.size (Value.slice s1 p sc1) (tx)) := WS_7.out.later hB
  have WB_8 : Hid (OwnB w8 w2.heap.size (Value.slice b1 d bc1) (did)) := WB_7.out.later hB
  have P2_8 : Hid (OwnK w8 w3.heap.size (Value.slice p2 ln k2) (ls)) := P2_7.out.later hB
  have GE_8 : Hid (OwnE w8 w4.heap.size (Value.slice e2 p ec2) (em)) := GE_7.out.later hB
  have GS_8 : Hid (OwnS w8 w4.heap.size (Value.slice s2 p sc2) (tx)) := GS_7.out.later hB
  have GB_8 : Hid (OwnB w8 w4.heap.size (Value.slice b2 d bc2) (did)) := GB_7.out.later hB
  have z8 : w7.heap.size ≤ w8.heap.size := hB.size
  clear hb hB HB_7 RL_7 WE_7 WS_7 WB_7 P2_7 GE_7 GS_7 GB_7 
  go_wp2_with fail
  refine (toCoverStepS_c lo ln lc ls _ HX.out hn RL_8.out).mono ?_
  rintro e w9 ⟨p3, k3, rfl, ho, hb⟩
  have hB : Below w8.heap.size w8 w9 := hb
  have HB_9 : Hid (Below w.heap.size w w9) := HB_8.out.trans (hB.mono HB_8.out.size)
  have RL_9 : Hid (RdK w9 lo ls) := RL_8.out.later hB
  have WE_9 : Hid (OwnE w9 w2.heap.size (Value.slice e1 p ec1) (em)) := WE_8.out.later hB
  have WS_9 : Hid (OwnS w9 w2.heap.size (Value.slice s1 p sc1) (tx)) := WS_8.out.later hB
  have WB_9 : Hid (OwnB w9 w2.heap.size (Value.slice b1 d bc1) (did)) := WB_8.out.later hB
  have P2_9 : Hid (OwnK w9 w3.heap.size (Value.slice p2 ln k2) (ls)) := P2_8.out.later hB
  have GE_9 : Hid (OwnE w9 w4.heap.size (Value.slice e2 p ec2) (em)) := GE_8.out.later hB
  have GS_9 : Hid (OwnS w9 w4.heap.size (Value.slice s2 p sc2) (tx)) := GS_8.out.later hB
  have GB_9 : Hid (OwnB w9 w4.heap.size (Value.slice b2 d bc2) (did)) := GB_8.out.later hB
  have z9 : w8.heap.size ≤ w9.heap.size := hB.size
  have P3_9 : Hid (OwnK w9 w8.heap.size (Value.slice p3 ln k3) (ls)) := ho
  have I_P3 : Hid (∀ k, (Value.slice p3 ln k3).ownBlock = some k → w8.heap.size ≤ k ∧ k < w9.heap.size) := World.ownsRow.lt P3_9.out
  clear hb hB HB_8 RL_8 WE_8 WS_8 WB_8 P2_8 GE_8 GS_8 GB_8 ho
  go_wp2_with fail
  refine (eqCoverStepS_c p2 p3 ln ln k2 k3 ls ls _ HX.out HX.out (by omega) (by omega) P2_9.out.rd'.2 P3_9.out.rd'.2).mono ?_
  rw [decide_eq_true rfl]
  rintro e w10 ⟨rfl, hb⟩
  have hB : Below w9.heap.size w9 w10 := hb
  have HB_10 : Hid (Below w.heap.size w w10) := HB_9.out.trans (hB.mono HB_9.out.size)
  have RL_10 : Hid (RdK w10 lo ls) := RL_9.out.later hB
  have WE_10 : Hid (OwnE w10 w2.heap.size (Value.slice e1 p ec1) (em)) := WE_9.out.later hB
  have WS_10 : Hid (OwnS w10 w2.heap.size (Value.slice s1 p sc1) (tx)) := WS_9.out.later hB
  have WB_10 : Hid (OwnB w10 w2.heap.size (Value.slice b1 d bc1) (did)) := WB_9.out.later hB
  have P2_10 : Hid (OwnK w10 w3.heap.size (Value.slice p2 ln k2) (ls)) := P2_9.out.later hB
  have GE_10 : Hid (OwnE w10 w4.heap.size (Value.slice e2 p ec2) (em)) := GE_9.out.later hB
  have GS_10 : Hid (OwnS w10 w4.heap.size (Value.slice s2 p sc2) (tx)) := GS_9.out.later hB
  have GB_10 : Hid (OwnB w10 w4.heap.size (Value.slice b2 d bc2) (did)) := GB_9.out.later hB
  have z10 : w9.heap.size ≤ w10.heap.size := hB.size
  clear hb hB HB_9 RL_9 WE_9 WS_9 WB_9 P2_9 GE_9 GS_9 GB_9 P3_9 
  go_wp2_with fail
  refine (markCoverStepS_c p2 ln k2 1 w3.heap.size ls _ hn (by omega) P2_10.out).mono ?_
  rintro e w11 ⟨rfl, ho, hg⟩
  have z11 : w10.heap.size ≤ w11.heap.size := hg.size
  have HB_11 : Hid (Below w.heap.size w w11) := Below.grown HB_10.out hg (by have := HB_10.out.size; omega) (fun k e => by have := I_P2.out k e; have := HB_10.out.size; omega)
  have WE_11 : Hid (OwnE w11 w2.heap.size (Value.slice e1 p ec1) (em)) := WE_10.out.kept hg (own_sep I_WE.out I_P2.out (by omega))
  have WS_11 : Hid (OwnS w11 w2.heap.size (Value.slice s1 p sc1) (tx)) := WS_10.out.kept hg (own_sep I_WS.out I_P2.out (by omega))
  have WB_11 : Hid (OwnB w11 w2.heap.size (Value.slice b1 d bc1) (did)) := WB_10.out.kept hg (own_sep I_WB.out I_P2.out (by omega))
  have GE_11 : Hid (OwnE w11 w4.heap.size (Value.slice e2 p ec2) (em)) := GE_10.out.kept hg (own_sep I_GE.out I_P2.out (by omega))
  have GS_11 : Hid (OwnS w11 w4.heap.size (Value.slice s2 p sc2) (tx)) := GS_10.out.kept hg (own_sep I_GS.out I_P2.out (by omega))
  have GB_11 : Hid (OwnB w11 w4.heap.size (Value.slice b2 d bc2) (did)) := GB_10.out.kept hg (own_sep I_GB.out I_P2.out (by omega))
  have P2_11 : Hid (OwnK w11 w3.heap.size (Value.slice p2 ln k2) (marksK 1 ln)) := ho
  clear hg ho HB_10 RL_10 WE_10 WS_10 WB_10 P2_10 GE_10 GS_10 GB_10
  have RL_11 : Hid (RdK w11 lo ls) := HR0.out.later HB_11.out
  go_wp2_with fail
  refine (eqEmitS_c e2 e1 p p ec2 ec1 em em _ HE.out HE.out (by omega) (by omega) GE_11.out.rd'.2 WE_11.out.rd'.2).mono ?_
  rw [decide_eq_true rfl]
  rintro e w12 ⟨rfl, hb⟩
  have hB : Below w11.heap.size w11 w12 := hb
  have HB_12 : Hid (Below w.heap.size w w12) := HB_11.out.trans (hB.mono HB_11.out.size)
  have WE_12 : Hid (OwnE w12 w2.heap.size (Value.slice e1 p ec1) (em)) := WE_11.out.later hB
  have WS_12 : Hid (OwnS w12 w2.heap.size (Value.slice s1 p sc1) (tx)) := WS_11.out.later hB
  have WB_12 : Hid (OwnB w12 w2.heap.size (Value.slice b1 d bc1) (did)) := WB_11.out.later hB
  have P2_12 : Hid (OwnK w12 w3.heap.size (Value.slice p2 ln k2) (marksK 1 ln)) := P2_11.out.later hB
  have GE_12 : Hid (OwnE w12 w4.heap.size (Value.slice e2 p ec2) (em)) := GE_11.out.later hB
  have GS_12 : Hid (OwnS w12 w4.heap.size (Value.slice s2 p sc2) (tx)) := GS_11.out.later hB
  have GB_12 : Hid (OwnB w12 w4.heap.size (Value.slice b2 d bc2) (did)) := GB_11.out.later hB
  have RL_12 : Hid (RdK w12 lo ls) := RL_11.out.later hB
  have z12 : w11.heap.size ≤ w12.heap.size := hB.size
  clear hb hB HB_11 WE_11 WS_11 WB_11 P2_11 GE_11 GS_11 GB_11 RL_11 
  go_wp2_with fail
  refine (eqStringS_c s2 s1 p p sc2 sc1 tx tx _ HT.out HT.out (by omega) (by omega) GS_12.out.rd'.2 WS_12.out.rd'.2).mono ?_
  rw [decide_eq_true rfl]
  rintro e w13 ⟨rfl, hb⟩
  have hB : Below w12.heap.size w12 w13 := hb
  have HB_13 : Hid (Below w.heap.size w w13) := HB_12.out.trans (hB.mono HB_12.out.size)
  have WE_13 : Hid (OwnE w13 w2.heap.size (Value.slice e1 p ec1) (em)) := WE_12.out.later hB
  have WS_13 : Hid (OwnS w13 w2.heap.size (Value.slice s1 p sc1) (tx)) := WS_12.out.later hB
  have WB_13 : Hid (OwnB w13 w2.heap.size (Value.slice b1 d bc1) (did)) := WB_12.out.later hB
  have P2_13 : Hid (OwnK w13 w3.heap.size (Value.slice p2 ln k2) (marksK 1 ln)) := P2_12.out.later hB
  have GE_13 : Hid (OwnE w13 w4.heap.size (Value.slice e2 p ec2) (em)) := GE_12.out.later hB
  have GS_13 : Hid (OwnS w13 w4.heap.size (Value.slice s2 p sc2) (tx)) := GS_12.out.later hB
  have GB_13 : Hid (OwnB w13 w4.heap.size (Value.slice b2 d bc2) (did)) := GB_12.out.later hB
  have RL_13 : Hid (RdK w13 lo ls) := RL_12.out.later hB
  have z13 : w12.heap.size ≤ w13.heap.size := hB.size
  clear hb hB HB_12 WE_12 WS_12 WB_12 P2_12 GE_12 GS_12 GB_12 RL_12 
  go_wp2_with fail
  refine (eqBoolS_c b2 b1 d d bc2 bc1 did did _ HD.out HD.out (by omega) (by omega) GB_13.out.rd'.2 WB_13.out.rd'.2).mono ?_
  rw [decide_eq_true rfl]
  rintro e w14 ⟨rfl, hb⟩
  have hB : Below w13.heap.size w13 w14 := hb
  have HB_14 : Hid (Below w.heap.size w w14) := HB_13.out.trans (hB.mono HB_13.out.size)
  have WE_14 : Hid (OwnE w14 w2.heap.size (Value.slice e1 p ec1) (em)) := WE_13.out.later hB
  have WS_14 : Hid (OwnS w14 w2.heap.size (Value.slice s1 p sc1) (tx)) := WS_13.out.later hB
  have WB_14 : Hid (OwnB w14 w2.heap.size (Value.slice b1 d bc1) (did)) := WB_13.out.later hB
  have P2_14 : Hid (OwnK w14 w3.heap.size (Value.slice p2 ln k2) (marksK 1 ln)) := P2_13.out.later hB
  have GE_14 : Hid (OwnE w14 w4.heap.size (Value.slice e2 p ec2) (em)) := GE_13.out.later hB
  have GS_14 : Hid (OwnS w14 w4.heap.size (Value.slice s2 p sc2) (tx)) := GS_13.out.later hB
  have GB_14 : Hid (OwnB w14 w4.heap.size (Value.slice b2 d bc2) (did)) := GB_13.out.later hB
  have RL_14 : Hid (RdK w14 lo ls) := RL_13.out.later hB
  have z14 : w13.heap.size ≤ w14.heap.size := hB.size
  clear hb hB HB_13 WE_13 WS_13 WB_13 P2_13 GE_13 GS_13 GB_13 RL_13 
  go_wp2_with fail
  refine (markEmitS_c e2 p ec2 1 w4.heap.size em _ (by omega) (by omega) GE_14.out).mono ?_
  rw [HZ1.out]
  rintro e w15 ⟨rfl, ho, hg⟩
  have z15 : w14.heap.size ≤ w15.heap.size := hg.size
  have HB_15 : Hid (Below w.heap.size w w15) := Below.grown HB_14.out hg (by have := HB_14.out.size; omega) (fun k e => by have := I_GE.out k e; have := HB_14.out.size; omega)
  have WE_15 : Hid (OwnE w15 w2.heap.size (Value.slice e1 p ec1) (em)) := WE_14.out.kept hg (own_sep I_WE.out I_GE.out (by omega))
  have WS_15 : Hid (OwnS w15 w2.heap.size (Value.slice s1 p sc1) (tx)) := WS_14.out.kept hg (own_sep I_WS.out I_GE.out (by omega))
  have WB_15 : Hid (OwnB w15 w2.heap.size (Value.slice b1 d bc1) (did)) := WB_14.out.kept hg (own_sep I_WB.out I_GE.out (by omega))
  have P2_15 : Hid (OwnK w15 w3.heap.size (Value.slice p2 ln k2) (marksK 1 ln)) := P2_14.out.kept hg (own_sep I_P2.out I_GE.out (by omega))
  have GS_15 : Hid (OwnS w15 w4.heap.size (Value.slice s2 p sc2) (tx)) := GS_14.out.kept hg (SPSE.out)
  have GB_15 : Hid (OwnB w15 w4.heap.size (Value.slice b2 d bc2) (did)) := GB_14.out.kept hg (SPBE.out)
  have GE_15 : Hid (OwnE w15 w4.heap.size (Value.slice e2 p ec2) (marksE 1 p)) := ho
  clear hg ho HB_14 WE_14 WS_14 WB_14 P2_14 GE_14 GS_14 GB_14 RL_14
  have RL_15 : Hid (RdK w15 lo ls) := HR0.out.later HB_15.out
  go_wp2_with fail
  refine (markStringS_c s2 p sc2 y1 w4.heap.size tx _ (by omega) (by omega) (by omega) GS_15.out).mono ?_
  rw [HZ2.out]
  rintro e w16 ⟨rfl, ho, hg⟩
  have z16 : w15.heap.size ≤ w16.heap.size := hg.size
  have HB_16 : Hid (Below w.heap.size w w16) := Below.grown HB_15.out hg (by have := HB_15.out.size; omega) (fun k e => by have := I_GS.out k e; have := HB_15.out.size; omega)
  have WE_16 : Hid (OwnE w16 w2.heap.size (Value.slice e1 p ec1) (em)) := WE_15.out.kept hg (own_sep I_WE.out I_GS.out (by omega))
  have WS_16 : Hid (OwnS w16 w2.heap.size (Value.slice s1 p sc1) (tx)) := WS_15.out.kept hg (own_sep I_WS.out I_GS.out (by omega))
  have WB_16 : Hid (OwnB w16 w2.heap.size (Value.slice b1 d bc1) (did)) := WB_15.out.kept hg (own_sep I_WB.out I_GS.out (by omega))
  have P2_16 : Hid (OwnK w16 w3.heap.size (Value.slice p2 ln k2) (marksK 1 ln)) := P2_15.out.kept hg (own_sep I_P2.out I_GS.out (by omega))
  have GE_16 : Hid (OwnE w16 w4.heap.size (Value.slice e2 p ec2) (marksE 1 p)) := GE_15.out.kept hg (SPES.out)
  have GB_16 : Hid (OwnB w16 w4.heap.size (Value.slice b2 d bc2) (did)) := GB_15.out.kept hg (SPBS.out)
  have GS_16 : Hid (OwnS w16 w4.heap.size (Value.slice s2 p sc2) (marksS y1 p)) := ho
  clear hg ho HB_15 WE_15 WS_15 WB_15 P2_15 GE_15 GS_15 GB_15 RL_15
  have RL_16 : Hid (RdK w16 lo ls) := HR0.out.later HB_16.out
  go_wp2_with fail
  refine (markBoolS_c b2 d bc2 y2 w4.heap.size did _ (by omega) (by omega) (by omega) GB_16.out).mono ?_
  rw [HZ3.out]
  rintro e w17 ⟨rfl, ho, hg⟩
  have z17 : w16.heap.size ≤ w17.heap.size := hg.size
  have HB_17 : Hid (Below w.heap.size w w17) := Below.grown HB_16.out hg (by have := HB_16.out.size; omega) (fun k e => by have := I_GB.out k e; have := HB_16.out.size; omega)
  have WE_17 : Hid (OwnE w17 w2.heap.size (Value.slice e1 p ec1) (em)) := WE_16.out.kept hg (own_sep I_WE.out I_GB.out (by omega))
  have WS_17 : Hid (OwnS w17 w2.heap.size (Value.slice s1 p sc1) (tx)) := WS_16.out.kept hg (own_sep I_WS.out I_GB.out (by omega))
  have WB_17 : Hid (OwnB w17 w2.heap.size (Value.slice b1 d bc1) (did)) := WB_16.out.kept hg (own_sep I_WB.out I_GB.out (by omega))
  have P2_17 : Hid (OwnK w17 w3.heap.size (Value.slice p2 ln k2) (marksK 1 ln)) := P2_16.out.kept hg (own_sep I_P2.out I_GB.out (by omega))
  have GE_17 : Hid (OwnE w17 w4.heap.size (Value.slice e2 p ec2) (marksE 1 p)) := GE_16.out.kept hg (SPEB.out)
  have GS_17 : Hid (OwnS w17 w4.heap.size (Value.slice s2 p sc2) (marksS y1 p)) := GS_16.out.kept hg (SPSB.out)
  have GB_17 : Hid (OwnB w17 w4.heap.size (Value.slice b2 d bc2) (marksB y2 d)) := ho
  clear hg ho HB_16 WE_16 WS_16 WB_16 P2_16 GE_16 GS_16 GB_16 RL_16
  have RL_17 : Hid (RdK w17 lo ls) := HR0.out.later HB_17.out
  go_wp2_with fail
  refine (heldEmitS_c e2 p ec2 1 w4.heap.size _ (by omega) (by omega) GE_17.out).mono ?_
  rw [HZ1.out]
  rintro e w18 ⟨rfl, hb⟩
  have hB : Below w17.heap.size w17 w18 := hb
  have HB_18 : Hid (Below w.heap.size w w18) := HB_17.out.trans (hB.mono HB_17.out.size)
  have WE_18 : Hid (OwnE w18 w2.heap.size (Value.slice e1 p ec1) (em)) := WE_17.out.later hB
  have WS_18 : Hid (OwnS w18 w2.heap.size (Value.slice s1 p sc1) (tx)) := WS_17.out.later hB
  have WB_18 : Hid (OwnB w18 w2.heap.size (Value.slice b1 d bc1) (did)) := WB_17.out.later hB
  have P2_18 : Hid (OwnK w18 w3.heap.size (Value.slice p2 ln k2) (marksK 1 ln)) := P2_17.out.later hB
  have GE_18 : Hid (OwnE w18 w4.heap.size (Value.slice e2 p ec2) (marksE 1 p)) := GE_17.out.later hB
  have GS_18 : Hid (OwnS w18 w4.heap.size (Value.slice s2 p sc2) (marksS y1 p)) := GS_17.out.later hB
  have GB_18 : Hid (OwnB w18 w4.heap.size (Value.slice b2 d bc2) (marksB y2 d)) := GB_17.out.later hB
  have RL_18 : Hid (RdK w18 lo ls) := RL_17.out.later hB
  have z18 : w17.heap.size ≤ w18.heap.size := hB.size
  clear hb hB HB_17 WE_17 WS_17 WB_17 P2_17 GE_17 GS_17 GB_17 RL_17 
  go_wp2_with fail
  refine (heldStringS_c s2 p sc2 y1 w4.heap.size _ (by omega) (by omega) (by omega) GS_18.out).mono ?_
  rw [HZ2.out]
  rintro e w19 ⟨rfl, hb⟩
  have hB : Below w18.heap.size w18 w19 := hb
  have HB_19 : Hid (Below w.heap.size w w19) := HB_18.out.trans (hB.mono HB_18.out.size)
  have WE_19 : Hid (OwnE w19 w2.heap.size (Value.slice e1 p ec1) (em)) := WE_18.out.later hB
  have WS_19 : Hid (OwnS w19 w2.heap.size (Value.slice s1 p sc1) (tx)) := WS_18.out.later hB
  have WB_19 : Hid (OwnB w19 w2.heap.size (Value.slice b1 d bc1) (did)) := WB_18.out.later hB
  have P2_19 : Hid (OwnK w19 w3.heap.size (Value.slice p2 ln k2) (marksK 1 ln)) := P2_18.out.later hB
  have GE_19 : Hid (OwnE w19 w4.heap.size (Value.slice e2 p ec2) (marksE 1 p)) := GE_18.out.later hB
  have GS_19 : Hid (OwnS w19 w4.heap.size (Value.slice s2 p sc2) (marksS y1 p)) := GS_18.out.later hB
  have GB_19 : Hid (OwnB w19 w4.heap.size (Value.slice b2 d bc2) (marksB y2 d)) := GB_18.out.later hB
  have RL_19 : Hid (RdK w19 lo ls) := RL_18.out.later hB
  have z19 : w18.heap.size ≤ w19.heap.size := hB.size
  clear hb hB HB_18 WE_18 WS_18 WB_18 P2_18 GE_18 GS_18 GB_18 RL_18 
  go_wp2_with fail
  refine (heldBoolS_c b2 d bc2 y2 w4.heap.size _ (by omega) (by omega) (by omega) GB_19.out).mono ?_
  rw [HZ3.out]
  rintro e w' ⟨rfl, hw⟩
  subst w'
  go_wp2_with fail
  refine (toCoverStepS_c lo ln lc ls _ HX.out hn RL_19.out).mono ?_
  rintro e w20 ⟨p4, k4, rfl, ho, hb⟩
  have hB : Below w19.heap.size w19 w20 := hb
  have HB_20 : Hid (Below w.heap.size w w20) := HB_19.out.trans (hB.mono HB_19.out.size)
  have WE_20 : Hid (OwnE w20 w2.heap.size (Value.slice e1 p ec1) (em)) := WE_19.out.later hB
  have WS_20 : Hid (OwnS w20 w2.heap.size (Value.slice s1 p sc1) (tx)) := WS_19.out.later hB
  have WB_20 : Hid (OwnB w20 w2.heap.size (Value.slice b1 d bc1) (did)) := WB_19.out.later hB
  have P2_20 : Hid (OwnK w20 w3.heap.size (Value.slice p2 ln k2) (marksK 1 ln)) := P2_19.out.later hB
  have GE_20 : Hid (OwnE w20 w4.heap.size (Value.slice e2 p ec2) (marksE 1 p)) := GE_19.out.later hB
  have GS_20 : Hid (OwnS w20 w4.heap.size (Value.slice s2 p sc2) (marksS y1 p)) := GS_19.out.later hB
  have GB_20 : Hid (OwnB w20 w4.heap.size (Value.slice b2 d bc2) (marksB y2 d)) := GB_19.out.later hB
  have RL_20 : Hid (RdK w20 lo ls) := RL_19.out.later hB
  have z20 : w19.heap.size ≤ w20.heap.size := hB.size
  have P4_20 : Hid (OwnK w20 w19.heap.size (Value.slice p4 ln k4) (ls)) := ho
  have I_P4 : Hid (∀ k, (Value.slice p4 ln k4).ownBlock = some k → w19.heap.size ≤ k ∧ k < w20.heap.size) := World.ownsRow.lt P4_20.out
  clear hb hB HB_19 WE_19 WS_19 WB_19 P2_19 GE_19 GS_19 GB_19 RL_19 ho
  go_wp2_with fail
  refine (qi p4 k4 _ hn P4_20.out.rd'.2).mono ?_
  rintro e w21 ⟨e4, ec4, s4, sc4, b4, bc4, rfl, hoe, hos, hob, hb⟩
  have hB : Below w20.heap.size w20 w21 := hb
  have HB_21 : Hid (Below w.heap.size w w21) := HB_20.out.trans (hB.mono HB_20.out.size)
  have WE_21 : Hid (OwnE w21 w2.heap.size (Value.slice e1 p ec1) (em)) := WE_20.out.later hB
  have WS_21 : Hid (OwnS w21 w2.heap.size (Value.slice s1 p sc1) (tx)) := WS_20.out.later hB
  have WB_21 : Hid (OwnB w21 w2.heap.size (Value.slice b1 d bc1) (did)) := WB_20.out.later hB
  have P2_21 : Hid (OwnK w21 w3.heap.size (Value.slice p2 ln k2) (marksK 1 ln)) := P2_20.out.later hB
  have GE_21 : Hid (OwnE w21 w4.heap.size (Value.slice e2 p ec2) (marksE 1 p)) := GE_20.out.later hB
  have GS_21 : Hid (OwnS w21 w4.heap.size (Value.slice s2 p sc2) (marksS y1 p)) := GS_20.out.later hB
  have GB_21 : Hid (OwnB w21 w4.heap.size (Value.slice b2 d bc2) (marksB y2 d)) := GB_20.out.later hB
  have RL_21 : Hid (RdK w21 lo ls) := RL_20.out.later hB
  have z21 : w20.heap.size ≤ w21.heap.size := hB.size
  have QE_21 : Hid (OwnE w21 w20.heap.size (Value.slice e4 p ec4) (em)) := hoe
  have I_QE : Hid (∀ k, (Value.slice e4 p ec4).ownBlock = some k → w20.heap.size ≤ k ∧ k < w21.heap.size) := World.ownsRow.lt QE_21.out
  have QS_21 : Hid (OwnS w21 w20.heap.size (Value.slice s4 p sc4) (tx)) := hos
  have I_QS : Hid (∀ k, (Value.slice s4 p sc4).ownBlock = some k → w20.heap.size ≤ k ∧ k < w21.heap.size) := World.ownsRow.lt QS_21.out
  have QB_21 : Hid (OwnB w21 w20.heap.size (Value.slice b4 d bc4) (did)) := hob
  have I_QB : Hid (∀ k, (Value.slice b4 d bc4).ownBlock = some k → w20.heap.size ≤ k ∧ k < w21.heap.size) := World.ownsRow.lt QB_21.out
  clear hb hB HB_20 WE_20 WS_20 WB_20 P2_20 GE_20 GS_20 GB_20 RL_20 P4_20 hoe hos hob
  go_wp2_with fail
  refine (eqEmitS_c e4 e1 p p ec4 ec1 em em _ HE.out HE.out (by omega) (by omega) QE_21.out.rd'.2 WE_21.out.rd'.2).mono ?_
  rw [decide_eq_true rfl]
  rintro e w22 ⟨rfl, hb⟩
  have hB : Below w21.heap.size w21 w22 := hb
  have HB_22 : Hid (Below w.heap.size w w22) := HB_21.out.trans (hB.mono HB_21.out.size)
  have WE_22 : Hid (OwnE w22 w2.heap.size (Value.slice e1 p ec1) (em)) := WE_21.out.later hB
  have WS_22 : Hid (OwnS w22 w2.heap.size (Value.slice s1 p sc1) (tx)) := WS_21.out.later hB
  have WB_22 : Hid (OwnB w22 w2.heap.size (Value.slice b1 d bc1) (did)) := WB_21.out.later hB
  have P2_22 : Hid (OwnK w22 w3.heap.size (Value.slice p2 ln k2) (marksK 1 ln)) := P2_21.out.later hB
  have GE_22 : Hid (OwnE w22 w4.heap.size (Value.slice e2 p ec2) (marksE 1 p)) := GE_21.out.later hB
  have GS_22 : Hid (OwnS w22 w4.heap.size (Value.slice s2 p sc2) (marksS y1 p)) := GS_21.out.later hB
  have GB_22 : Hid (OwnB w22 w4.heap.size (Value.slice b2 d bc2) (marksB y2 d)) := GB_21.out.later hB
  have RL_22 : Hid (RdK w22 lo ls) := RL_21.out.later hB
  have QE_22 : Hid (OwnE w22 w20.heap.size (Value.slice e4 p ec4) (em)) := QE_21.out.later hB
  have QS_22 : Hid (OwnS w22 w20.heap.size (Value.slice s4 p sc4) (tx)) := QS_21.out.later hB
  have QB_22 : Hid (OwnB w22 w20.heap.size (Value.slice b4 d bc4) (did)) := QB_21.out.later hB
  have z22 : w21.heap.size ≤ w22.heap.size := hB.size
  clear hb hB HB_21 WE_21 WS_21 WB_21 P2_21 GE_21 GS_21 GB_21 RL_21 QE_21 QS_21 QB_21 
  go_wp2_with fail
  refine (eqStringS_c s4 s1 p p sc4 sc1 tx tx _ HT.out HT.out (by omega) (by omega) QS_22.out.rd'.2 WS_22.out.rd'.2).mono ?_
  rw [decide_eq_true rfl]
  rintro e w23 ⟨rfl, hb⟩
  have hB : Below w22.heap.size w22 w23 := hb
  have HB_23 : Hid (Below w.heap.size w w23) := HB_22.out.trans (hB.mono HB_22.out.size)
  have WE_23 : Hid (OwnE w23 w2.heap.size (Value.slice e1 p ec1) (em)) := WE_22.out.later hB
  have WS_23 : Hid (OwnS w23 w2.heap.size (Value.slice s1 p sc1) (tx)) := WS_22.out.later hB
  have WB_23 : Hid (OwnB w23 w2.heap.size (Value.slice b1 d bc1) (did)) := WB_22.out.later hB
  have P2_23 : Hid (OwnK w23 w3.heap.size (Value.slice p2 ln k2) (marksK 1 ln)) := P2_22.out.later hB
  have GE_23 : Hid (OwnE w23 w4.heap.size (Value.slice e2 p ec2) (marksE 1 p)) := GE_22.out.later hB
  have GS_23 : Hid (OwnS w23 w4.heap.size (Value.slice s2 p sc2) (marksS y1 p)) := GS_22.out.later hB
  have GB_23 : Hid (OwnB w23 w4.heap.size (Value.slice b2 d bc2) (marksB y2 d)) := GB_22.out.later hB
  have RL_23 : Hid (RdK w23 lo ls) := RL_22.out.later hB
  have QE_23 : Hid (OwnE w23 w20.heap.size (Value.slice e4 p ec4) (em)) := QE_22.out.later hB
  have QS_23 : Hid (OwnS w23 w20.heap.size (Value.slice s4 p sc4) (tx)) := QS_22.out.later hB
  have QB_23 : Hid (OwnB w23 w20.heap.size (Value.slice b4 d bc4) (did)) := QB_22.out.later hB
  have z23 : w22.heap.size ≤ w23.heap.size := hB.size
  clear hb hB HB_22 WE_22 WS_22 WB_22 P2_22 GE_22 GS_22 GB_22 RL_22 QE_22 QS_22 QB_22 
  go_wp2_with fail
  refine (eqBoolS_c b4 b1 d d bc4 bc1 did did _ HD.out HD.out (by omega) (by omega) QB_23.out.rd'.2 WB_23.out.rd'.2).mono ?_
  rw [decide_eq_true rfl]
  rintro e w24 ⟨rfl, hb⟩
  have hB : Below w23.heap.size w23 w24 := hb
  have HB_24 : Hid (Below w.heap.size w w24) := HB_23.out.trans (hB.mono HB_23.out.size)
  have WE_24 : Hid (OwnE w24 w2.heap.size (Value.slice e1 p ec1) (em)) := WE_23.out.later hB
  have WS_24 : Hid (OwnS w24 w2.heap.size (Value.slice s1 p sc1) (tx)) := WS_23.out.later hB
  have WB_24 : Hid (OwnB w24 w2.heap.size (Value.slice b1 d bc1) (did)) := WB_23.out.later hB
  have P2_24 : Hid (OwnK w24 w3.heap.size (Value.slice p2 ln k2) (marksK 1 ln)) := P2_23.out.later hB
  have GE_24 : Hid (OwnE w24 w4.heap.size (Value.slice e2 p ec2) (marksE 1 p)) := GE_23.out.later hB
  have GS_24 : Hid (OwnS w24 w4.heap.size (Value.slice s2 p sc2) (marksS y1 p)) := GS_23.out.later hB
  have GB_24 : Hid (OwnB w24 w4.heap.size (Value.slice b2 d bc2) (marksB y2 d)) := GB_23.out.later hB
  have RL_24 : Hid (RdK w24 lo ls) := RL_23.out.later hB
  have QE_24 : Hid (OwnE w24 w20.heap.size (Value.slice e4 p ec4) (em)) := QE_23.out.later hB
  have QS_24 : Hid (OwnS w24 w20.heap.size (Value.slice s4 p sc4) (tx)) := QS_23.out.later hB
  have QB_24 : Hid (OwnB w24 w20.heap.size (Value.slice b4 d bc4) (did)) := QB_23.out.later hB
  have z24 : w23.heap.size ≤ w24.heap.size := hB.size
  clear hb hB HB_23 WE_23 WS_23 WB_23 P2_23 GE_23 GS_23 GB_23 RL_23 QE_23 QS_23 QB_23 
  go_wp2_with fail
  refine (heldEmitS_c e2 p ec2 1 w4.heap.size _ (by omega) (by omega) GE_24.out).mono ?_
  rw [HZ1.out]
  rintro e w25 ⟨rfl, hb⟩
  have hB : Below w24.heap.size w24 w25 := hb
  have HB_25 : Hid (Below w.heap.size w w25) := HB_24.out.trans (hB.mono HB_24.out.size)
  have WE_25 : Hid (OwnE w25 w2.heap.size (Value.slice e1 p ec1) (em)) := WE_24.out.later hB
  have WS_25 : Hid (OwnS w25 w2.heap.size (Value.slice s1 p sc1) (tx)) := WS_24.out.later hB
  have WB_25 : Hid (OwnB w25 w2.heap.size (Value.slice b1 d bc1) (did)) := WB_24.out.later hB
  have P2_25 : Hid (OwnK w25 w3.heap.size (Value.slice p2 ln k2) (marksK 1 ln)) := P2_24.out.later hB
  have GE_25 : Hid (OwnE w25 w4.heap.size (Value.slice e2 p ec2) (marksE 1 p)) := GE_24.out.later hB
  have GS_25 : Hid (OwnS w25 w4.heap.size (Value.slice s2 p sc2) (marksS y1 p)) := GS_24.out.later hB
  have GB_25 : Hid (OwnB w25 w4.heap.size (Value.slice b2 d bc2) (marksB y2 d)) := GB_24.out.later hB
  have RL_25 : Hid (RdK w25 lo ls) := RL_24.out.later hB
  have QE_25 : Hid (OwnE w25 w20.heap.size (Value.slice e4 p ec4) (em)) := QE_24.out.later hB
  have QS_25 : Hid (OwnS w25 w20.heap.size (Value.slice s4 p sc4) (tx)) := QS_24.out.later hB
  have QB_25 : Hid (OwnB w25 w20.heap.size (Value.slice b4 d bc4) (did)) := QB_24.out.later hB
  have z25 : w24.heap.size ≤ w25.heap.size := hB.size
  clear hb hB HB_24 WE_24 WS_24 WB_24 P2_24 GE_24 GS_24 GB_24 RL_24 QE_24 QS_24 QB_24 
  go_wp2_with fail
  refine (heldStringS_c s2 p sc2 y1 w4.heap.size _ (by omega) (by omega) (by omega) GS_25.out).mono ?_
  rw [HZ2.out]
  rintro e w26 ⟨rfl, hb⟩
  have hB : Below w25.heap.size w25 w26 := hb
  have HB_26 : Hid (Below w.heap.size w w26) := HB_25.out.trans (hB.mono HB_25.out.size)
  have WE_26 : Hid (OwnE w26 w2.heap.size (Value.slice e1 p ec1) (em)) := WE_25.out.later hB
  have WS_26 : Hid (OwnS w26 w2.heap.size (Value.slice s1 p sc1) (tx)) := WS_25.out.later hB
  have WB_26 : Hid (OwnB w26 w2.heap.size (Value.slice b1 d bc1) (did)) := WB_25.out.later hB
  have P2_26 : Hid (OwnK w26 w3.heap.size (Value.slice p2 ln k2) (marksK 1 ln)) := P2_25.out.later hB
  have GE_26 : Hid (OwnE w26 w4.heap.size (Value.slice e2 p ec2) (marksE 1 p)) := GE_25.out.later hB
  have GS_26 : Hid (OwnS w26 w4.heap.size (Value.slice s2 p sc2) (marksS y1 p)) := GS_25.out.later hB
  have GB_26 : Hid (OwnB w26 w4.heap.size (Value.slice b2 d bc2) (marksB y2 d)) := GB_25.out.later hB
  have RL_26 : Hid (RdK w26 lo ls) := RL_25.out.later hB
  have QE_26 : Hid (OwnE w26 w20.heap.size (Value.slice e4 p ec4) (em)) := QE_25.out.later hB
  have QS_26 : Hid (OwnS w26 w20.heap.size (Value.slice s4 p sc4) (tx)) := QS_25.out.later hB
  have QB_26 : Hid (OwnB w26 w20.heap.size (Value.slice b4 d bc4) (did)) := QB_25.out.later hB
  have z26 : w25.heap.size ≤ w26.heap.size := hB.size
  clear hb hB HB_25 WE_25 WS_25 WB_25 P2_25 GE_25 GS_25 GB_25 RL_25 QE_25 QS_25 QB_25 
  go_wp2_with fail
  refine (heldBoolS_c b2 d bc2 y2 w4.heap.size _ (by omega) (by omega) (by omega) GB_26.out).mono ?_
  rw [HZ3.out]
  rintro e w' ⟨rfl, hw⟩
  subst w'
  go_wp2
  go_ret
  exact ⟨rfl, HB_26.out⟩

end Go.Proofs.Yteopaocomfepfaa
