/- The law on EraseSays, walked: it answers true at every argument and turns nothing that was there. -/
import Derived.Test.YteopaocomfepfaaER10
namespace Go.Proofs.Yteopaocomfepfaa
set_option linter.unusedVariables false
set_option maxRecDepth 1000000
set_option linter.unusedSimpArgs false
open Go.RowKit

set_option maxHeartbeats 16000000 in
theorem lawErase_c (lo : Option Addr) (ln lc : Nat) (ls : List (Int × ByteArray)) (w : World) (hx : ls.length = ln) (hn0 : ln ≤ 9223372036854775807) (hr : RdK w lo ls) (hz : ∀ x ∈ ls, x.2.size ≤ 9223372036854775807) :
    Calls Try.prog 10 #[.slice lo ln lc] w fun e w' => e = .returned (.bool true) ∧ Below w.heap.size w w' := by
  obtain ⟨l, fb, hF⟩ : ∃ l fb, eraseF ls = (l, fb) := ⟨_, _, rfl⟩
  have hp8 : l.length ≤ 80 := by
    unfold eraseF at hF
    split at hF
    · simp only [Prod.mk.injEq] at hF; rw [← hF.1]; exact Nat.le_trans (List.length_filter_le _ _) (by assumption)
    · simp only [Prod.mk.injEq] at hF; rw [← hF.1]; simp
  obtain ⟨p, hp⟩ : ∃ p, l.length = p := ⟨_, rfl⟩
  rw [hp] at hp8
  have qs : ∀ p' k' wx, ln ≤ 1048576 → RdK wx p' ls → _ := fun p' k' wx hn h => specErase_c p' ln k' ls wx hx (by omega) h l fb hF p hp
  have qi : ∀ p' k' wx, ln ≤ 1048576 → RdK wx p' ls → _ := fun p' k' wx hn h => implErase_c p' ln k' ls wx hx (by omega) h l fb hF p hp
  have HL : Hid (l.length = p) := hp
  have HX : Hid (ls.length = ln) := hx
  have HZ : Hid (∀ x ∈ ls, x.2.size ≤ 9223372036854775807) := hz
  have HR0 : Hid (RdK w lo ls) := hr
  have hfb : (fb != fb) = false := by simp
  have hmm : (((1 + 2 * p : Nat) : Int) != ((1 + 2 * p : Nat) : Int)) = false := by simp
  have hmn : ¬ ((1 + 2 * p : Nat) : Int) < 0 := by omega
  have hmo : ¬ ((1 + 2 * ln : Nat) : Int) < 0 := by omega
  clear hF hp hx hz
  have HB_0 : Hid (Below w.heap.size w w) := Below.refl _ _
  have RL_0 : Hid (RdK w lo ls) := hr
  clear hr
  go_enter Try.func10, Try.ntmps10
  go_wp2_with fail
  refine (szCoverStepS_c lo ln lc 1048576 ls _ HX.out hn0 (by omega) HZ.out RL_0.out).mono ?_
  rintro e w1 ⟨r, rfl, hb, hr1, hr2⟩
  have hB : Below w.heap.size w w1 := hb
  have HB_1 : Hid (Below w.heap.size w w1) := HB_0.out.trans (hB.mono HB_0.out.size)
  have RL_1 : Hid (RdK w1 lo ls) := RL_0.out.later hB
  have z1 : w.heap.size ≤ w1.heap.size := hB.size
  clear hb hB HB_0 RL_0 
  by_cases hr0 : r < 0
  · go_wp2
    go_ret
    exact ⟨rfl, HB_1.out⟩
  have hn : ln ≤ 1048576 := hr2 (by omega)
  have hrn : ¬ r < 0 := hr0
  clear hr1 hr2 hr0
  go_wp2_with fail
  refine (toCoverStepS_c lo ln lc ls _ HX.out hn RL_1.out).mono ?_
  rintro e w2 ⟨p1, k1, rfl, ho, hb⟩
  have hB : Below w1.heap.size w1 w2 := hb
  have HB_2 : Hid (Below w.heap.size w w2) := HB_1.out.trans (hB.mono HB_1.out.size)
  have RL_2 : Hid (RdK w2 lo ls) := RL_1.out.later hB
  have z2 : w1.heap.size ≤ w2.heap.size := hB.size
  have P1_2 : Hid (OwnK w2 w1.heap.size (Value.slice p1 ln k1) (ls)) := ho
  have I_P1 : Hid (∀ k, (Value.slice p1 ln k1).ownBlock = some k → w1.heap.size ≤ k ∧ k < w2.heap.size) := World.ownsRow.lt P1_2.out
  clear hb hB HB_1 RL_1 ho
  go_wp2_with fail
  refine (qs p1 k1 _ hn P1_2.out.rd'.2).mono ?_
  rintro e w3 ⟨a1, c1, rfl, ho, hb⟩
  have hB : Below w2.heap.size w2 w3 := hb
  have HB_3 : Hid (Below w.heap.size w w3) := HB_2.out.trans (hB.mono HB_2.out.size)
  have RL_3 : Hid (RdK w3 lo ls) := RL_2.out.later hB
  have z3 : w2.heap.size ≤ w3.heap.size := hB.size
  have W1_3 : Hid (OwnK w3 w2.heap.size (Value.slice a1 p c1) (l)) := ho
  have I_W1 : Hid (∀ k, (Value.slice a1 p c1).ownBlock = some k → w2.heap.size ≤ k ∧ k < w3.heap.size) := World.ownsRow.lt W1_3.out
  clear hb hB HB_2 RL_2 P1_2 ho
  go_wp2_with fail
  refine (toCoverStepS_c lo ln lc ls _ HX.out hn RL_3.out).mono ?_
  rintro e w4 ⟨p2, k2, rfl, ho, hb⟩
  have hB : Below w3.heap.size w3 w4 := hb
  have HB_4 : Hid (Below w.heap.size w w4) := HB_3.out.trans (hB.mono HB_3.out.size)
  have RL_4 : Hid (RdK w4 lo ls) := RL_3.out.later hB
  have W1_4 : Hid (OwnK w4 w2.heap.size (Value.slice a1 p c1) (l)) := W1_3.out.later hB
  have z4 : w3.heap.size ≤ w4.heap.size := hB.size
  have P2_4 : Hid (OwnK w4 w3.heap.size (Value.slice p2 ln k2) (ls)) := ho
  have I_P2 : Hid (∀ k, (Value.slice p2 ln k2).ownBlock = some k → w3.heap.size ≤ k ∧ k < w4.heap.size) := World.ownsRow.lt P2_4.out
  clear hb hB HB_3 RL_3 W1_3 ho
  go_wp2_with fail
  refine (qi p2 k2 _ hn P2_4.out.rd'.2).mono ?_
  rintro e w5 ⟨a2, c2, rfl, ho, hb⟩
  have hB : Below w4.heap.size w4 w5 := hb
  have HB_5 : Hid (Below w.heap.size w w5) := HB_4.out.trans (hB.mono HB_4.out.size)
  have RL_5 : Hid (RdK w5 lo ls) := RL_4.out.later hB
  have W1_5 : Hid (OwnK w5 w2.heap.size (Value.slice a1 p c1) (l)) := W1_4.out.later hB
  have P2_5 : Hid (OwnK w5 w3.heap.size (Value.slice p2 ln k2) (ls)) := P2_4.out.later hB
  have z5 : w4.heap.size ≤ w5.heap.size := hB.size
  have G2_5 : Hid (OwnK w5 w4.heap.size (Value.slice a2 p c2) (l)) := ho
  have I_G2 : Hid (∀ k, (Value.slice a2 p c2).ownBlock = some k → w4.heap.size ≤ k ∧ k < w5.heap.size) := World.ownsRow.lt G2_5.out
  clear hb hB HB_4 RL_4 W1_4 P2_4 ho
  go_wp2_with fail
  refine (eqCoverStepS_c a2 a1 p p c2 c1 l l _ HL.out HL.out (by omega) (by omega) G2_5.out.rd'.2 W1_5.out.rd'.2).mono ?_
  rw [decide_eq_true rfl]
  rintro e w6 ⟨rfl, hb⟩
  have hB : Below w5.heap.size w5 w6 := hb
  have HB_6 : Hid (Below w.heap.size w w6) := HB_5.out.trans (hB.mono HB_5.out.size)
  have RL_6 : Hid (RdK w6 lo ls) := RL_5.out.later hB
  have W1_6 : Hid (OwnK w6 w2.heap.size (Value.slice a1 p c1) (l)) := W1_5.out.later hB
  have P2_6 : Hid (OwnK w6 w3.heap.size (Value.slice p2 ln k2) (ls)) := P2_5.out.later hB
  have G2_6 : Hid (OwnK w6 w4.heap.size (Value.slice a2 p c2) (l)) := G2_5.out.later hB
  have z6 : w5.heap.size ≤ w6.heap.size := hB.size
  clear hb hB HB_5 RL_5 W1_5 P2_5 G2_5 
  go_wp2_with fail
  refine (toCoverStepS_c lo ln lc ls _ HX.out hn RL_6.out).mono ?_
  rintro e w7 ⟨p3, k3, rfl, ho, hb⟩
  have hB : Below w6.heap.size w6 w7 := hb
  have HB_7 : Hid (Below w.heap.size w w7) := HB_6.out.trans (hB.mono HB_6.out.size)
  have RL_7 : Hid (RdK w7 lo ls) := RL_6.out.later hB
  have W1_7 : Hid (OwnK w7 w2.heap.size (Value.slice a1 p c1) (l)) := W1_6.out.later hB
  have P2_7 : Hid (OwnK w7 w3.heap.size (Value.slice p2 ln k2) (ls)) := P2_6.out.later hB
  have G2_7 : Hid (OwnK w7 w4.heap.size (Value.slice a2 p c2) (l)) := G2_6.out.later hB
  have z7 : w6.heap.size ≤ w7.heap.size := hB.size
  have P3_7 : Hid (OwnK w7 w6.heap.size (Value.slice p3 ln k3) (ls)) := ho
  have I_P3 : Hid (∀ k, (Value.slice p3 ln k3).ownBlock = some k → w6.heap.size ≤ k ∧ k < w7.heap.size) := World.ownsRow.lt P3_7.out
  clear hb hB HB_6 RL_6 W1_6 P2_6 G2_6 ho
  go_wp2_with fail
  refine (eqCoverStepS_c p2 p3 ln ln k2 k3 ls ls _ HX.out HX.out (by omega) (by omega) P2_7.out.rd'.2 P3_7.out.rd'.2).mono ?_
  rw [decide_eq_true rfl]
  rintro e w8 ⟨rfl, hb⟩
  have hB : Below w7.heap.size w7 w8 := hb
  have HB_8 : Hid (Below w.heap.size w w8) := HB_7.out.trans (hB.mono HB_7.out.size)
  have RL_8 : Hid (RdK w8 lo ls) := RL_7.out.later hB
  have W1_8 : Hid (OwnK w8 w2.heap.size (Value.slice a1 p c1) (l)) := W1_7.out.later hB
  have P2_8 : Hid (OwnK w8 w3.heap.size (Value.slice p2 ln k2) (ls)) := P2_7.out.later hB
  have G2_8 : Hid (OwnK w8 w4.heap.size (Value.slice a2 p c2) (l)) := G2_7.out.later hB
  have z8 : w7.heap.size ≤ w8.heap.size := hB.size
  clear hb hB HB_7 RL_7 W1_7 P2_7 G2_7 P3_7 
  go_wp2_with fail
  refine (markCoverStepS_c p2 ln k2 1 w3.heap.size ls _ hn (by omega) P2_8.out).mono ?_
  rintro e w9 ⟨rfl, ho, hg⟩
  have z9 : w8.heap.size ≤ w9.heap.size := hg.size
  have HB_9 : Hid (Below w.heap.size w w9) := Below.grown HB_8.out hg (by have := HB_8.out.size; omega) (fun k e => by have := I_P2.out k e; have := HB_8.out.size; omega)
  have W1_9 : Hid (OwnK w9 w2.heap.size (Value.slice a1 p c1) (l)) := W1_8.out.kept hg (own_sep I_W1.out I_P2.out (by omega))
  have G2_9 : Hid (OwnK w9 w4.heap.size (Value.slice a2 p c2) (l)) := G2_8.out.kept hg (own_sep I_G2.out I_P2.out (by omega))
  have P2_9 : Hid (OwnK w9 w3.heap.size (Value.slice p2 ln k2) (marksK 1 ln)) := ho
  clear hg ho HB_8 RL_8 W1_8 P2_8 G2_8
  have RL_9 : Hid (RdK w9 lo ls) := HR0.out.later HB_9.out
  go_wp2_with fail
  refine (eqCoverStepS_c a2 a1 p p c2 c1 l l _ HL.out HL.out (by omega) (by omega) G2_9.out.rd'.2 W1_9.out.rd'.2).mono ?_
  rw [decide_eq_true rfl]
  rintro e w10 ⟨rfl, hb⟩
  have hB : Below w9.heap.size w9 w10 := hb
  have HB_10 : Hid (Below w.heap.size w w10) := HB_9.out.trans (hB.mono HB_9.out.size)
  have W1_10 : Hid (OwnK w10 w2.heap.size (Value.slice a1 p c1) (l)) := W1_9.out.later hB
  have P2_10 : Hid (OwnK w10 w3.heap.size (Value.slice p2 ln k2) (marksK 1 ln)) := P2_9.out.later hB
  have G2_10 : Hid (OwnK w10 w4.heap.size (Value.slice a2 p c2) (l)) := G2_9.out.later hB
  have RL_10 : Hid (RdK w10 lo ls) := RL_9.out.later hB
  have z10 : w9.heap.size ≤ w10.heap.size := hB.size
  clear hb hB HB_9 W1_9 P2_9 G2_9 RL_9 
  go_wp2_with fail
  refine (markCoverStepS_c a2 p c2 1 w4.heap.size l _ (by omega) (by omega) G2_10.out).mono ?_
  rintro e w11 ⟨rfl, ho, hg⟩
  have z11 : w10.heap.size ≤ w11.heap.size := hg.size
  have HB_11 : Hid (Below w.heap.size w w11) := Below.grown HB_10.out hg (by have := HB_10.out.size; omega) (fun k e => by have := I_G2.out k e; have := HB_10.out.size; omega)
  have W1_11 : Hid (OwnK w11 w2.heap.size (Value.slice a1 p c1) (l)) := W1_10.out.kept hg (own_sep I_W1.out I_G2.out (by omega))
  have P2_11 : Hid (OwnK w11 w3.heap.size (Value.slice p2 ln k2) (marksK 1 ln)) := P2_10.out.kept hg (own_sep I_P2.out I_G2.out (by omega))
  have G2_11 : Hid (OwnK w11 w4.heap.size (Value.slice a2 p c2) (marksK 1 p)) := ho
  clear hg ho HB_10 W1_10 P2_10 G2_10 RL_10
  have RL_11 : Hid (RdK w11 lo ls) := HR0.out.later HB_11.out
  go_wp2_with fail
  refine (heldCoverStepS_c a2 p c2 1 w4.heap.size _ (by omega) (by omega) G2_11.out).mono ?_
  rintro e w12 ⟨rfl, hb⟩
  have hB : Below w11.heap.size w11 w12 := hb
  have HB_12 : Hid (Below w.heap.size w w12) := HB_11.out.trans (hB.mono HB_11.out.size)
  have W1_12 : Hid (OwnK w12 w2.heap.size (Value.slice a1 p c1) (l)) := W1_11.out.later hB
  have P2_12 : Hid (OwnK w12 w3.heap.size (Value.slice p2 ln k2) (marksK 1 ln)) := P2_11.out.later hB
  have G2_12 : Hid (OwnK w12 w4.heap.size (Value.slice a2 p c2) (marksK 1 p)) := G2_11.out.later hB
  have RL_12 : Hid (RdK w12 lo ls) := RL_11.out.later hB
  have z12 : w11.heap.size ≤ w12.heap.size := hB.size
  clear hb hB HB_11 W1_11 P2_11 G2_11 RL_11 
  go_wp2_with fail
  refine (toCoverStepS_c lo ln lc ls _ HX.out hn RL_12.out).mono ?_
  rintro e w13 ⟨p4, k4, rfl, ho, hb⟩
  have hB : Below w12.heap.size w12 w13 := hb
  have HB_13 : Hid (Below w.heap.size w w13) := HB_12.out.trans (hB.mono HB_12.out.size)
  have W1_13 : Hid (OwnK w13 w2.heap.size (Value.slice a1 p c1) (l)) := W1_12.out.later hB
  have P2_13 : Hid (OwnK w13 w3.heap.size (Value.slice p2 ln k2) (marksK 1 ln)) := P2_12.out.later hB
  have G2_13 : Hid (OwnK w13 w4.heap.size (Value.slice a2 p c2) (marksK 1 p)) := G2_12.out.later hB
  have RL_13 : Hid (RdK w13 lo ls) := RL_12.out.later hB
  have z13 : w12.heap.size ≤ w13.heap.size := hB.size
  have P4_13 : Hid (OwnK w13 w12.heap.size (Value.slice p4 ln k4) (ls)) := ho
  have I_P4 : Hid (∀ k, (Value.slice p4 ln k4).ownBlock = some k → w12.heap.size ≤ k ∧ k < w13.heap.size) := World.ownsRow.lt P4_13.out
  clear hb hB HB_12 W1_12 P2_12 G2_12 RL_12 ho
  go_wp2_with fail
  refine (qi p4 k4 _ hn P4_13.out.rd'.2).mono ?_
  rintro e w14 ⟨a4, c4, rfl, ho, hb⟩
  have hB : Below w13.heap.size w13 w14 := hb
  have HB_14 : Hid (Below w.heap.size w w14) := HB_13.out.trans (hB.mono HB_13.out.size)
  have W1_14 : Hid (OwnK w14 w2.heap.size (Value.slice a1 p c1) (l)) := W1_13.out.later hB
  have P2_14 : Hid (OwnK w14 w3.heap.size (Value.slice p2 ln k2) (marksK 1 ln)) := P2_13.out.later hB
  have G2_14 : Hid (OwnK w14 w4.heap.size (Value.slice a2 p c2) (marksK 1 p)) := G2_13.out.later hB
  have RL_14 : Hid (RdK w14 lo ls) := RL_13.out.later hB
  have z14 : w13.heap.size ≤ w14.heap.size := hB.size
  have H4_14 : Hid (OwnK w14 w13.heap.size (Value.slice a4 p c4) (l)) := ho
  have I_H4 : Hid (∀ k, (Value.slice a4 p c4).ownBlock = some k → w13.heap.size ≤ k ∧ k < w14.heap.size) := World.ownsRow.lt H4_14.out
  clear hb hB HB_13 W1_13 P2_13 G2_13 RL_13 P4_13 ho
  go_wp2_with fail
  refine (eqCoverStepS_c a4 a1 p p c4 c1 l l _ HL.out HL.out (by omega) (by omega) H4_14.out.rd'.2 W1_14.out.rd'.2).mono ?_
  rw [decide_eq_true rfl]
  rintro e w15 ⟨rfl, hb⟩
  have hB : Below w14.heap.size w14 w15 := hb
  have HB_15 : Hid (Below w.heap.size w w15) := HB_14.out.trans (hB.mono HB_14.out.size)
  have W1_15 : Hid (OwnK w15 w2.heap.size (Value.slice a1 p c1) (l)) := W1_14.out.later hB
  have P2_15 : Hid (OwnK w15 w3.heap.size (Value.slice p2 ln k2) (marksK 1 ln)) := P2_14.out.later hB
  have G2_15 : Hid (OwnK w15 w4.heap.size (Value.slice a2 p c2) (marksK 1 p)) := G2_14.out.later hB
  have RL_15 : Hid (RdK w15 lo ls) := RL_14.out.later hB
  have H4_15 : Hid (OwnK w15 w13.heap.size (Value.slice a4 p c4) (l)) := H4_14.out.later hB
  have z15 : w14.heap.size ≤ w15.heap.size := hB.size
  clear hb hB HB_14 W1_14 P2_14 G2_14 RL_14 H4_14 
  go_wp2_with fail
  refine (heldCoverStepS_c a2 p c2 1 w4.heap.size _ (by omega) (by omega) G2_15.out).mono ?_
  rintro e w16 ⟨rfl, hb⟩
  have hB : Below w15.heap.size w15 w16 := hb
  have HB_16 : Hid (Below w.heap.size w w16) := HB_15.out.trans (hB.mono HB_15.out.size)
  have W1_16 : Hid (OwnK w16 w2.heap.size (Value.slice a1 p c1) (l)) := W1_15.out.later hB
  have P2_16 : Hid (OwnK w16 w3.heap.size (Value.slice p2 ln k2) (marksK 1 ln)) := P2_15.out.later hB
  have G2_16 : Hid (OwnK w16 w4.heap.size (Value.slice a2 p c2) (marksK 1 p)) := G2_15.out.later hB
  have RL_16 : Hid (RdK w16 lo ls) := RL_15.out.later hB
  have H4_16 : Hid (OwnK w16 w13.heap.size (Value.slice a4 p c4) (l)) := H4_15.out.later hB
  have z16 : w15.heap.size ≤ w16.heap.size := hB.size
  clear hb hB HB_15 W1_15 P2_15 G2_15 RL_15 H4_15 
  go_wp2
  go_ret
  exact ⟨rfl, HB_16.out⟩

end Go.Proofs.Yteopaocomfepfaa
