/- The law on IsProved, walked: it answers true at every argument and turns nothing that was there. -/
import Derived.Test.YtofdlggohnfgaaaRF12
import Derived.Test.YtofdlggohnfgaaaRI12
import Derived.Test.YtofdlggohnfgaaaWM12
namespace Go.Proofs.Ytofdlggohnfgaaa
set_option linter.unusedVariables false
set_option maxRecDepth 1000000
set_option linter.unusedSimpArgs false
open Go.RowKit

set_option maxHeartbeats 16000000 in
theorem lawProved_c (f : Int) (ao : Option Addr) (n cc : Nat) (xs : List St) (a b c : Int) (w : World) (hx : xs.length = n) (hn0 : n ≤ 9223372036854775807) (hr : RdS w ao xs) :
    Calls Try.prog 8 #[.int .i64 f, .slice ao n cc, .agg #[.int .i64 a, .int .i64 b, .int .i64 c]] w fun e w' => e = .returned (.bool true) ∧ Below w.heap.size w w' := by
  obtain ⟨v, hv⟩ : ∃ v, provedV f xs (a, b, c) = v := ⟨_, rfl⟩
  obtain ⟨fb, hF⟩ : ∃ fb, provedOk f xs (a, b, c) = fb := ⟨_, rfl⟩
  have HQS : Hid (∀ p' k' wx, RdS wx p' xs → n ≤ 1048576 → Calls Try.prog 20 #[.int .i64 f, .slice p' n k', .agg #[.int .i64 a, .int .i64 b, .int .i64 c]] wx fun e w' => e = .returned (.tuple #[.bool v, .bool fb]) ∧ Below wx.heap.size wx w') := fun p' k' wx h1 h2 => by have := specProved_c f p' n k' xs a b c wx hx (by omega) h1 h2; rw [hv, hF] at this; exact this
  have HQI : Hid (∀ p' k' wx, RdS wx p' xs → n ≤ 1048576 → Calls Try.prog 18 #[.int .i64 f, .slice p' n k', .agg #[.int .i64 a, .int .i64 b, .int .i64 c]] wx fun e w' => e = .returned (.tuple #[.bool v, .bool fb]) ∧ Below wx.heap.size wx w') := fun p' k' wx h1 h2 => by have := implProved_c f p' n k' xs a b c wx hx (by omega) h1; rw [hv, hF] at this; exact this
  have HX : Hid (xs.length = n) := hx
  have hvv : (v != v) = false := by simp
  have hfb : (fb != fb) = false := by simp
  clear hF hx hv
  have HB_0 : Hid (Below w.heap.size w w) := Below.refl _ _
  have RP_0 : Hid (RdS w ao xs) := hr
  clear hr
  have hHB := HB_0.out.alloc HB_0.out.size (.cells #[.int .i64 a, .int .i64 b, .int .i64 c] 57)
  have hRP := RP_0.out.later (balloc w (.cells #[.int .i64 a, .int .i64 b, .int .i64 c] 57))
  have hA := x3_new w (.int .i64 a) (.int .i64 b) (.int .i64 c) 57 w.heap.size rfl
  have hz : (w.alloc (.cells #[.int .i64 a, .int .i64 b, .int .i64 c] 57)).heap.size = w.heap.size + 1 := by simp
  obtain ⟨w1, hV1⟩ : ∃ V, w.alloc (.cells #[.int .i64 a, .int .i64 b, .int .i64 c] 57) = V := ⟨_, rfl⟩
  rw [hV1] at hHB hRP hA hz
  have HB_1 : Hid (Below w.heap.size w w1) := hHB
  have RP_1 : Hid (RdS w1 ao xs) := hRP
  have A_1 : Hid (X3 w1 w.heap.size (.int .i64 a) (.int .i64 b) (.int .i64 c)) := hA
  have z1 : w.heap.size + 1 ≤ w1.heap.size := by omega
  clear HB_0 RP_0 hHB hRP hA hz
  go_enter Try.func8, Try.ntmps8
  go_wp2_with fail
  refine (szStatementS_c ao n cc 1048576 _ hn0 (by omega)).mono ?_
  rintro e w' ⟨r, rfl, hw, hr1, hr2⟩
  subst w'
  by_cases hr0 : r < 0
  · go_wp2
    go_ret
    exact ⟨rfl, HB_1.out⟩
  have hn : n ≤ 1048576 := (hr2 (by omega)).1
  have hrn : ¬ r < 0 := hr0
  clear hr1 hr2 hr0
  obtain ⟨⟨Aq0, Aq1, Aq2⟩, Af⟩ := id (A_1.out)
  clear Af
  go_wp2
  clear hV1
  go_region_with (first | (go_at_call 37; (first | refine (toStatementS_c ao n cc xs _ HX.out hn RP_1.out).mono ?_ | refine (toStatementS_c ao n cc xs _ HX.out hn (RP_1.out.later (Below.refl _ _).drew)).mono ?_); rintro e w2 ⟨p1, k1, rfl, ho, hb⟩; have hB : Below w1.heap.size w1 w2 := (by first | exact hb | exact ((Below.refl w1.heap.size w1).drew).trans hb); have HB_2 : Hid (Below w.heap.size w w2) := HB_1.out.trans (hB.mono HB_1.out.size); have RP_2 : Hid (RdS w2 ao xs) := RP_1.out.later hB; have A_2 : Hid (X3 w2 w.heap.size (.int .i64 a) (.int .i64 b) (.int .i64 c)) := A_1.out.later hB; have z2 : w1.heap.size ≤ w2.heap.size := hB.size; have P1_2 : Hid (OwnS w2 w1.heap.size (Value.slice p1 n k1) (xs)) := ho.mono (by first | exact Nat.le_refl _ | simp); obtain ⟨⟨eA0_2, eA1_2, eA2_2⟩, _⟩ := id (A_2.out); clear hb hB) | (go_at_call 34; (first | refine (toClaim_c a b c _).mono ?_ | refine (toClaim_c a b c _).mono ?_); rintro e w3 ⟨rfl, hb⟩; have hB : Below w2.heap.size w2 w3 := (by first | exact hb | exact ((Below.refl w2.heap.size w2).drew).trans hb); have HB_3 : Hid (Below w.heap.size w w3) := HB_2.out.trans (hB.mono HB_2.out.size); have RP_3 : Hid (RdS w3 ao xs) := RP_2.out.later hB; have A_3 : Hid (X3 w3 w.heap.size (.int .i64 a) (.int .i64 b) (.int .i64 c)) := A_2.out.later hB; have P1_3 : Hid (OwnS w3 w1.heap.size (Value.slice p1 n k1) (xs)) := P1_2.out.later hB; have z3 : w2.heap.size ≤ w3.heap.size := hB.size; obtain ⟨⟨eA0_3, eA1_3, eA2_3⟩, _⟩ := id (A_3.out); clear hb hB) | (go_at_call 20; (first | refine (HQS.out p1 k1 _ (P1_3.out).rd'.2 hn).mono ?_ | refine (HQS.out p1 k1 _ ((P1_3.out.later (Below.refl _ _).drew)).rd'.2 hn).mono ?_); rintro e w4 ⟨rfl, hb⟩; have hB : Below w3.heap.size w3 w4 := (by first | exact hb | exact ((Below.refl w3.heap.size w3).drew).trans hb); have HB_4 : Hid (Below w.heap.size w w4) := HB_3.out.trans (hB.mono HB_3.out.size); have RP_4 : Hid (RdS w4 ao xs) := RP_3.out.later hB; have A_4 : Hid (X3 w4 w.heap.size (.int .i64 a) (.int .i64 b) (.int .i64 c)) := A_3.out.later hB; have P1_4 : Hid (OwnS w4 w1.heap.size (Value.slice p1 n k1) (xs)) := P1_3.out.later hB; have z4 : w3.heap.size ≤ w4.heap.size := hB.size; obtain ⟨⟨eA0_4, eA1_4, eA2_4⟩, _⟩ := id (A_4.out); clear hb hB))
  all_goals (
    clear HB_1 RP_1 A_1 HB_2 RP_2 A_2 P1_2 HB_3 RP_3 A_3 P1_3 Aq0 Aq1 Aq2 eA0_2 eA1_2 eA2_2 eA0_3 eA1_3 eA2_3 eA0_4 eA1_4 eA2_4
    clear P1_4
    go_wp2_with fail
    refine (toStatementS_c ao n cc xs _ HX.out hn RP_4.out).mono ?_
    rintro e w5 ⟨p2, k2, rfl, ho, hb⟩
    have hB : Below w4.heap.size w4 w5 := hb
    have HB_5 : Hid (Below w.heap.size w w5) := HB_4.out.trans (hB.mono HB_4.out.size)
    have RP_5 : Hid (RdS w5 ao xs) := RP_4.out.later hB
    have A_5 : Hid (X3 w5 w.heap.size (.int .i64 a) (.int .i64 b) (.int .i64 c)) := A_4.out.later hB
    have z5 : w4.heap.size ≤ w5.heap.size := hB.size
    have P2_5 : Hid (OwnS w5 w4.heap.size (Value.slice p2 n k2) (xs)) := ho
    have I_P2 : Hid (∀ k, (Value.slice p2 n k2).ownBlock = some k → w4.heap.size ≤ k ∧ k < w5.heap.size) := World.ownsRow.lt P2_5.out
    clear hb hB HB_4 RP_4 A_4 ho
    obtain ⟨⟨Aq0, Aq1, Aq2⟩, Af⟩ := id (A_5.out)
    clear Af
    go_wp2_with fail
    refine (toClaim_c a b c _).mono ?_
    clear Aq0 Aq1 Aq2
    rintro e w6 ⟨rfl, hb⟩
    have hB : Below w5.heap.size w5 w6 := hb
    have HB_6 : Hid (Below w.heap.size w w6) := HB_5.out.trans (hB.mono HB_5.out.size)
    have RP_6 : Hid (RdS w6 ao xs) := RP_5.out.later hB
    have A_6 : Hid (X3 w6 w.heap.size (.int .i64 a) (.int .i64 b) (.int .i64 c)) := A_5.out.later hB
    have P2_6 : Hid (OwnS w6 w4.heap.size (Value.slice p2 n k2) (xs)) := P2_5.out.later hB
    have z6 : w5.heap.size ≤ w6.heap.size := hB.size
    clear hb hB HB_5 RP_5 A_5 P2_5 
    go_wp2_with fail
    refine (HQI.out p2 k2 _ P2_6.out.rd'.2 hn).mono ?_
    rintro e w7 ⟨rfl, hb⟩
    have hB : Below w6.heap.size w6 w7 := hb
    have HB_7 : Hid (Below w.heap.size w w7) := HB_6.out.trans (hB.mono HB_6.out.size)
    have RP_7 : Hid (RdS w7 ao xs) := RP_6.out.later hB
    have A_7 : Hid (X3 w7 w.heap.size (.int .i64 a) (.int .i64 b) (.int .i64 c)) := A_6.out.later hB
    have P2_7 : Hid (OwnS w7 w4.heap.size (Value.slice p2 n k2) (xs)) := P2_6.out.later hB
    have z7 : w6.heap.size ≤ w7.heap.size := hB.size
    clear hb hB HB_6 RP_6 A_6 P2_6 
    go_wp2_with fail
    refine (toStatementS_c ao n cc xs _ HX.out hn RP_7.out).mono ?_
    rintro e w8 ⟨p3, k3, rfl, ho, hb⟩
    have hB : Below w7.heap.size w7 w8 := hb
    have HB_8 : Hid (Below w.heap.size w w8) := HB_7.out.trans (hB.mono HB_7.out.size)
    have RP_8 : Hid (RdS w8 ao xs) := RP_7.out.later hB
    have A_8 : Hid (X3 w8 w.heap.size (.int .i64 a) (.int .i64 b) (.int .i64 c)) := A_7.out.later hB
    have P2_8 : Hid (OwnS w8 w4.heap.size (Value.slice p2 n k2) (xs)) := P2_7.out.later hB
    have z8 : w7.heap.size ≤ w8.heap.size := hB.size
    have P3_8 : Hid (OwnS w8 w7.heap.size (Value.slice p3 n k3) (xs)) := ho
    have I_P3 : Hid (∀ k, (Value.slice p3 n k3).ownBlock = some k → w7.heap.size ≤ k ∧ k < w8.heap.size) := World.ownsRow.lt P3_8.out
    clear hb hB HB_7 RP_7 A_7 P2_7 ho
    go_wp2_with fail
    refine (eqStatementS_c p2 p3 n n k2 k3 xs xs _ HX.out HX.out (by omega) (by omega) P2_8.out.rd'.2 P3_8.out.rd'.2).mono ?_
    rw [decide_eq_true rfl]
    rintro e w9 ⟨rfl, hb⟩
    have hB : Below w8.heap.size w8 w9 := hb
    have HB_9 : Hid (Below w.heap.size w w9) := HB_8.out.trans (hB.mono HB_8.out.size)
    have RP_9 : Hid (RdS w9 ao xs) := RP_8.out.later hB
    have A_9 : Hid (X3 w9 w.heap.size (.int .i64 a) (.int .i64 b) (.int .i64 c)) := A_8.out.later hB
    have P2_9 : Hid (OwnS w9 w4.heap.size (Value.slice p2 n k2) (xs)) := P2_8.out.later hB
    have P3_9 : Hid (OwnS w9 w7.heap.size (Value.slice p3 n k3) (xs)) := P3_8.out.later hB
    have z9 : w8.heap.size ≤ w9.heap.size := hB.size
    clear hb hB HB_8 RP_8 A_8 P2_8 P3_8 
    go_wp2
    go_ret
    exact ⟨rfl, HB_9.out⟩)

end Go.Proofs.Ytofdlggohnfgaaa
