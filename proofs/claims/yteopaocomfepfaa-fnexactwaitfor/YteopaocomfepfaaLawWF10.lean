/- The law on WaitFor, walked: it answers true at every argument and turns nothing that was there. -/
import Derived.Test.YteopaocomfepfaaWF10
namespace Go.Proofs.Yteopaocomfepfaa
set_option linter.unusedVariables false
set_option maxRecDepth 1000000
set_option linter.unusedSimpArgs false
open Go.RowKit

set_option maxHeartbeats 16000000 in
theorem lawWait_c (ao : Option Addr) (n c : Nat) (t y : Int) (xs : List ByteArray) (s : ByteArray) (w : World) (hx : xs.length = n) (hn0 : n ≤ 9223372036854775807) (hr : RdS w ao xs) (hz : ∀ s ∈ xs, s.size ≤ 9223372036854775807) (hs0 : s.size ≤ maxLen) :
    Calls Try.prog 11 #[.agg #[.slice ao n c, .int .i64 t, .int .i64 y], .string s] w fun e w' => e = .returned (.bool true) ∧ Below w.heap.size w w' := by
  have HX : Hid (xs.length = n) := hx
  have HZ : Hid (∀ s ∈ xs, s.size ≤ 9223372036854775807) := hz
  clear hx hz
  obtain ⟨v, fb, hF⟩ : ∃ v fb, waitF xs t y s = (v, fb) := ⟨_, _, rfl⟩
  have HF : Hid (waitF xs t y s = (v, fb)) := hF
  have hfb : (fb != fb) = false := by simp
  have hvv : (v != v) = false := by simp
  have hs63 : s.size ≤ 9223372036854775807 := by unfold maxLen at hs0; omega
  clear hF hs0
  have HB_0 : Hid (Below w.heap.size w w) := Below.refl _ _
  have RP_0 : Hid (RdS w ao xs) := hr
  clear hr
  have hHB := HB_0.out.alloc HB_0.out.size (.cells #[.slice ao n c, .int .i64 t, .int .i64 y] 63)
  have hRP := RP_0.out.later (balloc w (.cells #[.slice ao n c, .int .i64 t, .int .i64 y] 63))
  have hA := x3_new w (.slice ao n c) (.int .i64 t) (.int .i64 y) 63 w.heap.size rfl
  have hz : (w.alloc (.cells #[.slice ao n c, .int .i64 t, .int .i64 y] 63)).heap.size = w.heap.size + 1 := by simp
  obtain ⟨w1, hV1⟩ : ∃ V, w.alloc (.cells #[.slice ao n c, .int .i64 t, .int .i64 y] 63) = V := ⟨_, rfl⟩
  rw [hV1] at hHB hRP hA hz
  have HB_1 : Hid (Below w.heap.size w w1) := hHB
  have RP_1 : Hid (RdS w1 ao xs) := hRP
  have A_1 : Hid (X3 w1 w.heap.size (.slice ao n c) (.int .i64 t) (.int .i64 y)) := hA
  have z1 : w.heap.size + 1 ≤ w1.heap.size := by omega
  clear HB_0 RP_0 hHB hRP hA hz
  go_enter Try.func11, Try.ntmps11
  by_cases hsz : 1048576 < s.size
  · have hsz2 : (1048576 : Int) < (s.size : Int) := by omega
    obtain ⟨⟨Aq0, Aq1, Aq2⟩, Af⟩ := id (A_1.out)
    clear Af
    go_wp2
    go_ret
    exact ⟨rfl, HB_1.out⟩
  have hsz2 : ¬ (1048576 : Int) < (s.size : Int) := by omega
  obtain ⟨⟨Aq0, Aq1, Aq2⟩, Af⟩ := id (A_1.out)
  clear Af
  go_wp2_with fail
  clear hV1
  refine (szClient_c ao n c t y 1048576 xs _ HX.out hn0 (by omega) HZ.out RP_1.out).mono ?_
  clear Aq0 Aq1 Aq2
  rintro e w2 ⟨r, rfl, hb, hr1, hr2⟩
  have hB : Below w1.heap.size w1 w2 := hb
  have HB_2 : Hid (Below w.heap.size w w2) := HB_1.out.trans (hB.mono HB_1.out.size)
  have RP_2 : Hid (RdS w2 ao xs) := RP_1.out.later hB
  have A_2 : Hid (X3 w2 w.heap.size (.slice ao n c) (.int .i64 t) (.int .i64 y)) := A_1.out.later hB
  have z2 : w1.heap.size ≤ w2.heap.size := hB.size
  clear hb hB HB_1 RP_1 A_1 
  by_cases hr0 : r < 0
  · go_wp2
    go_ret
    exact ⟨rfl, HB_2.out⟩
  have hn : n ≤ 1048576 := hr2 (by omega)
  have hrn : ¬ r < 0 := hr0
  clear hr1 hr2 hr0
  obtain ⟨⟨Aq0, Aq1, Aq2⟩, Af⟩ := id (A_2.out)
  clear Af
  go_wp2_with fail
  refine (toClient_c ao n c t y xs _ HX.out (by omega) RP_2.out).mono ?_
  clear Aq0 Aq1 Aq2
  rintro e w3 ⟨p1, k1, rfl, ho, hb⟩
  have hB : Below w2.heap.size w2 w3 := hb
  have HB_3 : Hid (Below w.heap.size w w3) := HB_2.out.trans (hB.mono HB_2.out.size)
  have RP_3 : Hid (RdS w3 ao xs) := RP_2.out.later hB
  have A_3 : Hid (X3 w3 w.heap.size (.slice ao n c) (.int .i64 t) (.int .i64 y)) := A_2.out.later hB
  have z3 : w2.heap.size ≤ w3.heap.size := hB.size
  have P1_3 : Hid (OwnS w3 w2.heap.size (Value.slice p1 n k1) xs) := ho
  have I_P1 : Hid (∀ k, (Value.slice p1 n k1).ownBlock = some k → w2.heap.size ≤ k ∧ k < w3.heap.size) := World.ownsRow.lt P1_3.out
  clear hb hB HB_2 RP_2 A_2 ho
  go_wp2_with fail
  refine (specWait_c p1 n k1 t y s xs _ HX.out (by omega) P1_3.out.rd'.2 HZ.out v fb HF.out).mono ?_
  rintro e w4 ⟨rfl, hb⟩
  have hB : Below w3.heap.size w3 w4 := hb
  have HB_4 : Hid (Below w.heap.size w w4) := HB_3.out.trans (hB.mono HB_3.out.size)
  have RP_4 : Hid (RdS w4 ao xs) := RP_3.out.later hB
  have A_4 : Hid (X3 w4 w.heap.size (.slice ao n c) (.int .i64 t) (.int .i64 y)) := A_3.out.later hB
  have z4 : w3.heap.size ≤ w4.heap.size := hB.size
  clear hb hB HB_3 RP_3 A_3 P1_3 
  obtain ⟨⟨Aq0, Aq1, Aq2⟩, Af⟩ := id (A_4.out)
  clear Af
  go_wp2_with fail
  refine (toClient_c ao n c t y xs _ HX.out (by omega) RP_4.out).mono ?_
  clear Aq0 Aq1 Aq2
  rintro e w5 ⟨p2, k2, rfl, ho, hb⟩
  have hB : Below w4.heap.size w4 w5 := hb
  have HB_5 : Hid (Below w.heap.size w w5) := HB_4.out.trans (hB.mono HB_4.out.size)
  have RP_5 : Hid (RdS w5 ao xs) := RP_4.out.later hB
  have A_5 : Hid (X3 w5 w.heap.size (.slice ao n c) (.int .i64 t) (.int .i64 y)) := A_4.out.later hB
  have z5 : w4.heap.size ≤ w5.heap.size := hB.size
  have P2_5 : Hid (OwnS w5 w4.heap.size (Value.slice p2 n k2) xs) := ho
  have I_P2 : Hid (∀ k, (Value.slice p2 n k2).ownBlock = some k → w4.heap.size ≤ k ∧ k < w5.heap.size) := World.ownsRow.lt P2_5.out
  clear hb hB HB_4 RP_4 A_4 ho
  have hHB := HB_5.out.alloc HB_5.out.size (.cells #[.slice p2 n k2, .int .i64 t, .int .i64 y] 45)
  have hRP := RP_5.out.later (balloc w5 (.cells #[.slice p2 n k2, .int .i64 t, .int .i64 y] 45))
  have hA := A_5.out.later (balloc w5 (.cells #[.slice p2 n k2, .int .i64 t, .int .i64 y] 45))
  have hP2 := P2_5.out.later (balloc w5 (.cells #[.slice p2 n k2, .int .i64 t, .int .i64 y] 45))
  have hX := x3_new w5 (.slice p2 n k2) (.int .i64 t) (.int .i64 y) 45 w5.heap.size rfl
  have hz : (w5.alloc (.cells #[.slice p2 n k2, .int .i64 t, .int .i64 y] 45)).heap.size = w5.heap.size + 1 := by simp
  obtain ⟨w6, hV6⟩ : ∃ V, w5.alloc (.cells #[.slice p2 n k2, .int .i64 t, .int .i64 y] 45) = V := ⟨_, rfl⟩
  rw [hV6] at hHB hRP hA hP2 hX hz
  have HB_6 : Hid (Below w.heap.size w w6) := hHB
  have RP_6 : Hid (RdS w6 ao xs) := hRP
  have A_6 : Hid (X3 w6 w.heap.size (.slice ao n c) (.int .i64 t) (.int .i64 y)) := hA
  have P2_6 : Hid (OwnS w6 w4.heap.size (Value.slice p2 n k2) xs) := hP2
  have X_6 : Hid (X3 w6 w5.heap.size (.slice p2 n k2) (.int .i64 t) (.int .i64 y)) := hX
  have z6 : w5.heap.size + 1 ≤ w6.heap.size := by omega
  clear HB_5 RP_5 A_5 P2_5 hHB hRP hA hP2 hX hz
  obtain ⟨⟨Xq0, Xq1, Xq2⟩, Xf⟩ := id (X_6.out)
  clear Xf
  go_wp2_with fail
  clear hV6
  refine (implWait_c p2 n k2 t y s xs _ HX.out (by omega) P2_6.out.rd'.2 HZ.out v fb HF.out).mono ?_
  clear Xq0 Xq1 Xq2
  rintro e w7 ⟨rfl, hb⟩
  have hB : Below w6.heap.size w6 w7 := hb
  have HB_7 : Hid (Below w.heap.size w w7) := HB_6.out.trans (hB.mono HB_6.out.size)
  have RP_7 : Hid (RdS w7 ao xs) := RP_6.out.later hB
  have A_7 : Hid (X3 w7 w.heap.size (.slice ao n c) (.int .i64 t) (.int .i64 y)) := A_6.out.later hB
  have P2_7 : Hid (OwnS w7 w4.heap.size (Value.slice p2 n k2) xs) := P2_6.out.later hB
  have X_7 : Hid (X3 w7 w5.heap.size (.slice p2 n k2) (.int .i64 t) (.int .i64 y)) := X_6.out.later hB
  have z7 : w6.heap.size ≤ w7.heap.size := hB.size
  clear hb hB HB_6 RP_6 A_6 P2_6 X_6 
  obtain ⟨⟨Xq0, Xq1, Xq2⟩, Xf⟩ := id (X_7.out)
  clear Xf
  obtain ⟨⟨Aq0, Aq1, Aq2⟩, Af⟩ := id (A_7.out)
  clear Af
  go_wp2
  go_region_with (first | (go_at_call 40; (first | refine (toClient_c ao n c t y xs _ HX.out (by omega) (RP_7.out.later (Below.refl _ _).drew)).mono ?_ | refine (toClient_c ao n c t y xs _ HX.out (by omega) RP_7.out).mono ?_); rintro e w8 ⟨p3, k3, rfl, ho, hb⟩; have hB : Below w7.heap.size w7 w8 := (by first | exact hb | exact ((Below.refl w7.heap.size w7).drew).trans hb); have HB_8 : Hid (Below w.heap.size w w8) := HB_7.out.trans (hB.mono HB_7.out.size); have RP_8 : Hid (RdS w8 ao xs) := RP_7.out.later hB; have A_8 : Hid (X3 w8 w.heap.size (.slice ao n c) (.int .i64 t) (.int .i64 y)) := A_7.out.later hB; have P2_8 : Hid (OwnS w8 w4.heap.size (Value.slice p2 n k2) xs) := P2_7.out.later hB; have X_8 : Hid (X3 w8 w5.heap.size (.slice p2 n k2) (.int .i64 t) (.int .i64 y)) := X_7.out.later hB; have z8 : w7.heap.size ≤ w8.heap.size := hB.size; have N3_8 : Hid (OwnS w8 w7.heap.size (Value.slice p3 n k3) xs) := ho.mono (by first | exact Nat.le_refl _ | simp); obtain ⟨⟨eX0, eX1, eX2⟩, _⟩ := id (X_8.out); obtain ⟨⟨eA0, eA1, eA2⟩, _⟩ := id (A_8.out); clear hb hB) | (go_at_call 36; refine ((eqClient_c p2 p3 n k2 n k3 t y t y xs xs _ HX.out HX.out (by omega) (by omega) P2_8.out.rd'.2 N3_8.out.rd'.2).mono (fun e w' h => by rw [decide_eq_true ⟨rfl, rfl, rfl⟩] at h; exact h)).mono ?_; rintro e w9 ⟨rfl, hb⟩; have hB : Below w8.heap.size w8 w9 := (by first | exact hb | exact ((Below.refl w8.heap.size w8).drew).trans hb); have HB_9 : Hid (Below w.heap.size w w9) := HB_8.out.trans (hB.mono HB_8.out.size); have RP_9 : Hid (RdS w9 ao xs) := RP_8.out.later hB; have A_9 : Hid (X3 w9 w.heap.size (.slice ao n c) (.int .i64 t) (.int .i64 y)) := A_8.out.later hB; have P2_9 : Hid (OwnS w9 w4.heap.size (Value.slice p2 n k2) xs) := P2_8.out.later hB; have X_9 : Hid (X3 w9 w5.heap.size (.slice p2 n k2) (.int .i64 t) (.int .i64 y)) := X_8.out.later hB; have z9 : w8.heap.size ≤ w9.heap.size := hB.size; clear hb hB))
  all_goals (
    clear HB_7 HB_8 RP_7 RP_8 A_7 A_8 P2_7 P2_8 X_7 X_8 Xq0 eX0 Xq1 eX1 Xq2 eX2 Aq0 eA0 Aq1 eA1 Aq2 eA2 N3_8
    go_wp2
    go_ret
    exact ⟨rfl, HB_9.out⟩)

end Go.Proofs.Yteopaocomfepfaa
