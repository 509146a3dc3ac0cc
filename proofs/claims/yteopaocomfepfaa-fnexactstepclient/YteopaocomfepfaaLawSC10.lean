/- The law on StepClient, walked: it answers true at every argument and turns nothing that was there. -/
import Derived.Test.YteopaocomfepfaaLSC10A
import Derived.Test.YteopaocomfepfaaLSC10B
import Derived.Test.YteopaocomfepfaaLSC10C
namespace Go.Proofs.Yteopaocomfepfaa
set_option linter.unusedVariables false
set_option maxRecDepth 1000000
set_option linter.unusedSimpArgs false
open Go.RowKit

set_option maxHeartbeats 16000000 in
theorem lawStepC_c (ao : Option Addr) (n c : Nat) (t y : Int) (xs : List ByteArray) (kk : Int) (s : ByteArray) (w : World) (hx : xs.length = n) (hn0 : n ≤ 9223372036854775807) (hr : RdS w ao xs) (hz : ∀ s ∈ xs, s.size ≤ 9223372036854775807) (hs0 : s.size ≤ 9223372036854775807) :
    Calls Try.prog 7 #[.agg #[.slice ao n c, .int .i64 t, .int .i64 y], .agg #[.int .i64 kk, .string s]] w fun e w' => e = .returned (.bool true) ∧ Below w.heap.size w w' := by
  obtain ⟨r0, hr0⟩ : ∃ r0, stepF xs t y kk s = r0 := ⟨_, rfl⟩
  have hm5 : r0.q.length ≤ 5 := by
    rw [← hr0]
    unfold stepF
    split
    · rename_i hg
      cases hok : (stepV xs t y kk s).ok with
      | true => exact (queueB_iff.1 (goodC_iff.1 (step_good hg hok)).1).1
      | false => rw [stepV_zero hok]; simp [zeroSt]
    · simp [zeroSt]
  have qs : ∀ p' k' wx, n ≤ 1048576 → QOk wx p' n k' xs → _ := fun p' k' wx hn h => specStep_c p' n k' t y kk s xs wx (by omega) h hz hs0 r0 hr0 _ rfl
  have qi : ∀ p' k' wx, n ≤ 1048576 → QOk wx p' n k' xs → _ := fun p' k' wx hn h => implStep_c p' n k' t y kk s xs wx (by omega) h hz hs0 r0 hr0 _ rfl
  have HX : Hid (xs.length = n) := hx
  have HZ : Hid (∀ s ∈ xs, s.size ≤ 9223372036854775807) := hz
  have HR0 : Hid (RdS w ao xs) := hr
  clear hr0 hx hz
  obtain ⟨Q, T, Y, e0r, e1r, e2r, tx, ok⟩ := r0
  dsimp only at qs qi hm5
  obtain ⟨m, hm⟩ : ∃ m, Q.length = m := ⟨_, rfl⟩
  rw [hm] at qs qi hm5
  have HQ : Hid (Q.length = m) := hm
  have htt := eq_tl (rfl : tx = tx)
  have hok : (ok != ok) = false := by simp
  have hkn : ¬ (1 : Int) + (n : Int) < 0 := by omega
  have hkm : ¬ (1 : Int) + (m : Int) < 0 := by omega
  have hmm : ((1 : Int) + (m : Int) != (1 : Int) + (m : Int)) = false := by simp
  clear hm
  have HB_0 : Hid (Below w.heap.size w w) := Below.refl _ _
  have RP_0 : Hid (RdS w ao xs) := hr
  clear hr
  have hHB := HB_0.out.alloc HB_0.out.size (.cells #[.slice ao n c, .int .i64 t, .int .i64 y] 63)
  have hRP := RP_0.out.later (balloc w (.cells #[.slice ao n c, .int .i64 t, .int .i64 y] 63))
  have hA := x3_new w (.slice ao n c) (.int .i64 t) (.int .i64 y) 63 w.heap.size rfl
  have hz : (w.alloc (.cells #[.slice ao n c, .int .i64 t, .int .i64 y] 63)).heap.size = w.heap.size + 1 := by simp
  obtain ⟨w1, hV1⟩ : ∃ V, w.alloc (.cells #[.slice ao n c, .int .i64 t, .int .i64 y] 63) = V := ⟨_, rfl⟩
  rw [hV1] at hHB hRP hA hz
  have HB_1 : Hid (Below w.heap.size w w1) := hHB
  have RP_1 : Hid (RdS w1 ao xs) := hRP
  have A_1 : Hid (X3 w1 w.heap.size (.slice ao n c) (.int .i64 t) (.int .i64 y)) := hA
  have z1 : w.heap.size + 1 ≤ w1.heap.size := by omega
  clear HB_0 RP_0 hHB hRP hA hz
  have hHB := HB_1.out.alloc HB_1.out.size (.cells #[.int .i64 kk, .string s] 67)
  have hRP := RP_1.out.later (balloc w1 (.cells #[.int .i64 kk, .string s] 67))
  have hA := A_1.out.later (balloc w1 (.cells #[.int .i64 kk, .string s] 67))
  have hT := x2_new w1 (.int .i64 kk) (.string s) 67 w1.heap.size rfl
  have hz : (w1.alloc (.cells #[.int .i64 kk, .string s] 67)).heap.size = w1.heap.size + 1 := by simp
  obtain ⟨w2, hV2⟩ : ∃ V, w1.alloc (.cells #[.int .i64 kk, .string s] 67) = V := ⟨_, rfl⟩
  rw [hV2] at hHB hRP hA hT hz
  have HB_2 : Hid (Below w.heap.size w w2) := hHB
  have RP_2 : Hid (RdS w2 ao xs) := hRP
  have A_2 : Hid (X3 w2 w.heap.size (.slice ao n c) (.int .i64 t) (.int .i64 y)) := hA
  have T_2 : Hid (X2 w2 w1.heap.size (.int .i64 kk) (.string s)) := hT
  have z2 : w1.heap.size + 1 ≤ w2.heap.size := by omega
  clear HB_1 RP_1 A_1 hHB hRP hA hT hz
  go_enter Try.func7, Try.ntmps7
  obtain ⟨⟨Aq0, Aq1, Aq2⟩, Af⟩ := id (A_2.out)
  clear Af
  go_wp2_with fail
  clear hV1 hV2
  refine (szClient_c ao n c t y 1048576 xs _ HX.out hn0 (by omega) HZ.out RP_2.out).mono ?_
  clear Aq0 Aq1 Aq2
  rintro e w3 ⟨r, rfl, hb, hr1, hr2⟩
  have hB : Below w2.heap.size w2 w3 := hb
  have HB_3 : Hid (Below w.heap.size w w3) := HB_2.out.trans (hB.mono HB_2.out.size)
  have RP_3 : Hid (RdS w3 ao xs) := RP_2.out.later hB
  have A_3 : Hid (X3 w3 w.heap.size (.slice ao n c) (.int .i64 t) (.int .i64 y)) := A_2.out.later hB
  have T_3 : Hid (X2 w3 w1.heap.size (.int .i64 kk) (.string s)) := T_2.out.later hB
  have z3 : w2.heap.size ≤ w3.heap.size := hB.size
  clear hb hB HB_2 RP_2 A_2 T_2 
  by_cases hr0 : r < 0
  · go_wp2
    go_ret
    exact ⟨rfl, HB_3.out⟩
  have hn : n ≤ 1048576 := hr2 (by omega)
  obtain ⟨r1, rfl⟩ : ∃ r1 : Nat, r = r1 := ⟨r.toNat, by omega⟩
  have hrl : r1 ≤ 1048576 := by omega
  clear hr1 hr2 hr0
  obtain ⟨⟨Tq0, Tq1⟩, Tf⟩ := id (T_3.out)
  clear Tf
  go_wp2_with fail
  refine (szCoverStep_c kk s r1 _ hs0 hrl).mono ?_
  clear Tq0 Tq1
  rintro e w4 ⟨r, rfl, hb, hr1, hr2⟩
  have hB : Below w3.heap.size w3 w4 := hb
  have HB_4 : Hid (Below w.heap.size w w4) := HB_3.out.trans (hB.mono HB_3.out.size)
  have RP_4 : Hid (RdS w4 ao xs) := RP_3.out.later hB
  have A_4 : Hid (X3 w4 w.heap.size (.slice ao n c) (.int .i64 t) (.int .i64 y)) := A_3.out.later hB
  have T_4 : Hid (X2 w4 w1.heap.size (.int .i64 kk) (.string s)) := T_3.out.later hB
  have z4 : w3.heap.size ≤ w4.heap.size := hB.size
  clear hb hB HB_3 RP_3 A_3 T_3 
  by_cases hr0 : r < 0
  · go_wp2
    go_ret
    exact ⟨rfl, HB_4.out⟩
  have hrn : ¬ r < 0 := hr0
  clear hr1 hr2 hr0
  obtain ⟨⟨Aq0, Aq1, Aq2⟩, Af⟩ := id (A_4.out)
  clear Af
  obtain ⟨⟨Tq0, Tq1⟩, Tf⟩ := id (T_4.out)
  clear Tf
  go_upto_region 8 with fail
  clear Aq0 Aq1 Aq2
  clear Tq0 Tq1
  refine wp_mono (stepReg8_w _ _ _ _ _ _ _ _ _ _ _ _ _ _ _ _ _ _ _ _ _ _ _ _ _ _ _ _ _ _ _ _ _ _ _ _ _ _ _ _ _ _ _ _ _ _ _ _ _ _ _ _ _ _ _ _ _ _ _ _ _ _ _ _ _ _ _ _ _ _ _ _ _ _ _ _ _ _ _ _ _ _ _ _ _ _ _ _ _ _ _ _ _ _ _ _ _ _ _ _ _ _ _ _ _ _ _ _ _ _ _ _ _ _ _ _ _ _ _ _ _ _ _ _ _ _ _ _ _ _ _ _ _ _ _ _ _ _ _ _ _ _ _ _ _ _ _ _ _ _ _ _ w.heap.size w1.heap.size ao n c t y xs kk s m Q T Y e0r e1r e2r tx ok _ w4 A_4.out T_4.out HX.out hn RP_4.out qs (fun pA kA a1 d1 g8W g9W w5 h8 h9 ho hne hz8 hz9 hz89 hbb => ?_)) (fun e a w h => by cases e <;> first | exact h | exact h.elim)
  have HB_5 : Hid (Below w.heap.size w w5) := HB_4.out.trans (hbb.mono HB_4.out.size)
  have RP_5 : Hid (RdS w5 ao xs) := RP_4.out.later hbb
  have A_5 : Hid (X3 w5 w.heap.size (.slice ao n c) (.int .i64 t) (.int .i64 y)) := A_4.out.later hbb
  have T_5 : Hid (X2 w5 w1.heap.size (.int .i64 kk) (.string s)) := T_4.out.later hbb
  have z5 : w4.heap.size ≤ w5.heap.size := hbb.size
  have WC_5 : Hid (X3 w5 g8W (.slice a1 m d1) (.int .i64 T) (.int .i64 Y)) := h8
  have WE_5 : Hid (X3 w5 g9W (.int .i64 e0r) (.int .i64 e1r) (.int .i64 e2r)) := h9
  have WR_5 : Hid (OwnS w5 w4.heap.size (Value.slice a1 m d1) (Q)) := ho
  have I_WR : Hid (∀ k, (Value.slice a1 m d1).ownBlock = some k → w4.heap.size ≤ k ∧ k < w5.heap.size) := World.ownsRow.lt ho
  have N_W : Hid (∀ k, (Value.slice a1 m d1).ownBlock = some k → k ≠ g8W ∧ k ≠ g9W) := hne
  have l8W : g8W < w5.heap.size := h8.lt
  have l9W : g9W < w5.heap.size := h9.lt
  clear h8 h9 ho hne hbb HB_4 RP_4 A_4 T_4
  obtain ⟨⟨Aq0, Aq1, Aq2⟩, Af⟩ := id (A_5.out)
  clear Af
  go_wp2_with fail
  refine (toClient_c ao n c t y xs _ HX.out (by omega) RP_5.out).mono ?_
  clear Aq0 Aq1 Aq2
  rintro e w6 ⟨p2, k2, rfl, ho, hb⟩
  have hB : Below w5.heap.size w5 w6 := hb
  have HB_6 : Hid (Below w.heap.size w w6) := HB_5.out.trans (hB.mono HB_5.out.size)
  have RP_6 : Hid (RdS w6 ao xs) := RP_5.out.later hB
  have A_6 : Hid (X3 w6 w.heap.size (.slice ao n c) (.int .i64 t) (.int .i64 y)) := A_5.out.later hB
  have T_6 : Hid (X2 w6 w1.heap.size (.int .i64 kk) (.string s)) := T_5.out.later hB
  have WC_6 : Hid (X3 w6 g8W (.slice a1 m d1) (.int .i64 T) (.int .i64 Y)) := WC_5.out.later hB
  have WE_6 : Hid (X3 w6 g9W (.int .i64 e0r) (.int .i64 e1r) (.int .i64 e2r)) := WE_5.out.later hB
  have WR_6 : Hid (OwnS w6 w4.heap.size (Value.slice a1 m d1) (Q)) := WR_5.out.later hB
  have z6 : w5.heap.size ≤ w6.heap.size := hB.size
  have P2_6 : Hid (OwnS w6 w5.heap.size (Value.slice p2 n k2) xs) := ho
  have I_P2 : Hid (∀ k, (Value.slice p2 n k2).ownBlock = some k → w5.heap.size ≤ k ∧ k < w6.heap.size) := World.ownsRow.lt P2_6.out
  clear hb hB HB_5 RP_5 A_5 T_5 WC_5 WE_5 WR_5 ho
  have hHB := HB_6.out.alloc HB_6.out.size (.cells #[.slice p2 n k2, .int .i64 t, .int .i64 y] 45)
  have hRP := RP_6.out.later (balloc w6 (.cells #[.slice p2 n k2, .int .i64 t, .int .i64 y] 45))
  have hA := A_6.out.later (balloc w6 (.cells #[.slice p2 n k2, .int .i64 t, .int .i64 y] 45))
  have hT := T_6.out.later (balloc w6 (.cells #[.slice p2 n k2, .int .i64 t, .int .i64 y] 45))
  have hWC := WC_6.out.later (balloc w6 (.cells #[.slice p2 n k2, .int .i64 t, .int .i64 y] 45))
  have hWE := WE_6.out.later (balloc w6 (.cells #[.slice p2 n k2, .int .i64 t, .int .i64 y] 45))
  have hWR := WR_6.out.later (balloc w6 (.cells #[.slice p2 n k2, .int .i64 t, .int .i64 y] 45))
  have hP2 := P2_6.out.later (balloc w6 (.cells #[.slice p2 n k2, .int .i64 t, .int .i64 y] 45))
  have hX := x3_new w6 (.slice p2 n k2) (.int .i64 t) (.int .i64 y) 45 w6.heap.size rfl
  have hz : (w6.alloc (.cells #[.slice p2 n k2, .int .i64 t, .int .i64 y] 45)).heap.size = w6.heap.size + 1 := by simp
  obtain ⟨w7, hV7⟩ : ∃ V, w6.alloc (.cells #[.slice p2 n k2, .int .i64 t, .int .i64 y] 45) = V := ⟨_, rfl⟩
  rw [hV7] at hHB hRP hA hT hWC hWE hWR hP2 hX hz
  have HB_7 : Hid (Below w.heap.size w w7) := hHB
  have RP_7 : Hid (RdS w7 ao xs) := hRP
  have A_7 : Hid (X3 w7 w.heap.size (.slice ao n c) (.int .i64 t) (.int .i64 y)) := hA
  have T_7 : Hid (X2 w7 w1.heap.size (.int .i64 kk) (.string s)) := hT
  have WC_7 : Hid (X3 w7 g8W (.slice a1 m d1) (.int .i64 T) (.int .i64 Y)) := hWC
  have WE_7 : Hid (X3 w7 g9W (.int .i64 e0r) (.int .i64 e1r) (.int .i64 e2r)) := hWE
  have WR_7 : Hid (OwnS w7 w4.heap.size (Value.slice a1 m d1) (Q)) := hWR
  have P2_7 : Hid (OwnS w7 w5.heap.size (Value.slice p2 n k2) xs) := hP2
  have X_7 : Hid (X3 w7 w6.heap.size (.slice p2 n k2) (.int .i64 t) (.int .i64 y)) := hX
  have z7 : w6.heap.size + 1 ≤ w7.heap.size := by omega
  clear HB_6 RP_6 A_6 T_6 WC_6 WE_6 WR_6 P2_6 hHB hRP hA hT hWC hWE hWR hP2 hX hz
  obtain ⟨⟨Xq0, Xq1, Xq2⟩, Xf⟩ := id (X_7.out)
  clear Xf
  obtain ⟨⟨Tq0, Tq1⟩, Tf⟩ := id (T_7.out)
  clear Tf
  go_upto_region 10 with fail
  clear hV7
  clear Xq0 Xq1 Xq2
  clear Tq0 Tq1
  refine wp_mono (stepReg10_w _ _ _ _ _ _ _ _ _ _ _ _ _ _ _ _ _ _ _ _ _ _ _ _ _ _ _ _ _ _ _ _ _ _ _ _ _ _ _ _ _ _ _ _ _ _ _ _ _ _ _ _ _ _ _ _ _ _ _ _ _ _ _ _ _ _ _ _ _ _ _ _ _ _ _ _ _ _ _ _ _ _ _ _ _ _ _ _ _ _ _ _ _ _ _ _ _ _ _ _ _ _ _ _ _ _ _ _ _ _ _ _ _ _ _ _ _ _ _ _ _ _ _ _ _ _ _ _ _ _ _ _ _ _ _ _ _ _ _ _ _ _ _ _ _ _ _ _ _ _ _ _ w6.heap.size w1.heap.size p2 k2 ao n c t y xs kk s m Q T Y e0r e1r e2r tx ok _ w7 X_7.out T_7.out hn P2_7.out.ok qi (fun  a2 d2 g8G g9G w8 h8 h9 ho hne hz8 hz9 hz89 hbb => ?_)) (fun e a w h => by cases e <;> first | exact h | exact h.elim)
  have HB_8 : Hid (Below w.heap.size w w8) := HB_7.out.trans (hbb.mono HB_7.out.size)
  have RP_8 : Hid (RdS w8 ao xs) := RP_7.out.later hbb
  have A_8 : Hid (X3 w8 w.heap.size (.slice ao n c) (.int .i64 t) (.int .i64 y)) := A_7.out.later hbb
  have T_8 : Hid (X2 w8 w1.heap.size (.int .i64 kk) (.string s)) := T_7.out.later hbb
  have WC_8 : Hid (X3 w8 g8W (.slice a1 m d1) (.int .i64 T) (.int .i64 Y)) := WC_7.out.later hbb
  have WE_8 : Hid (X3 w8 g9W (.int .i64 e0r) (.int .i64 e1r) (.int .i64 e2r)) := WE_7.out.later hbb
  have WR_8 : Hid (OwnS w8 w4.heap.size (Value.slice a1 m d1) (Q)) := WR_7.out.later hbb
  have P2_8 : Hid (OwnS w8 w5.heap.size (Value.slice p2 n k2) xs) := P2_7.out.later hbb
  have X_8 : Hid (X3 w8 w6.heap.size (.slice p2 n k2) (.int .i64 t) (.int .i64 y)) := X_7.out.later hbb
  have z8 : w7.heap.size ≤ w8.heap.size := hbb.size
  have GC_8 : Hid (X3 w8 g8G (.slice a2 m d2) (.int .i64 T) (.int .i64 Y)) := h8
  have GE_8 : Hid (X3 w8 g9G (.int .i64 e0r) (.int .i64 e1r) (.int .i64 e2r)) := h9
  have GR_8 : Hid (OwnS w8 w7.heap.size (Value.slice a2 m d2) (Q)) := ho
  have I_GR : Hid (∀ k, (Value.slice a2 m d2).ownBlock = some k → w7.heap.size ≤ k ∧ k < w8.heap.size) := World.ownsRow.lt ho
  have N_G : Hid (∀ k, (Value.slice a2 m d2).ownBlock = some k → k ≠ g8G ∧ k ≠ g9G) := hne
  have l8G : g8G < w8.heap.size := h8.lt
  have l9G : g9G < w8.heap.size := h9.lt
  clear h8 h9 ho hne hbb HB_7 RP_7 A_7 T_7 WC_7 WE_7 WR_7 P2_7 X_7
  obtain ⟨⟨GCq0, GCq1, GCq2⟩, GCf⟩ := id (GC_8.out)
  clear GCf
  obtain ⟨⟨WCq0, WCq1, WCq2⟩, WCf⟩ := id (WC_8.out)
  clear WCf
  go_wp2_with fail
  refine (eqClient_c a2 a1 m d2 m d1 T Y T Y Q Q _ HQ.out HQ.out (by omega) (by omega) GR_8.out.rd'.2 WR_8.out.rd'.2).mono ?_
  rw [decide_eq_true ⟨rfl, rfl, rfl⟩]
  clear GCq0 GCq1 GCq2
  clear WCq0 WCq1 WCq2
  rintro e w9 ⟨rfl, hb⟩
  have hB : Below w8.heap.size w8 w9 := hb
  have HB_9 : Hid (Below w.heap.size w w9) := HB_8.out.trans (hB.mono HB_8.out.size)
  have RP_9 : Hid (RdS w9 ao xs) := RP_8.out.later hB
  have A_9 : Hid (X3 w9 w.heap.size (.slice ao n c) (.int .i64 t) (.int .i64 y)) := A_8.out.later hB
  have T_9 : Hid (X2 w9 w1.heap.size (.int .i64 kk) (.string s)) := T_8.out.later hB
  have WC_9 : Hid (X3 w9 g8W (.slice a1 m d1) (.int .i64 T) (.int .i64 Y)) := WC_8.out.later hB
  have WE_9 : Hid (X3 w9 g9W (.int .i64 e0r) (.int .i64 e1r) (.int .i64 e2r)) := WE_8.out.later hB
  have WR_9 : Hid (OwnS w9 w4.heap.size (Value.slice a1 m d1) (Q)) := WR_8.out.later hB
  have P2_9 : Hid (OwnS w9 w5.heap.size (Value.slice p2 n k2) xs) := P2_8.out.later hB
  have X_9 : Hid (X3 w9 w6.heap.size (.slice p2 n k2) (.int .i64 t) (.int .i64 y)) := X_8.out.later hB
  have GC_9 : Hid (X3 w9 g8G (.slice a2 m d2) (.int .i64 T) (.int .i64 Y)) := GC_8.out.later hB
  have GE_9 : Hid (X3 w9 g9G (.int .i64 e0r) (.int .i64 e1r) (.int .i64 e2r)) := GE_8.out.later hB
  have GR_9 : Hid (OwnS w9 w7.heap.size (Value.slice a2 m d2) (Q)) := GR_8.out.later hB
  have z9 : w8.heap.size ≤ w9.heap.size := hB.size
  clear hb hB HB_8 RP_8 A_8 T_8 WC_8 WE_8 WR_8 P2_8 X_8 GC_8 GE_8 GR_8 
  obtain ⟨⟨GEq0, GEq1, GEq2⟩, GEf⟩ := id (GE_9.out)
  clear GEf
  obtain ⟨⟨WEq0, WEq1, WEq2⟩, WEf⟩ := id (WE_9.out)
  clear WEf
  go_wp2_with fail
  refine (eqEmit_c e0r e0r e1r e1r e2r e2r _).mono ?_
  rw [decide_eq_true rfl]
  clear GEq0 GEq1 GEq2
  clear WEq0 WEq1 WEq2
  rintro e w10 ⟨rfl, hb⟩
  have hB : Below w9.heap.size w9 w10 := hb
  have HB_10 : Hid (Below w.heap.size w w10) := HB_9.out.trans (hB.mono HB_9.out.size)
  have RP_10 : Hid (RdS w10 ao xs) := RP_9.out.later hB
  have A_10 : Hid (X3 w10 w.heap.size (.slice ao n c) (.int .i64 t) (.int .i64 y)) := A_9.out.later hB
  have T_10 : Hid (X2 w10 w1.heap.size (.int .i64 kk) (.string s)) := T_9.out.later hB
  have WC_10 : Hid (X3 w10 g8W (.slice a1 m d1) (.int .i64 T) (.int .i64 Y)) := WC_9.out.later hB
  have WE_10 : Hid (X3 w10 g9W (.int .i64 e0r) (.int .i64 e1r) (.int .i64 e2r)) := WE_9.out.later hB
  have WR_10 : Hid (OwnS w10 w4.heap.size (Value.slice a1 m d1) (Q)) := WR_9.out.later hB
  have P2_10 : Hid (OwnS w10 w5.heap.size (Value.slice p2 n k2) xs) := P2_9.out.later hB
  have X_10 : Hid (X3 w10 w6.heap.size (.slice p2 n k2) (.int .i64 t) (.int .i64 y)) := X_9.out.later hB
  have GC_10 : Hid (X3 w10 g8G (.slice a2 m d2) (.int .i64 T) (.int .i64 Y)) := GC_9.out.later hB
  have GE_10 : Hid (X3 w10 g9G (.int .i64 e0r) (.int .i64 e1r) (.int .i64 e2r)) := GE_9.out.later hB
  have GR_10 : Hid (OwnS w10 w7.heap.size (Value.slice a2 m d2) (Q)) := GR_9.out.later hB
  have z10 : w9.heap.size ≤ w10.heap.size := hB.size
  clear hb hB HB_9 RP_9 A_9 T_9 WC_9 WE_9 WR_9 P2_9 X_9 GC_9 GE_9 GR_9 
  obtain ⟨⟨Xq0, Xq1, Xq2⟩, Xf⟩ := id (X_10.out)
  clear Xf
  obtain ⟨⟨Aq0, Aq1, Aq2⟩, Af⟩ := id (A_10.out)
  clear Af
  go_wp2
  go_region_with (first | (go_at_call 40; (first | refine (toClient_c ao n c t y xs _ HX.out (by omega) (RP_10.out.later (Below.refl _ _).drew)).mono ?_ | refine (toClient_c ao n c t y xs _ HX.out (by omega) RP_10.out).mono ?_); rintro e w11 ⟨p5, k5, rfl, ho, hb⟩; have hB : Below w10.heap.size w10 w11 := (by first | exact hb | exact ((Below.refl w10.heap.size w10).drew).trans hb); have HB_11 : Hid (Below w.heap.size w w11) := HB_10.out.trans (hB.mono HB_10.out.size); have RP_11 : Hid (RdS w11 ao xs) := RP_10.out.later hB; have A_11 : Hid (X3 w11 w.heap.size (.slice ao n c) (.int .i64 t) (.int .i64 y)) := A_10.out.later hB; have T_11 : Hid (X2 w11 w1.heap.size (.int .i64 kk) (.string s)) := T_10.out.later hB; have WC_11 : Hid (X3 w11 g8W (.slice a1 m d1) (.int .i64 T) (.int .i64 Y)) := WC_10.out.later hB; have WE_11 : Hid (X3 w11 g9W (.int .i64 e0r) (.int .i64 e1r) (.int .i64 e2r)) := WE_10.out.later hB; have WR_11 : Hid (OwnS w11 w4.heap.size (Value.slice a1 m d1) (Q)) := WR_10.out.later hB; have P2_11 : Hid (OwnS w11 w5.heap.size (Value.slice p2 n k2) xs) := P2_10.out.later hB; have X_11 : Hid (X3 w11 w6.heap.size (.slice p2 n k2) (.int .i64 t) (.int .i64 y)) := X_10.out.later hB; have GC_11 : Hid (X3 w11 g8G (.slice a2 m d2) (.int .i64 T) (.int .i64 Y)) := GC_10.out.later hB; have GE_11 : Hid (X3 w11 g9G (.int .i64 e0r) (.int .i64 e1r) (.int .i64 e2r)) := GE_10.out.later hB; have GR_11 : Hid (OwnS w11 w7.heap.size (Value.slice a2 m d2) (Q)) := GR_10.out.later hB; have z11 : w10.heap.size ≤ w11.heap.size := hB.size; have N5_11 : Hid (OwnS w11 w10.heap.size (Value.slice p5 n k5) xs) := ho.mono (by first | exact Nat.le_refl _ | simp); obtain ⟨⟨eX0, eX1, eX2⟩, _⟩ := id (X_11.out); obtain ⟨⟨eA0, eA1, eA2⟩, _⟩ := id (A_11.out); clear hb hB) | (go_at_call 36; refine ((eqClient_c p2 p5 n k2 n k5 t y t y xs xs _ HX.out HX.out (by omega) (by omega) P2_11.out.rd'.2 N5_11.out.rd'.2).mono (fun e w' h => by rw [decide_eq_true ⟨rfl, rfl, rfl⟩] at h; exact h)).mono ?_; rintro e w12 ⟨rfl, hb⟩; have hB : Below w11.heap.size w11 w12 := (by first | exact hb | exact ((Below.refl w11.heap.size w11).drew).trans hb); have HB_12 : Hid (Below w.heap.size w w12) := HB_11.out.trans (hB.mono HB_11.out.size); have RP_12 : Hid (RdS w12 ao xs) := RP_11.out.later hB; have A_12 : Hid (X3 w12 w.heap.size (.slice ao n c) (.int .i64 t) (.int .i64 y)) := A_11.out.later hB; have T_12 : Hid (X2 w12 w1.heap.size (.int .i64 kk) (.string s)) := T_11.out.later hB; have WC_12 : Hid (X3 w12 g8W (.slice a1 m d1) (.int .i64 T) (.int .i64 Y)) := WC_11.out.later hB; have WE_12 : Hid (X3 w12 g9W (.int .i64 e0r) (.int .i64 e1r) (.int .i64 e2r)) := WE_11.out.later hB; have WR_12 : Hid (OwnS w12 w4.heap.size (Value.slice a1 m d1) (Q)) := WR_11.out.later hB; have P2_12 : Hid (OwnS w12 w5.heap.size (Value.slice p2 n k2) xs) := P2_11.out.later hB; have X_12 : Hid (X3 w12 w6.heap.size (.slice p2 n k2) (.int .i64 t) (.int .i64 y)) := X_11.out.later hB; have GC_12 : Hid (X3 w12 g8G (.slice a2 m d2) (.int .i64 T) (.int .i64 Y)) := GC_11.out.later hB; have GE_12 : Hid (X3 w12 g9G (.int .i64 e0r) (.int .i64 e1r) (.int .i64 e2r)) := GE_11.out.later hB; have GR_12 : Hid (OwnS w12 w7.heap.size (Value.slice a2 m d2) (Q)) := GR_11.out.later hB; have z12 : w11.heap.size ≤ w12.heap.size := hB.size; clear hb hB))
  all_goals (
    clear HB_10 HB_11 RP_10 RP_11 A_10 A_11 T_10 T_11 WC_10 WC_11 WE_10 WE_11 WR_10 WR_11 P2_10 P2_11 X_10 X_11 GC_10 GC_11 GE_10 GE_11 GR_10 GR_11 Xq0 eX0 Xq1 eX1 Xq2 eX2 Aq0 eA0 Aq1 eA1 Aq2 eA2 N5_11
    obtain ⟨⟨Xq0, Xq1, Xq2⟩, Xf⟩ := id (X_12.out)
    clear Xf
    go_wp2_with fail
    refine (markClient_c p2 n k2 t y 1 w5.heap.size xs _ (by omega) (by omega) (by omega) P2_12.out).mono ?_
    clear Xq0 Xq1 Xq2
    rintro e w13 ⟨rfl, ho, hg⟩
    have z13 : w12.heap.size ≤ w13.heap.size := hg.size
    have HB_13 : Hid (Below w.heap.size w w13) := Below.grown HB_12.out hg (by have := HB_12.out.size; omega) (fun k e => by have := I_P2.out k e; have := HB_12.out.size; omega)
    have A_13 : Hid (X3 w13 w.heap.size (.slice ao n c) (.int .i64 t) (.int .i64 y)) := A_12.out.grown hg (fun e => by have := I_P2.out _ e.symm; omega)
    have T_13 : Hid (X2 w13 w1.heap.size (.int .i64 kk) (.string s)) := T_12.out.grown hg (fun e => by have := I_P2.out _ e.symm; omega)
    have WC_13 : Hid (X3 w13 g8W (.slice a1 m d1) (.int .i64 T) (.int .i64 Y)) := WC_12.out.grown hg (fun e => by have := I_P2.out _ e.symm; omega)
    have WE_13 : Hid (X3 w13 g9W (.int .i64 e0r) (.int .i64 e1r) (.int .i64 e2r)) := WE_12.out.grown hg (fun e => by have := I_P2.out _ e.symm; omega)
    have WR_13 : Hid (OwnS w13 w4.heap.size (Value.slice a1 m d1) (Q)) := WR_12.out.kept hg (own_sep I_WR.out I_P2.out (by omega))
    have X_13 : Hid (X3 w13 w6.heap.size (.slice p2 n k2) (.int .i64 t) (.int .i64 y)) := X_12.out.grown hg (fun e => by have := I_P2.out _ e.symm; omega)
    have GC_13 : Hid (X3 w13 g8G (.slice a2 m d2) (.int .i64 T) (.int .i64 Y)) := GC_12.out.grown hg (fun e => by have := I_P2.out _ e.symm; omega)
    have GE_13 : Hid (X3 w13 g9G (.int .i64 e0r) (.int .i64 e1r) (.int .i64 e2r)) := GE_12.out.grown hg (fun e => by have := I_P2.out _ e.symm; omega)
    have GR_13 : Hid (OwnS w13 w7.heap.size (Value.slice a2 m d2) (Q)) := GR_12.out.kept hg (own_sep I_GR.out I_P2.out (by omega))
    have P2_13 : Hid (OwnS w13 w5.heap.size (Value.slice p2 n k2) (marksS 1 n)) := ho
    clear hg ho HB_12 RP_12 A_12 T_12 WC_12 WE_12 WR_12 P2_12 X_12 GC_12 GE_12 GR_12
    have RP_13 : Hid (RdS w13 ao xs) := HR0.out.later HB_13.out
    obtain ⟨⟨GCq0, GCq1, GCq2⟩, GCf⟩ := id (GC_13.out)
    clear GCf
    obtain ⟨⟨WCq0, WCq1, WCq2⟩, WCf⟩ := id (WC_13.out)
    clear WCf
    go_wp2_with fail
    refine (eqClient_c a2 a1 m d2 m d1 T Y T Y Q Q _ HQ.out HQ.out (by omega) (by omega) GR_13.out.rd'.2 WR_13.out.rd'.2).mono ?_
    rw [decide_eq_true ⟨rfl, rfl, rfl⟩]
    clear GCq0 GCq1 GCq2
    clear WCq0 WCq1 WCq2
    rintro e w14 ⟨rfl, hb⟩
    have hB : Below w13.heap.size w13 w14 := hb
    have HB_14 : Hid (Below w.heap.size w w14) := HB_13.out.trans (hB.mono HB_13.out.size)
    have A_14 : Hid (X3 w14 w.heap.size (.slice ao n c) (.int .i64 t) (.int .i64 y)) := A_13.out.later hB
    have T_14 : Hid (X2 w14 w1.heap.size (.int .i64 kk) (.string s)) := T_13.out.later hB
    have WC_14 : Hid (X3 w14 g8W (.slice a1 m d1) (.int .i64 T) (.int .i64 Y)) := WC_13.out.later hB
    have WE_14 : Hid (X3 w14 g9W (.int .i64 e0r) (.int .i64 e1r) (.int .i64 e2r)) := WE_13.out.later hB
    have WR_14 : Hid (OwnS w14 w4.heap.size (Value.slice a1 m d1) (Q)) := WR_13.out.later hB
    have P2_14 : Hid (OwnS w14 w5.heap.size (Value.slice p2 n k2) (marksS 1 n)) := P2_13.out.later hB
    have X_14 : Hid (X3 w14 w6.heap.size (.slice p2 n k2) (.int .i64 t) (.int .i64 y)) := X_13.out.later hB
    have GC_14 : Hid (X3 w14 g8G (.slice a2 m d2) (.int .i64 T) (.int .i64 Y)) := GC_13.out.later hB
    have GE_14 : Hid (X3 w14 g9G (.int .i64 e0r) (.int .i64 e1r) (.int .i64 e2r)) := GE_13.out.later hB
    have GR_14 : Hid (OwnS w14 w7.heap.size (Value.slice a2 m d2) (Q)) := GR_13.out.later hB
    have RP_14 : Hid (RdS w14 ao xs) := RP_13.out.later hB
    have z14 : w13.heap.size ≤ w14.heap.size := hB.size
    clear hb hB HB_13 A_13 T_13 WC_13 WE_13 WR_13 P2_13 X_13 GC_13 GE_13 GR_13 RP_13 
    obtain ⟨⟨GEq0, GEq1, GEq2⟩, GEf⟩ := id (GE_14.out)
    clear GEf
    obtain ⟨⟨WEq0, WEq1, WEq2⟩, WEf⟩ := id (WE_14.out)
    clear WEf
    go_wp2_with fail
    refine (eqEmit_c e0r e0r e1r e1r e2r e2r _).mono ?_
    rw [decide_eq_true rfl]
    clear GEq0 GEq1 GEq2
    clear WEq0 WEq1 WEq2
    rintro e w15 ⟨rfl, hb⟩
    have hB : Below w14.heap.size w14 w15 := hb
    have HB_15 : Hid (Below w.heap.size w w15) := HB_14.out.trans (hB.mono HB_14.out.size)
    have A_15 : Hid (X3 w15 w.heap.size (.slice ao n c) (.int .i64 t) (.int .i64 y)) := A_14.out.later hB
    have T_15 : Hid (X2 w15 w1.heap.size (.int .i64 kk) (.string s)) := T_14.out.later hB
    have WC_15 : Hid (X3 w15 g8W (.slice a1 m d1) (.int .i64 T) (.int .i64 Y)) := WC_14.out.later hB
    have WE_15 : Hid (X3 w15 g9W (.int .i64 e0r) (.int .i64 e1r) (.int .i64 e2r)) := WE_14.out.later hB
    have WR_15 : Hid (OwnS w15 w4.heap.size (Value.slice a1 m d1) (Q)) := WR_14.out.later hB
    have P2_15 : Hid (OwnS w15 w5.heap.size (Value.slice p2 n k2) (marksS 1 n)) := P2_14.out.later hB
    have X_15 : Hid (X3 w15 w6.heap.size (.slice p2 n k2) (.int .i64 t) (.int .i64 y)) := X_14.out.later hB
    have GC_15 : Hid (X3 w15 g8G (.slice a2 m d2) (.int .i64 T) (.int .i64 Y)) := GC_14.out.later hB
    have GE_15 : Hid (X3 w15 g9G (.int .i64 e0r) (.int .i64 e1r) (.int .i64 e2r)) := GE_14.out.later hB
    have GR_15 : Hid (OwnS w15 w7.heap.size (Value.slice a2 m d2) (Q)) := GR_14.out.later hB
    have RP_15 : Hid (RdS w15 ao xs) := RP_14.out.later hB
    have z15 : w14.heap.size ≤ w15.heap.size := hB.size
    clear hb hB HB_14 A_14 T_14 WC_14 WE_14 WR_14 P2_14 X_14 GC_14 GE_14 GR_14 RP_14 
    obtain ⟨⟨GCq0, GCq1, GCq2⟩, GCf⟩ := id (GC_15.out)
    clear GCf
    go_wp2_with fail
    refine (markClient_c a2 m d2 T Y 1 w7.heap.size Q _ (by omega) (by omega) (by omega) GR_15.out).mono ?_
    clear GCq0 GCq1 GCq2
    rintro e w16 ⟨rfl, ho, hg⟩
    have z16 : w15.heap.size ≤ w16.heap.size := hg.size
    have HB_16 : Hid (Below w.heap.size w w16) := Below.grown HB_15.out hg (by have := HB_15.out.size; omega) (fun k e => by have := I_GR.out k e; have := HB_15.out.size; omega)
    have A_16 : Hid (X3 w16 w.heap.size (.slice ao n c) (.int .i64 t) (.int .i64 y)) := A_15.out.grown hg (fun e => by have := I_GR.out _ e.symm; omega)
    have T_16 : Hid (X2 w16 w1.heap.size (.int .i64 kk) (.string s)) := T_15.out.grown hg (fun e => by have := I_GR.out _ e.symm; omega)
    have WC_16 : Hid (X3 w16 g8W (.slice a1 m d1) (.int .i64 T) (.int .i64 Y)) := WC_15.out.grown hg (fun e => by have := I_GR.out _ e.symm; omega)
    have WE_16 : Hid (X3 w16 g9W (.int .i64 e0r) (.int .i64 e1r) (.int .i64 e2r)) := WE_15.out.grown hg (fun e => by have := I_GR.out _ e.symm; omega)
    have WR_16 : Hid (OwnS w16 w4.heap.size (Value.slice a1 m d1) (Q)) := WR_15.out.kept hg (own_sep I_WR.out I_GR.out (by omega))
    have P2_16 : Hid (OwnS w16 w5.heap.size (Value.slice p2 n k2) (marksS 1 n)) := P2_15.out.kept hg (own_sep I_P2.out I_GR.out (by omega))
    have X_16 : Hid (X3 w16 w6.heap.size (.slice p2 n k2) (.int .i64 t) (.int .i64 y)) := X_15.out.grown hg (fun e => by have := I_GR.out _ e.symm; omega)
    have GC_16 : Hid (X3 w16 g8G (.slice a2 m d2) (.int .i64 T) (.int .i64 Y)) := GC_15.out.grown hg (fun e => (N_G.out _ e.symm).1 rfl)
    have GE_16 : Hid (X3 w16 g9G (.int .i64 e0r) (.int .i64 e1r) (.int .i64 e2r)) := GE_15.out.grown hg (fun e => (N_G.out _ e.symm).2 rfl)
    have GR_16 : Hid (OwnS w16 w7.heap.size (Value.slice a2 m d2) (marksS 1 m)) := ho
    clear hg ho HB_15 A_15 T_15 WC_15 WE_15 WR_15 P2_15 X_15 GC_15 GE_15 GR_15 RP_15
    have RP_16 : Hid (RdS w16 ao xs) := HR0.out.later HB_16.out
    obtain ⟨⟨GCq0, GCq1, GCq2⟩, GCf⟩ := id (GC_16.out)
    clear GCf
    go_wp2_with fail
    refine (heldClient_c a2 m d2 T Y 1 w7.heap.size _ (by omega) (by omega) (by omega) GR_16.out).mono ?_
    clear GCq0 GCq1 GCq2
    rintro e w17 ⟨rfl, hb⟩
    have hB : Below w16.heap.size w16 w17 := hb
    have HB_17 : Hid (Below w.heap.size w w17) := HB_16.out.trans (hB.mono HB_16.out.size)
    have A_17 : Hid (X3 w17 w.heap.size (.slice ao n c) (.int .i64 t) (.int .i64 y)) := A_16.out.later hB
    have T_17 : Hid (X2 w17 w1.heap.size (.int .i64 kk) (.string s)) := T_16.out.later hB
    have WC_17 : Hid (X3 w17 g8W (.slice a1 m d1) (.int .i64 T) (.int .i64 Y)) := WC_16.out.later hB
    have WE_17 : Hid (X3 w17 g9W (.int .i64 e0r) (.int .i64 e1r) (.int .i64 e2r)) := WE_16.out.later hB
    have WR_17 : Hid (OwnS w17 w4.heap.size (Value.slice a1 m d1) (Q)) := WR_16.out.later hB
    have P2_17 : Hid (OwnS w17 w5.heap.size (Value.slice p2 n k2) (marksS 1 n)) := P2_16.out.later hB
    have X_17 : Hid (X3 w17 w6.heap.size (.slice p2 n k2) (.int .i64 t) (.int .i64 y)) := X_16.out.later hB
    have GC_17 : Hid (X3 w17 g8G (.slice a2 m d2) (.int .i64 T) (.int .i64 Y)) := GC_16.out.later hB
    have GE_17 : Hid (X3 w17 g9G (.int .i64 e0r) (.int .i64 e1r) (.int .i64 e2r)) := GE_16.out.later hB
    have GR_17 : Hid (OwnS w17 w7.heap.size (Value.slice a2 m d2) (marksS 1 m)) := GR_16.out.later hB
    have RP_17 : Hid (RdS w17 ao xs) := RP_16.out.later hB
    have z17 : w16.heap.size ≤ w17.heap.size := hB.size
    clear hb hB HB_16 A_16 T_16 WC_16 WE_16 WR_16 P2_16 X_16 GC_16 GE_16 GR_16 RP_16 
    obtain ⟨⟨Aq0, Aq1, Aq2⟩, Af⟩ := id (A_17.out)
    clear Af
    obtain ⟨⟨Tq0, Tq1⟩, Tf⟩ := id (T_17.out)
    clear Tf
    go_upto_region 27 with fail
    clear Aq0 Aq1 Aq2
    clear Tq0 Tq1
    refine wp_mono (stepReg27_w _ _ _ _ _ _ _ _ _ _ _ _ _ _ _ _ _ _ _ _ _ _ _ _ _ _ _ _ _ _ _ _ _ _ _ _ _ _ _ _ _ _ _ _ _ _ _ _ _ _ _ _ _ _ _ _ _ _ _ _ _ _ _ _ _ _ _ _ _ _ _ _ _ _ _ _ _ _ _ _ _ _ _ _ _ _ _ _ _ _ _ _ _ _ _ _ _ _ _ _ _ _ _ _ _ _ _ _ _ _ _ _ _ _ _ _ _ _ _ _ _ _ _ _ _ _ _ _ _ _ _ _ _ _ _ _ _ _ _ _ _ _ _ _ _ _ _ _ _ _ _ _ w.heap.size w1.heap.size ao n c t y xs kk s m Q T Y e0r e1r e2r tx ok _ w17 A_17.out T_17.out HX.out hn RP_17.out qi (fun pA2 kA2 a3 d3 g8H g9H w18 h8 h9 ho hne hz8 hz9 hz89 hbb => ?_)) (fun e a w h => by cases e <;> first | exact h | exact h.elim)
    have HB_18 : Hid (Below w.heap.size w w18) := HB_17.out.trans (hbb.mono HB_17.out.size)
    have A_18 : Hid (X3 w18 w.heap.size (.slice ao n c) (.int .i64 t) (.int .i64 y)) := A_17.out.later hbb
    have T_18 : Hid (X2 w18 w1.heap.size (.int .i64 kk) (.string s)) := T_17.out.later hbb
    have WC_18 : Hid (X3 w18 g8W (.slice a1 m d1) (.int .i64 T) (.int .i64 Y)) := WC_17.out.later hbb
    have WE_18 : Hid (X3 w18 g9W (.int .i64 e0r) (.int .i64 e1r) (.int .i64 e2r)) := WE_17.out.later hbb
    have WR_18 : Hid (OwnS w18 w4.heap.size (Value.slice a1 m d1) (Q)) := WR_17.out.later hbb
    have P2_18 : Hid (OwnS w18 w5.heap.size (Value.slice p2 n k2) (marksS 1 n)) := P2_17.out.later hbb
    have X_18 : Hid (X3 w18 w6.heap.size (.slice p2 n k2) (.int .i64 t) (.int .i64 y)) := X_17.out.later hbb
    have GC_18 : Hid (X3 w18 g8G (.slice a2 m d2) (.int .i64 T) (.int .i64 Y)) := GC_17.out.later hbb
    have GE_18 : Hid (X3 w18 g9G (.int .i64 e0r) (.int .i64 e1r) (.int .i64 e2r)) := GE_17.out.later hbb
    have GR_18 : Hid (OwnS w18 w7.heap.size (Value.slice a2 m d2) (marksS 1 m)) := GR_17.out.later hbb
    have RP_18 : Hid (RdS w18 ao xs) := RP_17.out.later hbb
    have z18 : w17.heap.size ≤ w18.heap.size := hbb.size
    have HC_18 : Hid (X3 w18 g8H (.slice a3 m d3) (.int .i64 T) (.int .i64 Y)) := h8
    have HE_18 : Hid (X3 w18 g9H (.int .i64 e0r) (.int .i64 e1r) (.int .i64 e2r)) := h9
    have HR_18 : Hid (OwnS w18 w17.heap.size (Value.slice a3 m d3) (Q)) := ho
    have I_HR : Hid (∀ k, (Value.slice a3 m d3).ownBlock = some k → w17.heap.size ≤ k ∧ k < w18.heap.size) := World.ownsRow.lt ho
    have N_H : Hid (∀ k, (Value.slice a3 m d3).ownBlock = some k → k ≠ g8H ∧ k ≠ g9H) := hne
    have l8H : g8H < w18.heap.size := h8.lt
    have l9H : g9H < w18.heap.size := h9.lt
    clear h8 h9 ho hne hbb HB_17 A_17 T_17 WC_17 WE_17 WR_17 P2_17 X_17 GC_17 GE_17 GR_17 RP_17
    obtain ⟨⟨HCq0, HCq1, HCq2⟩, HCf⟩ := id (HC_18.out)
    clear HCf
    obtain ⟨⟨WCq0, WCq1, WCq2⟩, WCf⟩ := id (WC_18.out)
    clear WCf
    go_wp2_with fail
    refine (eqClient_c a3 a1 m d3 m d1 T Y T Y Q Q _ HQ.out HQ.out (by omega) (by omega) HR_18.out.rd'.2 WR_18.out.rd'.2).mono ?_
    rw [decide_eq_true ⟨rfl, rfl, rfl⟩]
    clear HCq0 HCq1 HCq2
    clear WCq0 WCq1 WCq2
    rintro e w19 ⟨rfl, hb⟩
    have hB : Below w18.heap.size w18 w19 := hb
    have HB_19 : Hid (Below w.heap.size w w19) := HB_18.out.trans (hB.mono HB_18.out.size)
    have A_19 : Hid (X3 w19 w.heap.size (.slice ao n c) (.int .i64 t) (.int .i64 y)) := A_18.out.later hB
    have T_19 : Hid (X2 w19 w1.heap.size (.int .i64 kk) (.string s)) := T_18.out.later hB
    have WC_19 : Hid (X3 w19 g8W (.slice a1 m d1) (.int .i64 T) (.int .i64 Y)) := WC_18.out.later hB
    have WE_19 : Hid (X3 w19 g9W (.int .i64 e0r) (.int .i64 e1r) (.int .i64 e2r)) := WE_18.out.later hB
    have WR_19 : Hid (OwnS w19 w4.heap.size (Value.slice a1 m d1) (Q)) := WR_18.out.later hB
    have P2_19 : Hid (OwnS w19 w5.heap.size (Value.slice p2 n k2) (marksS 1 n)) := P2_18.out.later hB
    have X_19 : Hid (X3 w19 w6.heap.size (.slice p2 n k2) (.int .i64 t) (.int .i64 y)) := X_18.out.later hB
    have GC_19 : Hid (X3 w19 g8G (.slice a2 m d2) (.int .i64 T) (.int .i64 Y)) := GC_18.out.later hB
    have GE_19 : Hid (X3 w19 g9G (.int .i64 e0r) (.int .i64 e1r) (.int .i64 e2r)) := GE_18.out.later hB
    have GR_19 : Hid (OwnS w19 w7.heap.size (Value.slice a2 m d2) (marksS 1 m)) := GR_18.out.later hB
    have RP_19 : Hid (RdS w19 ao xs) := RP_18.out.later hB
    have HC_19 : Hid (X3 w19 g8H (.slice a3 m d3) (.int .i64 T) (.int .i64 Y)) := HC_18.out.later hB
    have HE_19 : Hid (X3 w19 g9H (.int .i64 e0r) (.int .i64 e1r) (.int .i64 e2r)) := HE_18.out.later hB
    have HR_19 : Hid (OwnS w19 w17.heap.size (Value.slice a3 m d3) (Q)) := HR_18.out.later hB
    have z19 : w18.heap.size ≤ w19.heap.size := hB.size
    clear hb hB HB_18 A_18 T_18 WC_18 WE_18 WR_18 P2_18 X_18 GC_18 GE_18 GR_18 RP_18 HC_18 HE_18 HR_18 
    obtain ⟨⟨HEq0, HEq1, HEq2⟩, HEf⟩ := id (HE_19.out)
    clear HEf
    obtain ⟨⟨WEq0, WEq1, WEq2⟩, WEf⟩ := id (WE_19.out)
    clear WEf
    go_wp2_with fail
    refine (eqEmit_c e0r e0r e1r e1r e2r e2r _).mono ?_
    rw [decide_eq_true rfl]
    clear HEq0 HEq1 HEq2
    clear WEq0 WEq1 WEq2
    rintro e w20 ⟨rfl, hb⟩
    have hB : Below w19.heap.size w19 w20 := hb
    have HB_20 : Hid (Below w.heap.size w w20) := HB_19.out.trans (hB.mono HB_19.out.size)
    have A_20 : Hid (X3 w20 w.heap.size (.slice ao n c) (.int .i64 t) (.int .i64 y)) := A_19.out.later hB
    have T_20 : Hid (X2 w20 w1.heap.size (.int .i64 kk) (.string s)) := T_19.out.later hB
    have WC_20 : Hid (X3 w20 g8W (.slice a1 m d1) (.int .i64 T) (.int .i64 Y)) := WC_19.out.later hB
    have WE_20 : Hid (X3 w20 g9W (.int .i64 e0r) (.int .i64 e1r) (.int .i64 e2r)) := WE_19.out.later hB
    have WR_20 : Hid (OwnS w20 w4.heap.size (Value.slice a1 m d1) (Q)) := WR_19.out.later hB
    have P2_20 : Hid (OwnS w20 w5.heap.size (Value.slice p2 n k2) (marksS 1 n)) := P2_19.out.later hB
    have X_20 : Hid (X3 w20 w6.heap.size (.slice p2 n k2) (.int .i64 t) (.int .i64 y)) := X_19.out.later hB
    have GC_20 : Hid (X3 w20 g8G (.slice a2 m d2) (.int .i64 T) (.int .i64 Y)) := GC_19.out.later hB
    have GE_20 : Hid (X3 w20 g9G (.int .i64 e0r) (.int .i64 e1r) (.int .i64 e2r)) := GE_19.out.later hB
    have GR_20 : Hid (OwnS w20 w7.heap.size (Value.slice a2 m d2) (marksS 1 m)) := GR_19.out.later hB
    have RP_20 : Hid (RdS w20 ao xs) := RP_19.out.later hB
    have HC_20 : Hid (X3 w20 g8H (.slice a3 m d3) (.int .i64 T) (.int .i64 Y)) := HC_19.out.later hB
    have HE_20 : Hid (X3 w20 g9H (.int .i64 e0r) (.int .i64 e1r) (.int .i64 e2r)) := HE_19.out.later hB
    have HR_20 : Hid (OwnS w20 w17.heap.size (Value.slice a3 m d3) (Q)) := HR_19.out.later hB
    have z20 : w19.heap.size ≤ w20.heap.size := hB.size
    clear hb hB HB_19 A_19 T_19 WC_19 WE_19 WR_19 P2_19 X_19 GC_19 GE_19 GR_19 RP_19 HC_19 HE_19 HR_19 
    obtain ⟨⟨GCq0, GCq1, GCq2⟩, GCf⟩ := id (GC_20.out)
    clear GCf
    go_wp2_with fail
    refine (heldClient_c a2 m d2 T Y 1 w7.heap.size _ (by omega) (by omega) (by omega) GR_20.out).mono ?_
    clear GCq0 GCq1 GCq2
    rintro e w21 ⟨rfl, hb⟩
    have hB : Below w20.heap.size w20 w21 := hb
    have HB_21 : Hid (Below w.heap.size w w21) := HB_20.out.trans (hB.mono HB_20.out.size)
    have A_21 : Hid (X3 w21 w.heap.size (.slice ao n c) (.int .i64 t) (.int .i64 y)) := A_20.out.later hB
    have T_21 : Hid (X2 w21 w1.heap.size (.int .i64 kk) (.string s)) := T_20.out.later hB
    have WC_21 : Hid (X3 w21 g8W (.slice a1 m d1) (.int .i64 T) (.int .i64 Y)) := WC_20.out.later hB
    have WE_21 : Hid (X3 w21 g9W (.int .i64 e0r) (.int .i64 e1r) (.int .i64 e2r)) := WE_20.out.later hB
    have WR_21 : Hid (OwnS w21 w4.heap.size (Value.slice a1 m d1) (Q)) := WR_20.out.later hB
    have P2_21 : Hid (OwnS w21 w5.heap.size (Value.slice p2 n k2) (marksS 1 n)) := P2_20.out.later hB
    have X_21 : Hid (X3 w21 w6.heap.size (.slice p2 n k2) (.int .i64 t) (.int .i64 y)) := X_20.out.later hB
    have GC_21 : Hid (X3 w21 g8G (.slice a2 m d2) (.int .i64 T) (.int .i64 Y)) := GC_20.out.later hB
    have GE_21 : Hid (X3 w21 g9G (.int .i64 e0r) (.int .i64 e1r) (.int .i64 e2r)) := GE_20.out.later hB
    have GR_21 : Hid (OwnS w21 w7.heap.size (Value.slice a2 m d2) (marksS 1 m)) := GR_20.out.later hB
    have RP_21 : Hid (RdS w21 ao xs) := RP_20.out.later hB
    have HC_21 : Hid (X3 w21 g8H (.slice a3 m d3) (.int .i64 T) (.int .i64 Y)) := HC_20.out.later hB
    have HE_21 : Hid (X3 w21 g9H (.int .i64 e0r) (.int .i64 e1r) (.int .i64 e2r)) := HE_20.out.later hB
    have HR_21 : Hid (OwnS w21 w17.heap.size (Value.slice a3 m d3) (Q)) := HR_20.out.later hB
    have z21 : w20.heap.size ≤ w21.heap.size := hB.size
    clear hb hB HB_20 A_20 T_20 WC_20 WE_20 WR_20 P2_20 X_20 GC_20 GE_20 GR_20 RP_20 HC_20 HE_20 HR_20 
    go_wp2
    go_ret
    exact ⟨rfl, HB_21.out⟩)

end Go.Proofs.Yteopaocomfepfaa
