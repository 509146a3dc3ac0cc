/- The law on GoodMix, walked: it answers true at every argument and turns nothing that was there. -/
import Derived.Test.YtelchkoplncmaaaX8
import Derived.Test.YtelchkoplncmaaaSG8
namespace Go.Proofs.Ytelchkoplncmaaa
set_option linter.unusedVariables false
set_option maxRecDepth 1000000
set_option linter.unusedSimpArgs false
open Go.RowKit

set_option maxHeartbeats 16000000 in
theorem lawGood_c (po so : Option Addr) (n c m d : Nat) (a b t : Int) (xs : List ByteArray) (ys : List Int) (w : World) (hx : xs.length = n) (hy : ys.length = m) (hn0 : n ≤ 9223372036854775807) (hm0 : m ≤ 9223372036854775807) (hr : RdS w po xs) (hs : Rd w so ys) (hz : ∀ s ∈ xs, s.size ≤ 9223372036854775807) :
    Calls Try.prog 6 #[.agg #[.slice po n c, .int .i64 a, .int .i64 b, .int .i64 t, .slice so m d]] w fun e w' => e = .returned (.bool true) ∧ Below w.heap.size w w' := by
  have HX : Hid (xs.length = n) := hx
  have HY : Hid (ys.length = m) := hy
  have HZ : Hid (∀ s ∈ xs, s.size ≤ 9223372036854775807) := hz
  clear hx hy hz
  obtain ⟨gb, hgb⟩ : ∃ gb, goodB ⟨xs, a, b, t, ys⟩ = gb := ⟨_, rfl⟩
  have HG : Hid (goodB ⟨xs, a, b, t, ys⟩ = gb) := hgb
  have hne : (gb != gb) = false := by simp
  clear hgb
  have HB_0 : Hid (Below w.heap.size w w) := Below.refl _ _
  have RP_0 : Hid (RdS w po xs) := hr
  have RS_0 : Hid (Rd w so ys) := hs
  clear hr hs
  have hHB := HB_0.out.alloc HB_0.out.size (.cells #[.slice po n c, .int .i64 a, .int .i64 b, .int .i64 t, .slice so m d] 58)
  have hRP := RP_0.out.later (balloc w (.cells #[.slice po n c, .int .i64 a, .int .i64 b, .int .i64 t, .slice so m d] 58))
  have hRS := RS_0.out.later (balloc w (.cells #[.slice po n c, .int .i64 a, .int .i64 b, .int .i64 t, .slice so m d] 58))
  have hA := c5_new w (.slice po n c) a b t (.slice so m d) 58 w.heap.size rfl
  have hz : (w.alloc (.cells #[.slice po n c, .int .i64 a, .int .i64 b, .int .i64 t, .slice so m d] 58)).heap.size = w.heap.size + 1 := by simp
  obtain ⟨w1, hV1⟩ : ∃ V, w.alloc (.cells #[.slice po n c, .int .i64 a, .int .i64 b, .int .i64 t, .slice so m d] 58) = V := ⟨_, rfl⟩
  rw [hV1] at hHB hRP hRS hA hz
  have HB_1 : Hid (Below w.heap.size w w1) := hHB
  have RP_1 : Hid (RdS w1 po xs) := hRP
  have RS_1 : Hid (Rd w1 so ys) := hRS
  have A_1 : Hid (C5 w1 w.heap.size (.slice po n c) a b t (.slice so m d)) := hA
  have z1 : w.heap.size + 1 ≤ w1.heap.size := by omega
  clear HB_0 RP_0 RS_0 hHB hRP hRS hA hz
  go_enter Try.func6, Try.ntmps6
  obtain ⟨⟨A0, A1, A2, A3, A4⟩, Af⟩ := A_1.out
  clear Af
  go_wp2_with fail
  clear hV1
  refine (szMix_c po so n c m d a b t xs _ HX.out hn0 hm0 HZ.out RP_1.out).mono ?_
  clear A0 A1 A2 A3 A4
  rintro e w2 ⟨r, rfl, hr1, hr2, hb⟩
  have hB : Below w1.heap.size w1 w2 := hb
  have HB_2 : Hid (Below w.heap.size w w2) := HB_1.out.trans (hB.mono HB_1.out.size)
  have RP_2 : Hid (RdS w2 po xs) := RP_1.out.later hB
  have RS_2 : Hid (Rd w2 so ys) := RS_1.out.later hB
  have A_2 : Hid (C5 w2 w.heap.size (.slice po n c) a b t (.slice so m d)) := A_1.out.later hB
  have z2 : w1.heap.size ≤ w2.heap.size := hB.size
  clear hb hB HB_1 RP_1 RS_1 A_1 
  by_cases hr0 : r < 0
  · go_wp2
    go_ret
    exact ⟨rfl, HB_2.out⟩
  have hn : n ≤ 1048576 := (hr2 (by omega)).1
  have hm : m ≤ 1048576 := (hr2 (by omega)).2
  have hrn : ¬ r < 0 := hr0
  clear hr1 hr2 hr0
  obtain ⟨⟨A0, A1, A2, A3, A4⟩, Af⟩ := A_2.out
  clear Af
  go_wp2_with fail
  refine (toMix_c po so n c m d a b t xs ys _ HX.out HY.out hn hm RP_2.out RS_2.out).mono ?_
  clear A0 A1 A2 A3 A4
  rintro e w3 ⟨p1, k1, s1, d1, rfl, ho, hp, hb⟩
  have hB : Below w2.heap.size w2 w3 := hb
  have HB_3 : Hid (Below w.heap.size w w3) := HB_2.out.trans (hB.mono HB_2.out.size)
  have RP_3 : Hid (RdS w3 po xs) := RP_2.out.later hB
  have RS_3 : Hid (Rd w3 so ys) := RS_2.out.later hB
  have A_3 : Hid (C5 w3 w.heap.size (.slice po n c) a b t (.slice so m d)) := A_2.out.later hB
  have z3 : w2.heap.size ≤ w3.heap.size := hB.size
  have P1_3 : Hid (OwnS w3 w2.heap.size (Value.slice p1 n k1) xs) := ho
  have I_P1 : Hid (∀ k, (Value.slice p1 n k1).ownBlock = some k → w2.heap.size ≤ k ∧ k < w3.heap.size) := World.ownsRow.lt P1_3.out
  have S1_3 : Hid (Own w3 w2.heap.size (Value.slice s1 m d1) ys) := hp
  have I_S1 : Hid (∀ k, (Value.slice s1 m d1).ownBlock = some k → w2.heap.size ≤ k ∧ k < w3.heap.size) := World.ownsRow.lt S1_3.out
  clear hb hB HB_2 RP_2 RS_2 A_2 ho hp
  go_wp2_with fail
  refine (specGood_c p1 s1 n k1 m d1 a b t xs ys _ HX.out HY.out (by omega) (by omega) P1_3.out.rd'.2 S1_3.out.rd'.2 HZ.out).mono ?_
  rw [HG.out]
  rintro e w4 ⟨rfl, hb⟩
  have hB : Below w3.heap.size w3 w4 := hb
  have HB_4 : Hid (Below w.heap.size w w4) := HB_3.out.trans (hB.mono HB_3.out.size)
  have RP_4 : Hid (RdS w4 po xs) := RP_3.out.later hB
  have RS_4 : Hid (Rd w4 so ys) := RS_3.out.later hB
  have A_4 : Hid (C5 w4 w.heap.size (.slice po n c) a b t (.slice so m d)) := A_3.out.later hB
  have z4 : w3.heap.size ≤ w4.heap.size := hB.size
  clear hb hB HB_3 RP_3 RS_3 A_3 P1_3 S1_3 
  obtain ⟨⟨A0, A1, A2, A3, A4⟩, Af⟩ := A_4.out
  clear Af
  go_wp2_with fail
  refine (toMix_c po so n c m d a b t xs ys _ HX.out HY.out hn hm RP_4.out RS_4.out).mono ?_
  clear A0 A1 A2 A3 A4
  rintro e w5 ⟨p2, k2, s2, d2, rfl, ho, hp, hb⟩
  have hB : Below w4.heap.size w4 w5 := hb
  have HB_5 : Hid (Below w.heap.size w w5) := HB_4.out.trans (hB.mono HB_4.out.size)
  have RP_5 : Hid (RdS w5 po xs) := RP_4.out.later hB
  have RS_5 : Hid (Rd w5 so ys) := RS_4.out.later hB
  have A_5 : Hid (C5 w5 w.heap.size (.slice po n c) a b t (.slice so m d)) := A_4.out.later hB
  have z5 : w4.heap.size ≤ w5.heap.size := hB.size
  have P2_5 : Hid (OwnS w5 w4.heap.size (Value.slice p2 n k2) xs) := ho
  have I_P2 : Hid (∀ k, (Value.slice p2 n k2).ownBlock = some k → w4.heap.size ≤ k ∧ k < w5.heap.size) := World.ownsRow.lt P2_5.out
  have S2_5 : Hid (Own w5 w4.heap.size (Value.slice s2 m d2) ys) := hp
  have I_S2 : Hid (∀ k, (Value.slice s2 m d2).ownBlock = some k → w4.heap.size ≤ k ∧ k < w5.heap.size) := World.ownsRow.lt S2_5.out
  clear hb hB HB_4 RP_4 RS_4 A_4 ho hp
  have hHB := HB_5.out.alloc HB_5.out.size (.cells #[.slice p2 n k2, .int .i64 a, .int .i64 b, .int .i64 t, .slice s2 m d2] 41)
  have hRP := RP_5.out.later (balloc w5 (.cells #[.slice p2 n k2, .int .i64 a, .int .i64 b, .int .i64 t, .slice s2 m d2] 41))
  have hRS := RS_5.out.later (balloc w5 (.cells #[.slice p2 n k2, .int .i64 a, .int .i64 b, .int .i64 t, .slice s2 m d2] 41))
  have hA := A_5.out.later (balloc w5 (.cells #[.slice p2 n k2, .int .i64 a, .int .i64 b, .int .i64 t, .slice s2 m d2] 41))
  have hP2 := P2_5.out.later (balloc w5 (.cells #[.slice p2 n k2, .int .i64 a, .int .i64 b, .int .i64 t, .slice s2 m d2] 41))
  have hS2 := S2_5.out.later (balloc w5 (.cells #[.slice p2 n k2, .int .i64 a, .int .i64 b, .int .i64 t, .slice s2 m d2] 41))
  have hX := c5_new w5 (.slice p2 n k2) a b t (.slice s2 m d2) 41 w5.heap.size rfl
  have hz : (w5.alloc (.cells #[.slice p2 n k2, .int .i64 a, .int .i64 b, .int .i64 t, .slice s2 m d2] 41)).heap.size = w5.heap.size + 1 := by simp
  obtain ⟨w6, hV6⟩ : ∃ V, w5.alloc (.cells #[.slice p2 n k2, .int .i64 a, .int .i64 b, .int .i64 t, .slice s2 m d2] 41) = V := ⟨_, rfl⟩
  rw [hV6] at hHB hRP hRS hA hP2 hS2 hX hz
  have HB_6 : Hid (Below w.heap.size w w6) := hHB
  have RP_6 : Hid (RdS w6 po xs) := hRP
  have RS_6 : Hid (Rd w6 so ys) := hRS
  have A_6 : Hid (C5 w6 w.heap.size (.slice po n c) a b t (.slice so m d)) := hA
  have P2_6 : Hid (OwnS w6 w4.heap.size (Value.slice p2 n k2) xs) := hP2
  have S2_6 : Hid (Own w6 w4.heap.size (Value.slice s2 m d2) ys) := hS2
  have X_6 : Hid (C5 w6 w5.heap.size (.slice p2 n k2) a b t (.slice s2 m d2)) := hX
  have z6 : w5.heap.size + 1 ≤ w6.heap.size := by omega
  clear HB_5 RP_5 RS_5 A_5 P2_5 S2_5 hHB hRP hRS hA hP2 hS2 hX hz
  obtain ⟨⟨X0, X1, X2, X3, X4⟩, Xf⟩ := X_6.out
  clear Xf
  go_wp2_with fail
  clear hV6
  refine (implGood_c p2 s2 n k2 m d2 a b t xs ys _ HX.out HY.out (by omega) (by omega) P2_6.out.rd'.2 S2_6.out.rd'.2 HZ.out).mono ?_
  rw [HG.out]
  clear X0 X1 X2 X3 X4
  rintro e w7 ⟨rfl, hb⟩
  have hB : Below w6.heap.size w6 w7 := hb
  have HB_7 : Hid (Below w.heap.size w w7) := HB_6.out.trans (hB.mono HB_6.out.size)
  have RP_7 : Hid (RdS w7 po xs) := RP_6.out.later hB
  have RS_7 : Hid (Rd w7 so ys) := RS_6.out.later hB
  have A_7 : Hid (C5 w7 w.heap.size (.slice po n c) a b t (.slice so m d)) := A_6.out.later hB
  have P2_7 : Hid (OwnS w7 w4.heap.size (Value.slice p2 n k2) xs) := P2_6.out.later hB
  have S2_7 : Hid (Own w7 w4.heap.size (Value.slice s2 m d2) ys) := S2_6.out.later hB
  have X_7 : Hid (C5 w7 w5.heap.size (.slice p2 n k2) a b t (.slice s2 m d2)) := X_6.out.later hB
  have z7 : w6.heap.size ≤ w7.heap.size := hB.size
  clear hb hB HB_6 RP_6 RS_6 A_6 P2_6 S2_6 X_6 
  obtain ⟨⟨A0, A1, A2, A3, A4⟩, Af⟩ := A_7.out
  clear Af
  obtain ⟨⟨X0, X1, X2, X3, X4⟩, Xf⟩ := X_7.out
  clear Xf
  go_wp2
  go_region_with (first | (go_at_call 42; (first | refine (toMix_c po so n c m d a b t xs ys _ HX.out HY.out hn hm (RP_7.out.later (Below.refl _ _).drew) (RS_7.out.later (Below.refl _ _).drew)).mono ?_ | refine (toMix_c po so n c m d a b t xs ys _ HX.out HY.out hn hm RP_7.out RS_7.out).mono ?_); rintro e w8 ⟨p3, k3, s3, d3, rfl, ho, hp, hb⟩; have hB : Below w7.heap.size w7 w8 := (by first | exact hb | exact ((Below.refl w7.heap.size w7).drew).trans hb); have HB_8 : Hid (Below w.heap.size w w8) := HB_7.out.trans (hB.mono HB_7.out.size); have RP_8 : Hid (RdS w8 po xs) := RP_7.out.later hB; have RS_8 : Hid (Rd w8 so ys) := RS_7.out.later hB; have A_8 : Hid (C5 w8 w.heap.size (.slice po n c) a b t (.slice so m d)) := A_7.out.later hB; have P2_8 : Hid (OwnS w8 w4.heap.size (Value.slice p2 n k2) xs) := P2_7.out.later hB; have S2_8 : Hid (Own w8 w4.heap.size (Value.slice s2 m d2) ys) := S2_7.out.later hB; have X_8 : Hid (C5 w8 w5.heap.size (.slice p2 n k2) a b t (.slice s2 m d2)) := X_7.out.later hB; have z8 : w7.heap.size ≤ w8.heap.size := hB.size; have P3_8 : Hid (OwnS w8 w7.heap.size (Value.slice p3 n k3) xs) := ho; have S3_8 : Hid (Own w8 w7.heap.size (Value.slice s3 m d3) ys) := hp; have eA0 := (A_8.out).1.1; have eA1 := (A_8.out).1.2.1; have eA2 := (A_8.out).1.2.2.1; have eA3 := (A_8.out).1.2.2.2.1; have eA4 := (A_8.out).1.2.2.2.2; have eX0 := (X_8.out).1.1; have eX1 := (X_8.out).1.2.1; have eX2 := (X_8.out).1.2.2.1; have eX3 := (X_8.out).1.2.2.2.1; have eX4 := (X_8.out).1.2.2.2.2; clear hb hB) | (go_at_call 38; refine (eqMix_c p2 s2 p3 s3 n k2 m d2 k3 d3 a b t xs ys _ HX.out HY.out (by omega) (by omega) P2_8.out.rd'.2 S2_8.out.rd'.2 P3_8.out.rd'.2 S3_8.out.rd'.2).mono ?_; rintro e w9 ⟨rfl, hb⟩; have hB : Below w8.heap.size w8 w9 := (by first | exact hb | exact ((Below.refl w8.heap.size w8).drew).trans hb); have HB_9 : Hid (Below w.heap.size w w9) := HB_8.out.trans (hB.mono HB_8.out.size); have RP_9 : Hid (RdS w9 po xs) := RP_8.out.later hB; have RS_9 : Hid (Rd w9 so ys) := RS_8.out.later hB; have A_9 : Hid (C5 w9 w.heap.size (.slice po n c) a b t (.slice so m d)) := A_8.out.later hB; have P2_9 : Hid (OwnS w9 w4.heap.size (Value.slice p2 n k2) xs) := P2_8.out.later hB; have S2_9 : Hid (Own w9 w4.heap.size (Value.slice s2 m d2) ys) := S2_8.out.later hB; have X_9 : Hid (C5 w9 w5.heap.size (.slice p2 n k2) a b t (.slice s2 m d2)) := X_8.out.later hB; have z9 : w8.heap.size ≤ w9.heap.size := hB.size; clear hb hB))
  all_goals (
    clear HB_7 HB_8 RP_7 RP_8 RS_7 RS_8 A_7 A_8 P2_7 P2_8 S2_7 S2_8 X_7 X_8 A0 A1 A2 A3 A4 eA0 eA1 eA2 eA3 eA4 X0 X1 X2 X3 X4 eX0 eX1 eX2 eX3 eX4 P3_8 S3_8
    go_wp2
    go_ret
    exact ⟨rfl, HB_9.out⟩)

end Go.Proofs.Ytelchkoplncmaaa
