/- The law on TickMix, walked: it answers true at every argument and turns nothing that was there. -/
import Derived.Test.YtelchkoplncmaaaX8
import Derived.Test.YtelchkoplncmaaaST8
import Derived.Test.YtelchkoplncmaaaV8E
namespace Go.Proofs.Ytelchkoplncmaaa
set_option linter.unusedVariables false
set_option maxRecDepth 1000000
set_option linter.unusedSimpArgs false
open Go.RowKit

theorem tickF_small (m : MixV) : (tickF m).1.pool.length ≤ 12 ∧ (tickF m).1.seen.length ≤ 100 ∧ (tickF m).2.1.length ≤ 12 := by
  unfold tickF
  split
  · rename_i h
    have G := (goodB_iff m).1 h
    exact ⟨(tickM_small G.many).1, by show (tickM m).1.seen.length ≤ 100; rw [(tickM_seen m).1]; exact G.seens, (tickM_small G.many).2⟩
  · exact ⟨by simp [MixV.zero], by simp [MixV.zero], by simp⟩
theorem sep_swap {a b : Option Nat} (h : a = none ∨ a ≠ b) : b = none ∨ b ≠ a := by
  rcases h with h | h
  · cases b with
    | none => exact Or.inl rfl
    | some x => exact Or.inr (by rw [h]; simp)
  · exact Or.inr (Ne.symm h)

set_option maxHeartbeats 16000000 in
theorem lawTick_c (po so : Option Addr) (n c m d : Nat) (a b t : Int) (xs : List ByteArray) (ys : List Int) (w : World) (hx : xs.length = n) (hy : ys.length = m) (hn0 : n ≤ 9223372036854775807) (hm0 : m ≤ 9223372036854775807) (hr : RdS w po xs) (hs : Rd w so ys) (hz : ∀ s ∈ xs, s.size ≤ 9223372036854775807) :
    Calls Try.prog 8 #[.agg #[.slice po n c, .int .i64 a, .int .i64 b, .int .i64 t, .slice so m d]] w fun e w' => e = .returned (.bool true) ∧ Below w.heap.size w w' := by
  have HX : Hid (xs.length = n) := hx
  have HY : Hid (ys.length = m) := hy
  have HZ : Hid (∀ s ∈ xs, s.size ≤ 9223372036854775807) := hz
  clear hx hy hz
  have HR0 : Hid (RdS w po xs) := hr
  have HS0 : Hid (Rd w so ys) := hs
  have hsm := tickF_small ⟨xs, a, b, t, ys⟩
  have HSp : Hid (∀ p' c' s' d' wx, RdS wx p' xs → Rd wx s' ys → (p' = none → n = 0 ∧ c' = 0) → (s' = none → m = 0 ∧ d' = 0) → n ≤ 1048576 → m ≤ 1048576 → Calls Try.prog 32 #[.agg #[.slice p' n c', .int .i64 a, .int .i64 b, .int .i64 t, .slice s' m d']] wx fun e w' => TickOut wx w' e (tickF ⟨xs, a, b, t, ys⟩).1 (tickF ⟨xs, a, b, t, ys⟩).2.1 (tickF ⟨xs, a, b, t, ys⟩).2.2 ∧ Below wx.heap.size wx w') := fun p' c' s' d' wx h1 h2 h3 h4 h5 h6 => specTick_c p' s' n c' m d' a b t xs ys wx HX.out HY.out h5 (by omega) h1 h2 HZ.out h3 h4
  have HIm : Hid (∀ p' c' s' d' wx, RdS wx p' xs → Rd wx s' ys → (p' = none → n = 0 ∧ c' = 0) → (s' = none → m = 0 ∧ d' = 0) → n ≤ 1048576 → m ≤ 1048576 → Calls Try.prog 31 #[.agg #[.slice p' n c', .int .i64 a, .int .i64 b, .int .i64 t, .slice s' m d']] wx fun e w' => TickOut wx w' e (tickF ⟨xs, a, b, t, ys⟩).1 (tickF ⟨xs, a, b, t, ys⟩).2.1 (tickF ⟨xs, a, b, t, ys⟩).2.2 ∧ Below wx.heap.size wx w') := fun p' c' s' d' wx h1 h2 h3 h4 h5 h6 => implTick_c p' s' n c' m d' a b t xs ys wx HX.out HY.out (by omega) (by omega) h1 h2 HZ.out h4
  obtain ⟨Z, l, fb, hF⟩ : ∃ Z l fb, tickF ⟨xs, a, b, t, ys⟩ = (Z, l, fb) := ⟨_, _, _, rfl⟩
  rw [hF] at hsm HSp HIm
  obtain ⟨zp, za, zb, zt, zs⟩ := Z
  obtain ⟨pn, hpn⟩ : ∃ pn, zp.length = pn := ⟨_, rfl⟩
  obtain ⟨sn, hsn⟩ : ∃ sn, zs.length = sn := ⟨_, rfl⟩
  obtain ⟨ln, hln⟩ : ∃ ln, l.length = ln := ⟨_, rfl⟩
  simp only [TickOut, hpn, hsn, hln] at HSp HIm hsm
  have HPL : Hid (zp.length = pn) := hpn
  have HSL : Hid (zs.length = sn) := hsn
  have HLL : Hid (l.length = ln) := hln
  obtain ⟨hp12, hs100, hl12⟩ := hsm
  have hfb : (fb != fb) = false := by simp
  have hk1 : ¬ (1 : Int) + (n : Int) + (m : Int) < 0 := by omega
  have hk2 : ¬ (1 : Int) + (pn : Int) + (sn : Int) < 0 := by omega
  have hk3 : ¬ (1 : Int) + (pn : Int) + (sn : Int) + (ln : Int) < 0 := by omega
  clear hF hpn hsn hln
  have HB_0 : Hid (Below w.heap.size w w) := Below.refl _ _
  have RP_0 : Hid (RdS w po xs) := hr
  have RS_0 : Hid (Rd w so ys) := hs
  clear hr hs
  have hHB := HB_0.out.alloc HB_0.out.size (.cells #[.slice po n c, .int .i64 a, .int .i64 b, .int .i64 t, .slice so m d] 58)
  have hRP := RP_0.out.later (balloc w (.cells #[.slice po n c, .int .i64 a, .int .i64 b, .int .i64 t, .slice so m d] 58))
  have hRS := RS_0.out.later (balloc w (.cells #[.slice po n c, .int .i64 a, .int .i64 b, .int .i64 t, .slice so m d] 58))
  have hA := c5_new w (.slice po n c) a b t (.slice so m d) 58 w.heap.size rfl
  have hz : (w.alloc (.cells #[.slice po n c, .int .i64 a, .int .i64 b, .int .i64 t, .slice so m d] 58)).heap.size = w.heap.size + 1 := by simp
  obtain ⟨w1, hV1⟩ : ∃ V, w.alloc (.cells #[.slice po n c, .int .i64 a, .int .i64 b, .int .i64 t, .slice so m d] 58) = V := ⟨_, rfl⟩
  rw [hV1] at hHB hRP hRS hA hz
  have HB_1 : Hid (Below w.heap.size w w1) := hHB
  have RP_1 : Hid (RdS w1 po xs) := hRP
  have RS_1 : Hid (Rd w1 so ys) := hRS
  have A_1 : Hid (C5 w1 w.heap.size (.slice po n c) a b t (.slice so m d)) := hA
  have z1 : w.heap.size + 1 ≤ w1.heap.size := by omega
  clear HB_0 RP_0 RS_0 hHB hRP hRS hA hz
  go_enter Try.func8, Try.ntmps8
  obtain ⟨⟨A0, A1, A2, A3, A4⟩, Af⟩ := A_1.out
  clear Af
  go_wp2_with fail
  clear hV1
  refine (szMix_c po so n c m d a b t xs _ HX.out hn0 hm0 HZ.out RP_1.out).mono ?_
  clear A0 A1 A2 A3 A4
  rintro e w2 ⟨r, rfl, hr1, hr2, hb⟩
  have hB : Below w1.heap.size w1 w2 := hb
  have HB_2 : Hid (Below w.heap.size w w2) := HB_1.out.trans (hB.mono HB_1.out.size)
  have RP_2 : Hid (RdS w2 po xs) := RP_1.out.later hB
  have RS_2 : Hid (Rd w2 so ys) := RS_1.out.later hB
  have A_2 : Hid (C5 w2 w.heap.size (.slice po n c) a b t (.slice so m d)) := A_1.out.later hB
  have z2 : w1.heap.size ≤ w2.heap.size := hB.size
  clear hb hB HB_1 RP_1 RS_1 A_1 
  by_cases hr0 : r < 0
  · go_wp2
    go_ret
    exact ⟨rfl, HB_2.out⟩
  have hn : n ≤ 1048576 := (hr2 (by omega)).1
  have hm : m ≤ 1048576 := (hr2 (by omega)).2
  have hrn : ¬ r < 0 := hr0
  clear hr1 hr2 hr0
  obtain ⟨⟨A0, A1, A2, A3, A4⟩, Af⟩ := A_2.out
  clear Af
  go_wp2_with fail
  refine (toMix_c po so n c m d a b t xs ys _ HX.out HY.out hn hm RP_2.out RS_2.out).mono ?_
  clear A0 A1 A2 A3 A4
  rintro e w3 ⟨p1, k1, s1, d1, rfl, ho, hp, hb⟩
  have hB : Below w2.heap.size w2 w3 := hb
  have HB_3 : Hid (Below w.heap.size w w3) := HB_2.out.trans (hB.mono HB_2.out.size)
  have RP_3 : Hid (RdS w3 po xs) := RP_2.out.later hB
  have RS_3 : Hid (Rd w3 so ys) := RS_2.out.later hB
  have A_3 : Hid (C5 w3 w.heap.size (.slice po n c) a b t (.slice so m d)) := A_2.out.later hB
  have z3 : w2.heap.size ≤ w3.heap.size := hB.size
  have P1_3 : Hid (OwnS w3 w2.heap.size (Value.slice p1 n k1) xs) := ho
  have I_P1 : Hid (∀ k, (Value.slice p1 n k1).ownBlock = some k → w2.heap.size ≤ k ∧ k < w3.heap.size) := World.ownsRow.lt P1_3.out
  have S1_3 : Hid (Own w3 w2.heap.size (Value.slice s1 m d1) ys) := hp
  have I_S1 : Hid (∀ k, (Value.slice s1 m d1).ownBlock = some k → w2.heap.size ≤ k ∧ k < w3.heap.size) := World.ownsRow.lt S1_3.out
  clear hb hB HB_2 RP_2 RS_2 A_2 ho hp
  go_wp2_with fail
  refine (HSp.out p1 k1 s1 d1 _ P1_3.out.rd'.2 S1_3.out.rd'.2 P1_3.out.nil S1_3.out.nil hn hm).mono ?_
  rintro e w4 ⟨⟨p2, k2, s2, d2, q2, j2, rfl, ho, hp, hq, hsep⟩, hb⟩
  have hB : Below w3.heap.size w3 w4 := hb
  have HB_4 : Hid (Below w.heap.size w w4) := HB_3.out.trans (hB.mono HB_3.out.size)
  have RP_4 : Hid (RdS w4 po xs) := RP_3.out.later hB
  have RS_4 : Hid (Rd w4 so ys) := RS_3.out.later hB
  have A_4 : Hid (C5 w4 w.heap.size (.slice po n c) a b t (.slice so m d)) := A_3.out.later hB
  have z4 : w3.heap.size ≤ w4.heap.size := hB.size
  have WP_4 : Hid (OwnS w4 w3.heap.size (Value.slice p2 pn k2) zp) := ho
  have I_WP : Hid (∀ k, (Value.slice p2 pn k2).ownBlock = some k → w3.heap.size ≤ k ∧ k < w4.heap.size) := World.ownsRow.lt WP_4.out
  have WS_4 : Hid (Own w4 w3.heap.size (Value.slice s2 sn d2) zs) := hp
  have I_WS : Hid (∀ k, (Value.slice s2 sn d2).ownBlock = some k → w3.heap.size ≤ k ∧ k < w4.heap.size) := World.ownsRow.lt WS_4.out
  have WQ_4 : Hid (OwnS w4 w3.heap.size (Value.slice q2 ln j2) l) := hq
  have I_WQ : Hid (∀ k, (Value.slice q2 ln j2).ownBlock = some k → w3.heap.size ≤ k ∧ k < w4.heap.size) := World.ownsRow.lt WQ_4.out
  clear hb hB HB_3 RP_3 RS_3 A_3 P1_3 S1_3 ho hp hq
  have SEPW : Hid ((Value.slice p2 pn k2).ownBlock = none ∨ (Value.slice p2 pn k2).ownBlock ≠ (Value.slice q2 ln j2).ownBlock) := hsep
  clear hsep
  have hHB := HB_4.out.alloc HB_4.out.size (.cells #[.slice p2 pn k2, .int .i64 za, .int .i64 zb, .int .i64 zt, .slice s2 sn d2] 41)
  have hRP := RP_4.out.later (balloc w4 (.cells #[.slice p2 pn k2, .int .i64 za, .int .i64 zb, .int .i64 zt, .slice s2 sn d2] 41))
  have hRS := RS_4.out.later (balloc w4 (.cells #[.slice p2 pn k2, .int .i64 za, .int .i64 zb, .int .i64 zt, .slice s2 sn d2] 41))
  have hA := A_4.out.later (balloc w4 (.cells #[.slice p2 pn k2, .int .i64 za, .int .i64 zb, .int .i64 zt, .slice s2 sn d2] 41))
  have hWP := WP_4.out.later (balloc w4 (.cells #[.slice p2 pn k2, .int .i64 za, .int .i64 zb, .int .i64 zt, .slice s2 sn d2] 41))
  have hWS := WS_4.out.later (balloc w4 (.cells #[.slice p2 pn k2, .int .i64 za, .int .i64 zb, .int .i64 zt, .slice s2 sn d2] 41))
  have hWQ := WQ_4.out.later (balloc w4 (.cells #[.slice p2 pn k2, .int .i64 za, .int .i64 zb, .int .i64 zt, .slice s2 sn d2] 41))
  have hW := c5_new w4 (.slice p2 pn k2) za zb zt (.slice s2 sn d2) 41 w4.heap.size rfl
  have hz : (w4.alloc (.cells #[.slice p2 pn k2, .int .i64 za, .int .i64 zb, .int .i64 zt, .slice s2 sn d2] 41)).heap.size = w4.heap.size + 1 := by simp
  obtain ⟨w5, hV5⟩ : ∃ V, w4.alloc (.cells #[.slice p2 pn k2, .int .i64 za, .int .i64 zb, .int .i64 zt, .slice s2 sn d2] 41) = V := ⟨_, rfl⟩
  rw [hV5] at hHB hRP hRS hA hWP hWS hWQ hW hz
  have HB_5 : Hid (Below w.heap.size w w5) := hHB
  have RP_5 : Hid (RdS w5 po xs) := hRP
  have RS_5 : Hid (Rd w5 so ys) := hRS
  have A_5 : Hid (C5 w5 w.heap.size (.slice po n c) a b t (.slice so m d)) := hA
  have WP_5 : Hid (OwnS w5 w3.heap.size (Value.slice p2 pn k2) zp) := hWP
  have WS_5 : Hid (Own w5 w3.heap.size (Value.slice s2 sn d2) zs) := hWS
  have WQ_5 : Hid (OwnS w5 w3.heap.size (Value.slice q2 ln j2) l) := hWQ
  have W_5 : Hid (C5 w5 w4.heap.size (.slice p2 pn k2) za zb zt (.slice s2 sn d2)) := hW
  have z5 : w4.heap.size + 1 ≤ w5.heap.size := by omega
  clear HB_4 RP_4 RS_4 A_4 WP_4 WS_4 WQ_4 hHB hRP hRS hA hWP hWS hWQ hW hz
  obtain ⟨⟨A0, A1, A2, A3, A4⟩, Af⟩ := A_5.out
  clear Af
  go_wp2_with fail
  clear hV5
  refine (toMix_c po so n c m d a b t xs ys _ HX.out HY.out hn hm RP_5.out RS_5.out).mono ?_
  clear A0 A1 A2 A3 A4
  rintro e w6 ⟨p3, k3, s3, d3, rfl, ho, hp, hb⟩
  have hB : Below w5.heap.size w5 w6 := hb
  have HB_6 : Hid (Below w.heap.size w w6) := HB_5.out.trans (hB.mono HB_5.out.size)
  have RP_6 : Hid (RdS w6 po xs) := RP_5.out.later hB
  have RS_6 : Hid (Rd w6 so ys) := RS_5.out.later hB
  have A_6 : Hid (C5 w6 w.heap.size (.slice po n c) a b t (.slice so m d)) := A_5.out.later hB
  have WP_6 : Hid (OwnS w6 w3.heap.size (Value.slice p2 pn k2) zp) := WP_5.out.later hB
  have WS_6 : Hid (Own w6 w3.heap.size (Value.slice s2 sn d2) zs) := WS_5.out.later hB
  have WQ_6 : Hid (OwnS w6 w3.heap.size (Value.slice q2 ln j2) l) := WQ_5.out.later hB
  have W_6 : Hid (C5 w6 w4.heap.size (.slice p2 pn k2) za zb zt (.slice s2 sn d2)) := W_5.out.later hB
  have z6 : w5.heap.size ≤ w6.heap.size := hB.size
  have P3_6 : Hid (OwnS w6 w5.heap.size (Value.slice p3 n k3) xs) := ho
  have I_P3 : Hid (∀ k, (Value.slice p3 n k3).ownBlock = some k → w5.heap.size ≤ k ∧ k < w6.heap.size) := World.ownsRow.lt P3_6.out
  have S3_6 : Hid (Own w6 w5.heap.size (Value.slice s3 m d3) ys) := hp
  have I_S3 : Hid (∀ k, (Value.slice s3 m d3).ownBlock = some k → w5.heap.size ≤ k ∧ k < w6.heap.size) := World.ownsRow.lt S3_6.out
  clear hb hB HB_5 RP_5 RS_5 A_5 WP_5 WS_5 WQ_5 W_5 ho hp
  have hHB := HB_6.out.alloc HB_6.out.size (.cells #[.slice p3 n k3, .int .i64 a, .int .i64 b, .int .i64 t, .slice s3 m d3] 41)
  have hRP := RP_6.out.later (balloc w6 (.cells #[.slice p3 n k3, .int .i64 a, .int .i64 b, .int .i64 t, .slice s3 m d3] 41))
  have hRS := RS_6.out.later (balloc w6 (.cells #[.slice p3 n k3, .int .i64 a, .int .i64 b, .int .i64 t, .slice s3 m d3] 41))
  have hA := A_6.out.later (balloc w6 (.cells #[.slice p3 n k3, .int .i64 a, .int .i64 b, .int .i64 t, .slice s3 m d3] 41))
  have hWP := WP_6.out.later (balloc w6 (.cells #[.slice p3 n k3, .int .i64 a, .int .i64 b, .int .i64 t, .slice s3 m d3] 41))
  have hWS := WS_6.out.later (balloc w6 (.cells #[.slice p3 n k3, .int .i64 a, .int .i64 b, .int .i64 t, .slice s3 m d3] 41))
  have hWQ := WQ_6.out.later (balloc w6 (.cells #[.slice p3 n k3, .int .i64 a, .int .i64 b, .int .i64 t, .slice s3 m d3] 41))
  have hW := W_6.out.later (balloc w6 (.cells #[.slice p3 n k3, .int .i64 a, .int .i64 b, .int .i64 t, .slice s3 m d3] 41))
  have hP3 := P3_6.out.later (balloc w6 (.cells #[.slice p3 n k3, .int .i64 a, .int .i64 b, .int .i64 t, .slice s3 m d3] 41))
  have hS3 := S3_6.out.later (balloc w6 (.cells #[.slice p3 n k3, .int .i64 a, .int .i64 b, .int .i64 t, .slice s3 m d3] 41))
  have hX := c5_new w6 (.slice p3 n k3) a b t (.slice s3 m d3) 41 w6.heap.size rfl
  have hz : (w6.alloc (.cells #[.slice p3 n k3, .int .i64 a, .int .i64 b, .int .i64 t, .slice s3 m d3] 41)).heap.size = w6.heap.size + 1 := by simp
  obtain ⟨w7, hV7⟩ : ∃ V, w6.alloc (.cells #[.slice p3 n k3, .int .i64 a, .int .i64 b, .int .i64 t, .slice s3 m d3] 41) = V := ⟨_, rfl⟩
  rw [hV7] at hHB hRP hRS hA hWP hWS hWQ hW hP3 hS3 hX hz
  have HB_7 : Hid (Below w.heap.size w w7) := hHB
  have RP_7 : Hid (RdS w7 po xs) := hRP
  have RS_7 : Hid (Rd w7 so ys) := hRS
  have A_7 : Hid (C5 w7 w.heap.size (.slice po n c) a b t (.slice so m d)) := hA
  have WP_7 : Hid (OwnS w7 w3.heap.size (Value.slice p2 pn k2) zp) := hWP
  have WS_7 : Hid (Own w7 w3.heap.size (Value.slice s2 sn d2) zs) := hWS
  have WQ_7 : Hid (OwnS w7 w3.heap.size (Value.slice q2 ln j2) l) := hWQ
  have W_7 : Hid (C5 w7 w4.heap.size (.slice p2 pn k2) za zb zt (.slice s2 sn d2)) := hW
  have P3_7 : Hid (OwnS w7 w5.heap.size (Value.slice p3 n k3) xs) := hP3
  have S3_7 : Hid (Own w7 w5.heap.size (Value.slice s3 m d3) ys) := hS3
  have X_7 : Hid (C5 w7 w6.heap.size (.slice p3 n k3) a b t (.slice s3 m d3)) := hX
  have z7 : w6.heap.size + 1 ≤ w7.heap.size := by omega
  clear HB_6 RP_6 RS_6 A_6 WP_6 WS_6 WQ_6 W_6 P3_6 S3_6 hHB hRP hRS hA hWP hWS hWQ hW hP3 hS3 hX hz
  obtain ⟨⟨X0, X1, X2, X3, X4⟩, Xf⟩ := X_7.out
  clear Xf
  go_wp2_with fail
  clear hV7
  refine (HIm.out p3 k3 s3 d3 _ P3_7.out.rd'.2 S3_7.out.rd'.2 P3_7.out.nil S3_7.out.nil hn hm).mono ?_
  clear X0 X1 X2 X3 X4
  rintro e w8 ⟨⟨p4, k4, s4, d4, q4, j4, rfl, ho, hp, hq, hsep⟩, hb⟩
  have hB : Below w7.heap.size w7 w8 := hb
  have HB_8 : Hid (Below w.heap.size w w8) := HB_7.out.trans (hB.mono HB_7.out.size)
  have RP_8 : Hid (RdS w8 po xs) := RP_7.out.later hB
  have RS_8 : Hid (Rd w8 so ys) := RS_7.out.later hB
  have A_8 : Hid (C5 w8 w.heap.size (.slice po n c) a b t (.slice so m d)) := A_7.out.later hB
  have WP_8 : Hid (OwnS w8 w3.heap.size (Value.slice p2 pn k2) zp) := WP_7.out.later hB
  have WS_8 : Hid (Own w8 w3.heap.size (Value.slice s2 sn d2) zs) := WS_7.out.later hB
  have WQ_8 : Hid (OwnS w8 w3.heap.size (Value.slice q2 ln j2) l) := WQ_7.out.later hB
  have W_8 : Hid (C5 w8 w4.heap.size (.slice p2 pn k2) za zb zt (.slice s2 sn d2)) := W_7.out.later hB
  have P3_8 : Hid (OwnS w8 w5.heap.size (Value.slice p3 n k3) xs) := P3_7.out.later hB
  have S3_8 : Hid (Own w8 w5.heap.size (Value.slice s3 m d3) ys) := S3_7.out.later hB
  have X_8 : Hid (C5 w8 w6.heap.size (.slice p3 n k3) a b t (.slice s3 m d3)) := X_7.out.later hB
  have z8 : w7.heap.size ≤ w8.heap.size := hB.size
  have GP_8 : Hid (OwnS w8 w7.heap.size (Value.slice p4 pn k4) zp) := ho
  have I_GP : Hid (∀ k, (Value.slice p4 pn k4).ownBlock = some k → w7.heap.size ≤ k ∧ k < w8.heap.size) := World.ownsRow.lt GP_8.out
  have GS_8 : Hid (Own w8 w7.heap.size (Value.slice s4 sn d4) zs) := hp
  have I_GS : Hid (∀ k, (Value.slice s4 sn d4).ownBlock = some k → w7.heap.size ≤ k ∧ k < w8.heap.size) := World.ownsRow.lt GS_8.out
  have GQ_8 : Hid (OwnS w8 w7.heap.size (Value.slice q4 ln j4) l) := hq
  have I_GQ : Hid (∀ k, (Value.slice q4 ln j4).ownBlock = some k → w7.heap.size ≤ k ∧ k < w8.heap.size) := World.ownsRow.lt GQ_8.out
  clear hb hB HB_7 RP_7 RS_7 A_7 WP_7 WS_7 WQ_7 W_7 P3_7 S3_7 X_7 ho hp hq
  have SEPG : Hid ((Value.slice p4 pn k4).ownBlock = none ∨ (Value.slice p4 pn k4).ownBlock ≠ (Value.slice q4 ln j4).ownBlock) := hsep
  clear hsep
  have hHB := HB_8.out.alloc HB_8.out.size (.cells #[.slice p4 pn k4, .int .i64 za, .int .i64 zb, .int .i64 zt, .slice s4 sn d4] 41)
  have hRP := RP_8.out.later (balloc w8 (.cells #[.slice p4 pn k4, .int .i64 za, .int .i64 zb, .int .i64 zt, .slice s4 sn d4] 41))
  have hRS := RS_8.out.later (balloc w8 (.cells #[.slice p4 pn k4, .int .i64 za, .int .i64 zb, .int .i64 zt, .slice s4 sn d4] 41))
  have hA := A_8.out.later (balloc w8 (.cells #[.slice p4 pn k4, .int .i64 za, .int .i64 zb, .int .i64 zt, .slice s4 sn d4] 41))
  have hWP := WP_8.out.later (balloc w8 (.cells #[.slice p4 pn k4, .int .i64 za, .int .i64 zb, .int .i64 zt, .slice s4 sn d4] 41))
  have hWS := WS_8.out.later (balloc w8 (.cells #[.slice p4 pn k4, .int .i64 za, .int .i64 zb, .int .i64 zt, .slice s4 sn d4] 41))
  have hWQ := WQ_8.out.later (balloc w8 (.cells #[.slice p4 pn k4, .int .i64 za, .int .i64 zb, .int .i64 zt, .slice s4 sn d4] 41))
  have hW := W_8.out.later (balloc w8 (.cells #[.slice p4 pn k4, .int .i64 za, .int .i64 zb, .int .i64 zt, .slice s4 sn d4] 41))
  have hP3 := P3_8.out.later (balloc w8 (.cells #[.slice p4 pn k4, .int .i64 za, .int .i64 zb, .int .i64 zt, .slice s4 sn d4] 41))
  have hS3 := S3_8.out.later (balloc w8 (.cells #[.slice p4 pn k4, .int .i64 za, .int .i64 zb, .int .i64 zt, .slice s4 sn d4] 41))
  have hX := X_8.out.later (balloc w8 (.cells #[.slice p4 pn k4, .int .i64 za, .int .i64 zb, .int .i64 zt, .slice s4 sn d4] 41))
  have hGP := GP_8.out.later (balloc w8 (.cells #[.slice p4 pn k4, .int .i64 za, .int .i64 zb, .int .i64 zt, .slice s4 sn d4] 41))
  have hGS := GS_8.out.later (balloc w8 (.cells #[.slice p4 pn k4, .int .i64 za, .int .i64 zb, .int .i64 zt, .slice s4 sn d4] 41))
  have hGQ := GQ_8.out.later (balloc w8 (.cells #[.slice p4 pn k4, .int .i64 za, .int .i64 zb, .int .i64 zt, .slice s4 sn d4] 41))
  have hG := c5_new w8 (.slice p4 pn k4) za zb zt (.slice s4 sn d4) 41 w8.heap.size rfl
  have hz : (w8.alloc (.cells #[.slice p4 pn k4, .int .i64 za, .int .i64 zb, .int .i64 zt, .slice s4 sn d4] 41)).heap.size = w8.heap.size + 1 := by simp
  obtain ⟨w9, hV9⟩ : ∃ V, w8.alloc (.cells #[.slice p4 pn k4, .int .i64 za, .int .i64 zb, .int .i64 zt, .slice s4 sn d4] 41) = V := ⟨_, rfl⟩
  rw [hV9] at hHB hRP hRS hA hWP hWS hWQ hW hP3 hS3 hX hGP hGS hGQ hG hz
  have HB_9 : Hid (Below w.heap.size w w9) := hHB
  have RP_9 : Hid (RdS w9 po xs) := hRP
  have RS_9 : Hid (Rd w9 so ys) := hRS
  have A_9 : Hid (C5 w9 w.heap.size (.slice po n c) a b t (.slice so m d)) := hA
  have WP_9 : Hid (OwnS w9 w3.heap.size (Value.slice p2 pn k2) zp) := hWP
  have WS_9 : Hid (Own w9 w3.heap.size (Value.slice s2 sn d2) zs) := hWS
  have WQ_9 : Hid (OwnS w9 w3.heap.size (Value.slice q2 ln j2) l) := hWQ
  have W_9 : Hid (C5 w9 w4.heap.size (.slice p2 pn k2) za zb zt (.slice s2 sn d2)) := hW
  have P3_9 : Hid (OwnS w9 w5.heap.size (Value.slice p3 n k3) xs) := hP3
  have S3_9 : Hid (Own w9 w5.heap.size (Value.slice s3 m d3) ys) := hS3
  have X_9 : Hid (C5 w9 w6.heap.size (.slice p3 n k3) a b t (.slice s3 m d3)) := hX
  have GP_9 : Hid (OwnS w9 w7.heap.size (Value.slice p4 pn k4) zp) := hGP
  have GS_9 : Hid (Own w9 w7.heap.size (Value.slice s4 sn d4) zs) := hGS
  have GQ_9 : Hid (OwnS w9 w7.heap.size (Value.slice q4 ln j4) l) := hGQ
  have G_9 : Hid (C5 w9 w8.heap.size (.slice p4 pn k4) za zb zt (.slice s4 sn d4)) := hG
  have z9 : w8.heap.size + 1 ≤ w9.heap.size := by omega
  clear HB_8 RP_8 RS_8 A_8 WP_8 WS_8 WQ_8 W_8 P3_8 S3_8 X_8 GP_8 GS_8 GQ_8 hHB hRP hRS hA hWP hWS hWQ hW hP3 hS3 hX hGP hGS hGQ hG hz
  obtain ⟨⟨G0, G1, G2, G3, G4⟩, Gf⟩ := G_9.out
  clear Gf
  obtain ⟨⟨W0, W1, W2, W3, W4⟩, Wf⟩ := W_9.out
  clear Wf
  go_wp2_with fail
  clear hV9
  refine (eqMix_c p4 s4 p2 s2 pn k4 sn d4 k2 d2 za zb zt zp zs _ HPL.out HSL.out (by omega) (by omega) GP_9.out.rd'.2 GS_9.out.rd'.2 WP_9.out.rd'.2 WS_9.out.rd'.2).mono ?_
  clear G0 G1 G2 G3 G4
  clear W0 W1 W2 W3 W4
  rintro e w10 ⟨rfl, hb⟩
  have hB : Below w9.heap.size w9 w10 := hb
  have HB_10 : Hid (Below w.heap.size w w10) := HB_9.out.trans (hB.mono HB_9.out.size)
  have RP_10 : Hid (RdS w10 po xs) := RP_9.out.later hB
  have RS_10 : Hid (Rd w10 so ys) := RS_9.out.later hB
  have A_10 : Hid (C5 w10 w.heap.size (.slice po n c) a b t (.slice so m d)) := A_9.out.later hB
  have WP_10 : Hid (OwnS w10 w3.heap.size (Value.slice p2 pn k2) zp) := WP_9.out.later hB
  have WS_10 : Hid (Own w10 w3.heap.size (Value.slice s2 sn d2) zs) := WS_9.out.later hB
  have WQ_10 : Hid (OwnS w10 w3.heap.size (Value.slice q2 ln j2) l) := WQ_9.out.later hB
  have W_10 : Hid (C5 w10 w4.heap.size (.slice p2 pn k2) za zb zt (.slice s2 sn d2)) := W_9.out.later hB
  have P3_10 : Hid (OwnS w10 w5.heap.size (Value.slice p3 n k3) xs) := P3_9.out.later hB
  have S3_10 : Hid (Own w10 w5.heap.size (Value.slice s3 m d3) ys) := S3_9.out.later hB
  have X_10 : Hid (C5 w10 w6.heap.size (.slice p3 n k3) a b t (.slice s3 m d3)) := X_9.out.later hB
  have GP_10 : Hid (OwnS w10 w7.heap.size (Value.slice p4 pn k4) zp) := GP_9.out.later hB
  have GS_10 : Hid (Own w10 w7.heap.size (Value.slice s4 sn d4) zs) := GS_9.out.later hB
  have GQ_10 : Hid (OwnS w10 w7.heap.size (Value.slice q4 ln j4) l) := GQ_9.out.later hB
  have G_10 : Hid (C5 w10 w8.heap.size (.slice p4 pn k4) za zb zt (.slice s4 sn d4)) := G_9.out.later hB
  have z10 : w9.heap.size ≤ w10.heap.size := hB.size
  clear hb hB HB_9 RP_9 RS_9 A_9 WP_9 WS_9 WQ_9 W_9 P3_9 S3_9 X_9 GP_9 GS_9 GQ_9 G_9 
  go_wp2_with fail
  refine (eqStringS_c q4 q2 ln ln j4 j2 l l _ HLL.out HLL.out (by omega) (by omega) GQ_10.out.rd'.2 WQ_10.out.rd'.2).mono ?_
  rw [decide_eq_true rfl]
  rintro e w11 ⟨rfl, hb⟩
  have hB : Below w10.heap.size w10 w11 := hb
  have HB_11 : Hid (Below w.heap.size w w11) := HB_10.out.trans (hB.mono HB_10.out.size)
  have RP_11 : Hid (RdS w11 po xs) := RP_10.out.later hB
  have RS_11 : Hid (Rd w11 so ys) := RS_10.out.later hB
  have A_11 : Hid (C5 w11 w.heap.size (.slice po n c) a b t (.slice so m d)) := A_10.out.later hB
  have WP_11 : Hid (OwnS w11 w3.heap.size (Value.slice p2 pn k2) zp) := WP_10.out.later hB
  have WS_11 : Hid (Own w11 w3.heap.size (Value.slice s2 sn d2) zs) := WS_10.out.later hB
  have WQ_11 : Hid (OwnS w11 w3.heap.size (Value.slice q2 ln j2) l) := WQ_10.out.later hB
  have W_11 : Hid (C5 w11 w4.heap.size (.slice p2 pn k2) za zb zt (.slice s2 sn d2)) := W_10.out.later hB
  have P3_11 : Hid (OwnS w11 w5.heap.size (Value.slice p3 n k3) xs) := P3_10.out.later hB
  have S3_11 : Hid (Own w11 w5.heap.size (Value.slice s3 m d3) ys) := S3_10.out.later hB
  have X_11 : Hid (C5 w11 w6.heap.size (.slice p3 n k3) a b t (.slice s3 m d3)) := X_10.out.later hB
  have GP_11 : Hid (OwnS w11 w7.heap.size (Value.slice p4 pn k4) zp) := GP_10.out.later hB
  have GS_11 : Hid (Own w11 w7.heap.size (Value.slice s4 sn d4) zs) := GS_10.out.later hB
  have GQ_11 : Hid (OwnS w11 w7.heap.size (Value.slice q4 ln j4) l) := GQ_10.out.later hB
  have G_11 : Hid (C5 w11 w8.heap.size (.slice p4 pn k4) za zb zt (.slice s4 sn d4)) := G_10.out.later hB
  have z11 : w10.heap.size ≤ w11.heap.size := hB.size
  clear hb hB HB_10 RP_10 RS_10 A_10 WP_10 WS_10 WQ_10 W_10 P3_10 S3_10 X_10 GP_10 GS_10 GQ_10 G_10 
  obtain ⟨⟨A0, A1, A2, A3, A4⟩, Af⟩ := A_11.out
  clear Af
  obtain ⟨⟨X0, X1, X2, X3, X4⟩, Xf⟩ := X_11.out
  clear Xf
  go_wp2
  go_region_with (first | (go_at_call 42; (first | refine (toMix_c po so n c m d a b t xs ys _ HX.out HY.out hn hm (RP_11.out.later (Below.refl _ _).drew) (RS_11.out.later (Below.refl _ _).drew)).mono ?_ | refine (toMix_c po so n c m d a b t xs ys _ HX.out HY.out hn hm RP_11.out RS_11.out).mono ?_); rintro e w12 ⟨p5, k5, s5, d5, rfl, ho, hp, hb⟩; have hB : Below w11.heap.size w11 w12 := (by first | exact hb | exact ((Below.refl w11.heap.size w11).drew).trans hb); have HB_12 : Hid (Below w.heap.size w w12) := HB_11.out.trans (hB.mono HB_11.out.size); have RP_12 : Hid (RdS w12 po xs) := RP_11.out.later hB; have RS_12 : Hid (Rd w12 so ys) := RS_11.out.later hB; have A_12 : Hid (C5 w12 w.heap.size (.slice po n c) a b t (.slice so m d)) := A_11.out.later hB; have WP_12 : Hid (OwnS w12 w3.heap.size (Value.slice p2 pn k2) zp) := WP_11.out.later hB; have WS_12 : Hid (Own w12 w3.heap.size (Value.slice s2 sn d2) zs) := WS_11.out.later hB; have WQ_12 : Hid (OwnS w12 w3.heap.size (Value.slice q2 ln j2) l) := WQ_11.out.later hB; have W_12 : Hid (C5 w12 w4.heap.size (.slice p2 pn k2) za zb zt (.slice s2 sn d2)) := W_11.out.later hB; have P3_12 : Hid (OwnS w12 w5.heap.size (Value.slice p3 n k3) xs) := P3_11.out.later hB; have S3_12 : Hid (Own w12 w5.heap.size (Value.slice s3 m d3) ys) := S3_11.out.later hB; have X_12 : Hid (C5 w12 w6.heap.size (.slice p3 n k3) a b t (.slice s3 m d3)) := X_11.out.later hB; have GP_12 : Hid (OwnS w12 w7.heap.size (Value.slice p4 pn k4) zp) := GP_11.out.later hB; have GS_12 : Hid (Own w12 w7.heap.size (Value.slice s4 sn d4) zs) := GS_11.out.later hB; have GQ_12 : Hid (OwnS w12 w7.heap.size (Value.slice q4 ln j4) l) := GQ_11.out.later hB; have G_12 : Hid (C5 w12 w8.heap.size (.slice p4 pn k4) za zb zt (.slice s4 sn d4)) := G_11.out.later hB; have z12 : w11.heap.size ≤ w12.heap.size := hB.size; have P5_12 : Hid (OwnS w12 w11.heap.size (Value.slice p5 n k5) xs) := ho; have S5_12 : Hid (Own w12 w11.heap.size (Value.slice s5 m d5) ys) := hp; have eA0 := (A_12.out).1.1; have eA1 := (A_12.out).1.2.1; have eA2 := (A_12.out).1.2.2.1; have eA3 := (A_12.out).1.2.2.2.1; have eA4 := (A_12.out).1.2.2.2.2; have eX0 := (X_12.out).1.1; have eX1 := (X_12.out).1.2.1; have eX2 := (X_12.out).1.2.2.1; have eX3 := (X_12.out).1.2.2.2.1; have eX4 := (X_12.out).1.2.2.2.2; clear hb hB) | (go_at_call 38; refine (eqMix_c p3 s3 p5 s5 n k3 m d3 k5 d5 a b t xs ys _ HX.out HY.out (by omega) (by omega) P3_12.out.rd'.2 S3_12.out.rd'.2 P5_12.out.rd'.2 S5_12.out.rd'.2).mono ?_; rintro e w13 ⟨rfl, hb⟩; have hB : Below w12.heap.size w12 w13 := (by first | exact hb | exact ((Below.refl w12.heap.size w12).drew).trans hb); have HB_13 : Hid (Below w.heap.size w w13) := HB_12.out.trans (hB.mono HB_12.out.size); have RP_13 : Hid (RdS w13 po xs) := RP_12.out.later hB; have RS_13 : Hid (Rd w13 so ys) := RS_12.out.later hB; have A_13 : Hid (C5 w13 w.heap.size (.slice po n c) a b t (.slice so m d)) := A_12.out.later hB; have WP_13 : Hid (OwnS w13 w3.heap.size (Value.slice p2 pn k2) zp) := WP_12.out.later hB; have WS_13 : Hid (Own w13 w3.heap.size (Value.slice s2 sn d2) zs) := WS_12.out.later hB; have WQ_13 : Hid (OwnS w13 w3.heap.size (Value.slice q2 ln j2) l) := WQ_12.out.later hB; have W_13 : Hid (C5 w13 w4.heap.size (.slice p2 pn k2) za zb zt (.slice s2 sn d2)) := W_12.out.later hB; have P3_13 : Hid (OwnS w13 w5.heap.size (Value.slice p3 n k3) xs) := P3_12.out.later hB; have S3_13 : Hid (Own w13 w5.heap.size (Value.slice s3 m d3) ys) := S3_12.out.later hB; have X_13 : Hid (C5 w13 w6.heap.size (.slice p3 n k3) a b t (.slice s3 m d3)) := X_12.out.later hB; have GP_13 : Hid (OwnS w13 w7.heap.size (Value.slice p4 pn k4) zp) := GP_12.out.later hB; have GS_13 : Hid (Own w13 w7.heap.size (Value.slice s4 sn d4) zs) := GS_12.out.later hB; have GQ_13 : Hid (OwnS w13 w7.heap.size (Value.slice q4 ln j4) l) := GQ_12.out.later hB; have G_13 : Hid (C5 w13 w8.heap.size (.slice p4 pn k4) za zb zt (.slice s4 sn d4)) := G_12.out.later hB; have z13 : w12.heap.size ≤ w13.heap.size := hB.size; clear hb hB))
  all_goals (
    clear HB_11 HB_12 RP_11 RP_12 RS_11 RS_12 A_11 A_12 WP_11 WP_12 WS_11 WS_12 WQ_11 WQ_12 W_11 W_12 P3_11 P3_12 S3_11 S3_12 X_11 X_12 GP_11 GP_12 GS_11 GS_12 GQ_11 GQ_12 G_11 G_12 A0 A1 A2 A3 A4 eA0 eA1 eA2 eA3 eA4 X0 X1 X2 X3 X4 eX0 eX1 eX2 eX3 eX4 P5_12 S5_12
    obtain ⟨⟨X0, X1, X2, X3, X4⟩, Xf⟩ := X_13.out
    clear Xf
    go_wp2_with fail
    refine (markMix_c p3 s3 n k3 m d3 w5.heap.size a b t xs ys _ hn hm (by omega) P3_13.out S3_13.out).mono ?_
    clear X0 X1 X2 X3 X4
    rintro e w14 ⟨rfl, ho, hp, W1, W2, hb, hg1, hg2⟩
    have y14 : w13.heap.size ≤ W1.heap.size := hb.size
    have x14 : W1.heap.size ≤ W2.heap.size := hg1.size
    have z14 : w13.heap.size ≤ w14.heap.size := Nat.le_trans hb.size (Nat.le_trans hg1.size hg2.size)
    have HB_14 : Hid (Below w.heap.size w w14) := Below.grown (Below.grown (HB_13.out.trans (hb.mono HB_13.out.size)) hg1 (by have := HB_13.out.size; omega) (fun k e => by have := I_P3.out k e; have := HB_13.out.size; omega)) hg2 (by have := HB_13.out.size; omega) (fun k e => by have := I_S3.out k e; have := HB_13.out.size; omega)
    have A_14 : Hid (C5 w14 w.heap.size (.slice po n c) a b t (.slice so m d)) := ((A_13.out.later hb).grown hg1 (fun e => by have := I_P3.out _ e.symm; omega)).grown hg2 (fun e => by have := I_S3.out _ e.symm; omega)
    have WP_14 : Hid (OwnS w14 w3.heap.size (Value.slice p2 pn k2) zp) := ((WP_13.out.later hb).kept hg1 (own_sep I_WP.out I_P3.out (by omega))).kept hg2 (own_sep I_WP.out I_S3.out (by omega))
    have WS_14 : Hid (Own w14 w3.heap.size (Value.slice s2 sn d2) zs) := ((WS_13.out.later hb).kept hg1 (own_sep I_WS.out I_P3.out (by omega))).kept hg2 (own_sep I_WS.out I_S3.out (by omega))
    have WQ_14 : Hid (OwnS w14 w3.heap.size (Value.slice q2 ln j2) l) := ((WQ_13.out.later hb).kept hg1 (own_sep I_WQ.out I_P3.out (by omega))).kept hg2 (own_sep I_WQ.out I_S3.out (by omega))
    have W_14 : Hid (C5 w14 w4.heap.size (.slice p2 pn k2) za zb zt (.slice s2 sn d2)) := ((W_13.out.later hb).grown hg1 (fun e => by have := I_P3.out _ e.symm; omega)).grown hg2 (fun e => by have := I_S3.out _ e.symm; omega)
    have X_14 : Hid (C5 w14 w6.heap.size (.slice p3 n k3) a b t (.slice s3 m d3)) := ((X_13.out.later hb).grown hg1 (fun e => by have := I_P3.out _ e.symm; omega)).grown hg2 (fun e => by have := I_S3.out _ e.symm; omega)
    have GP_14 : Hid (OwnS w14 w7.heap.size (Value.slice p4 pn k4) zp) := ((GP_13.out.later hb).kept hg1 (own_sep I_GP.out I_P3.out (by omega))).kept hg2 (own_sep I_GP.out I_S3.out (by omega))
    have GS_14 : Hid (Own w14 w7.heap.size (Value.slice s4 sn d4) zs) := ((GS_13.out.later hb).kept hg1 (own_sep I_GS.out I_P3.out (by omega))).kept hg2 (own_sep I_GS.out I_S3.out (by omega))
    have GQ_14 : Hid (OwnS w14 w7.heap.size (Value.slice q4 ln j4) l) := ((GQ_13.out.later hb).kept hg1 (own_sep I_GQ.out I_P3.out (by omega))).kept hg2 (own_sep I_GQ.out I_S3.out (by omega))
    have G_14 : Hid (C5 w14 w8.heap.size (.slice p4 pn k4) za zb zt (.slice s4 sn d4)) := ((G_13.out.later hb).grown hg1 (fun e => by have := I_P3.out _ e.symm; omega)).grown hg2 (fun e => by have := I_S3.out _ e.symm; omega)
    have P3_14 : Hid (OwnS w14 w5.heap.size (Value.slice p3 n k3) (marksS 1 n)) := ho
    have S3_14 : Hid (Own w14 w5.heap.size (Value.slice s3 m d3) (marks (1 + n) m)) := hp
    clear hg1 hb hg2 HB_13 RP_13 RS_13 A_13 WP_13 WS_13 WQ_13 W_13 P3_13 S3_13 X_13 GP_13 GS_13 GQ_13 G_13 ho hp
    have RP_14 : Hid (RdS w14 po xs) := HR0.out.later HB_14.out
    have RS_14 : Hid (Rd w14 so ys) := HS0.out.later HB_14.out
    obtain ⟨⟨G0, G1, G2, G3, G4⟩, Gf⟩ := G_14.out
    clear Gf
    obtain ⟨⟨W0, W1, W2, W3, W4⟩, Wf⟩ := W_14.out
    clear Wf
    go_wp2_with fail
    refine (eqMix_c p4 s4 p2 s2 pn k4 sn d4 k2 d2 za zb zt zp zs _ HPL.out HSL.out (by omega) (by omega) GP_14.out.rd'.2 GS_14.out.rd'.2 WP_14.out.rd'.2 WS_14.out.rd'.2).mono ?_
    clear G0 G1 G2 G3 G4
    clear W0 W1 W2 W3 W4
    rintro e w15 ⟨rfl, hb⟩
    have hB : Below w14.heap.size w14 w15 := hb
    have HB_15 : Hid (Below w.heap.size w w15) := HB_14.out.trans (hB.mono HB_14.out.size)
    have A_15 : Hid (C5 w15 w.heap.size (.slice po n c) a b t (.slice so m d)) := A_14.out.later hB
    have WP_15 : Hid (OwnS w15 w3.heap.size (Value.slice p2 pn k2) zp) := WP_14.out.later hB
    have WS_15 : Hid (Own w15 w3.heap.size (Value.slice s2 sn d2) zs) := WS_14.out.later hB
    have WQ_15 : Hid (OwnS w15 w3.heap.size (Value.slice q2 ln j2) l) := WQ_14.out.later hB
    have W_15 : Hid (C5 w15 w4.heap.size (.slice p2 pn k2) za zb zt (.slice s2 sn d2)) := W_14.out.later hB
    have P3_15 : Hid (OwnS w15 w5.heap.size (Value.slice p3 n k3) (marksS 1 n)) := P3_14.out.later hB
    have S3_15 : Hid (Own w15 w5.heap.size (Value.slice s3 m d3) (marks (1 + n) m)) := S3_14.out.later hB
    have X_15 : Hid (C5 w15 w6.heap.size (.slice p3 n k3) a b t (.slice s3 m d3)) := X_14.out.later hB
    have GP_15 : Hid (OwnS w15 w7.heap.size (Value.slice p4 pn k4) zp) := GP_14.out.later hB
    have GS_15 : Hid (Own w15 w7.heap.size (Value.slice s4 sn d4) zs) := GS_14.out.later hB
    have GQ_15 : Hid (OwnS w15 w7.heap.size (Value.slice q4 ln j4) l) := GQ_14.out.later hB
    have G_15 : Hid (C5 w15 w8.heap.size (.slice p4 pn k4) za zb zt (.slice s4 sn d4)) := G_14.out.later hB
    have RP_15 : Hid (RdS w15 po xs) := RP_14.out.later hB
    have RS_15 : Hid (Rd w15 so ys) := RS_14.out.later hB
    have z15 : w14.heap.size ≤ w15.heap.size := hB.size
    clear hb hB HB_14 A_14 WP_14 WS_14 WQ_14 W_14 P3_14 S3_14 X_14 GP_14 GS_14 GQ_14 G_14 RP_14 RS_14 
    go_wp2_with fail
    refine (eqStringS_c q4 q2 ln ln j4 j2 l l _ HLL.out HLL.out (by omega) (by omega) GQ_15.out.rd'.2 WQ_15.out.rd'.2).mono ?_
    rw [decide_eq_true rfl]
    rintro e w16 ⟨rfl, hb⟩
    have hB : Below w15.heap.size w15 w16 := hb
    have HB_16 : Hid (Below w.heap.size w w16) := HB_15.out.trans (hB.mono HB_15.out.size)
    have A_16 : Hid (C5 w16 w.heap.size (.slice po n c) a b t (.slice so m d)) := A_15.out.later hB
    have WP_16 : Hid (OwnS w16 w3.heap.size (Value.slice p2 pn k2) zp) := WP_15.out.later hB
    have WS_16 : Hid (Own w16 w3.heap.size (Value.slice s2 sn d2) zs) := WS_15.out.later hB
    have WQ_16 : Hid (OwnS w16 w3.heap.size (Value.slice q2 ln j2) l) := WQ_15.out.later hB
    have W_16 : Hid (C5 w16 w4.heap.size (.slice p2 pn k2) za zb zt (.slice s2 sn d2)) := W_15.out.later hB
    have P3_16 : Hid (OwnS w16 w5.heap.size (Value.slice p3 n k3) (marksS 1 n)) := P3_15.out.later hB
    have S3_16 : Hid (Own w16 w5.heap.size (Value.slice s3 m d3) (marks (1 + n) m)) := S3_15.out.later hB
    have X_16 : Hid (C5 w16 w6.heap.size (.slice p3 n k3) a b t (.slice s3 m d3)) := X_15.out.later hB
    have GP_16 : Hid (OwnS w16 w7.heap.size (Value.slice p4 pn k4) zp) := GP_15.out.later hB
    have GS_16 : Hid (Own w16 w7.heap.size (Value.slice s4 sn d4) zs) := GS_15.out.later hB
    have GQ_16 : Hid (OwnS w16 w7.heap.size (Value.slice q4 ln j4) l) := GQ_15.out.later hB
    have G_16 : Hid (C5 w16 w8.heap.size (.slice p4 pn k4) za zb zt (.slice s4 sn d4)) := G_15.out.later hB
    have RP_16 : Hid (RdS w16 po xs) := RP_15.out.later hB
    have RS_16 : Hid (Rd w16 so ys) := RS_15.out.later hB
    have z16 : w15.heap.size ≤ w16.heap.size := hB.size
    clear hb hB HB_15 A_15 WP_15 WS_15 WQ_15 W_15 P3_15 S3_15 X_15 GP_15 GS_15 GQ_15 G_15 RP_15 RS_15 
    have SEPT : Hid ((Value.slice q4 ln j4).ownBlock = none ∨ (Value.slice q4 ln j4).ownBlock ≠ (Value.slice s4 sn d4).ownBlock) := sep_types' GS_16.out GQ_16.out
    have SEPU : Hid ((Value.slice s4 sn d4).ownBlock = none ∨ (Value.slice s4 sn d4).ownBlock ≠ (Value.slice q4 ln j4).ownBlock) := sep_types GS_16.out GQ_16.out
    obtain ⟨⟨G0, G1, G2, G3, G4⟩, Gf⟩ := G_16.out
    clear Gf
    go_wp2_with fail
    refine (markMix_c p4 s4 pn k4 sn d4 w7.heap.size za zb zt zp zs _ (by omega) (by omega) (by omega) GP_16.out GS_16.out).mono ?_
    clear G0 G1 G2 G3 G4
    rintro e w17 ⟨rfl, ho, hp, W1, W2, hb, hg1, hg2⟩
    have y17 : w16.heap.size ≤ W1.heap.size := hb.size
    have x17 : W1.heap.size ≤ W2.heap.size := hg1.size
    have z17 : w16.heap.size ≤ w17.heap.size := Nat.le_trans hb.size (Nat.le_trans hg1.size hg2.size)
    have HB_17 : Hid (Below w.heap.size w w17) := Below.grown (Below.grown (HB_16.out.trans (hb.mono HB_16.out.size)) hg1 (by have := HB_16.out.size; omega) (fun k e => by have := I_GP.out k e; have := HB_16.out.size; omega)) hg2 (by have := HB_16.out.size; omega) (fun k e => by have := I_GS.out k e; have := HB_16.out.size; omega)
    have A_17 : Hid (C5 w17 w.heap.size (.slice po n c) a b t (.slice so m d)) := ((A_16.out.later hb).grown hg1 (fun e => by have := I_GP.out _ e.symm; omega)).grown hg2 (fun e => by have := I_GS.out _ e.symm; omega)
    have WP_17 : Hid (OwnS w17 w3.heap.size (Value.slice p2 pn k2) zp) := ((WP_16.out.later hb).kept hg1 (own_sep I_WP.out I_GP.out (by omega))).kept hg2 (own_sep I_WP.out I_GS.out (by omega))
    have WS_17 : Hid (Own w17 w3.heap.size (Value.slice s2 sn d2) zs) := ((WS_16.out.later hb).kept hg1 (own_sep I_WS.out I_GP.out (by omega))).kept hg2 (own_sep I_WS.out I_GS.out (by omega))
    have WQ_17 : Hid (OwnS w17 w3.heap.size (Value.slice q2 ln j2) l) := ((WQ_16.out.later hb).kept hg1 (own_sep I_WQ.out I_GP.out (by omega))).kept hg2 (own_sep I_WQ.out I_GS.out (by omega))
    have W_17 : Hid (C5 w17 w4.heap.size (.slice p2 pn k2) za zb zt (.slice s2 sn d2)) := ((W_16.out.later hb).grown hg1 (fun e => by have := I_GP.out _ e.symm; omega)).grown hg2 (fun e => by have := I_GS.out _ e.symm; omega)
    have P3_17 : Hid (OwnS w17 w5.heap.size (Value.slice p3 n k3) (marksS 1 n)) := ((P3_16.out.later hb).kept hg1 (own_sep I_P3.out I_GP.out (by omega))).kept hg2 (own_sep I_P3.out I_GS.out (by omega))
    have S3_17 : Hid (Own w17 w5.heap.size (Value.slice s3 m d3) (marks (1 + n) m)) := ((S3_16.out.later hb).kept hg1 (own_sep I_S3.out I_GP.out (by omega))).kept hg2 (own_sep I_S3.out I_GS.out (by omega))
    have X_17 : Hid (C5 w17 w6.heap.size (.slice p3 n k3) a b t (.slice s3 m d3)) := ((X_16.out.later hb).grown hg1 (fun e => by have := I_GP.out _ e.symm; omega)).grown hg2 (fun e => by have := I_GS.out _ e.symm; omega)
    have GQ_17 : Hid (OwnS w17 w7.heap.size (Value.slice q4 ln j4) l) := ((GQ_16.out.later hb).kept hg1 (sep_swap SEPG.out)).kept hg2 (SEPT.out)
    have G_17 : Hid (C5 w17 w8.heap.size (.slice p4 pn k4) za zb zt (.slice s4 sn d4)) := ((G_16.out.later hb).grown hg1 (fun e => by have := I_GP.out _ e.symm; omega)).grown hg2 (fun e => by have := I_GS.out _ e.symm; omega)
    have GP_17 : Hid (OwnS w17 w7.heap.size (Value.slice p4 pn k4) (marksS 1 pn)) := ho
    have GS_17 : Hid (Own w17 w7.heap.size (Value.slice s4 sn d4) (marks (1 + pn) sn)) := hp
    clear hg1 hb hg2 HB_16 A_16 WP_16 WS_16 WQ_16 W_16 P3_16 S3_16 X_16 GP_16 GS_16 GQ_16 G_16 RP_16 RS_16 ho hp
    have RP_17 : Hid (RdS w17 po xs) := HR0.out.later HB_17.out
    have RS_17 : Hid (Rd w17 so ys) := HS0.out.later HB_17.out
    go_wp2_with fail
    refine (markStringS_c q4 ln j4 (1 + pn + sn) w7.heap.size l _ (by omega) (by omega) (by omega) GQ_17.out).mono ?_
    rintro e w18 ⟨rfl, ho, hg1⟩
    have z18 : w17.heap.size ≤ w18.heap.size := hg1.size
    have HB_18 : Hid (Below w.heap.size w w18) := Below.grown (HB_17.out) hg1 (by have := HB_17.out.size; omega) (fun k e => by have := I_GQ.out k e; have := HB_17.out.size; omega)
    have A_18 : Hid (C5 w18 w.heap.size (.slice po n c) a b t (.slice so m d)) := (A_17.out).grown hg1 (fun e => by have := I_GQ.out _ e.symm; omega)
    have WP_18 : Hid (OwnS w18 w3.heap.size (Value.slice p2 pn k2) zp) := (WP_17.out).kept hg1 (own_sep I_WP.out I_GQ.out (by omega))
    have WS_18 : Hid (Own w18 w3.heap.size (Value.slice s2 sn d2) zs) := (WS_17.out).kept hg1 (own_sep I_WS.out I_GQ.out (by omega))
    have WQ_18 : Hid (OwnS w18 w3.heap.size (Value.slice q2 ln j2) l) := (WQ_17.out).kept hg1 (own_sep I_WQ.out I_GQ.out (by omega))
    have W_18 : Hid (C5 w18 w4.heap.size (.slice p2 pn k2) za zb zt (.slice s2 sn d2)) := (W_17.out).grown hg1 (fun e => by have := I_GQ.out _ e.symm; omega)
    have P3_18 : Hid (OwnS w18 w5.heap.size (Value.slice p3 n k3) (marksS 1 n)) := (P3_17.out).kept hg1 (own_sep I_P3.out I_GQ.out (by omega))
    have S3_18 : Hid (Own w18 w5.heap.size (Value.slice s3 m d3) (marks (1 + n) m)) := (S3_17.out).kept hg1 (own_sep I_S3.out I_GQ.out (by omega))
    have X_18 : Hid (C5 w18 w6.heap.size (.slice p3 n k3) a b t (.slice s3 m d3)) := (X_17.out).grown hg1 (fun e => by have := I_GQ.out _ e.symm; omega)
    have GP_18 : Hid (OwnS w18 w7.heap.size (Value.slice p4 pn k4) (marksS 1 pn)) := (GP_17.out).kept hg1 (SEPG.out)
    have GS_18 : Hid (Own w18 w7.heap.size (Value.slice s4 sn d4) (marks (1 + pn) sn)) := (GS_17.out).kept hg1 (SEPU.out)
    have G_18 : Hid (C5 w18 w8.heap.size (.slice p4 pn k4) za zb zt (.slice s4 sn d4)) := (G_17.out).grown hg1 (fun e => by have := I_GQ.out _ e.symm; omega)
    have GQ_18 : Hid (OwnS w18 w7.heap.size (Value.slice q4 ln j4) (marksS (1 + pn + sn) ln)) := ho
    clear hg1  HB_17 A_17 WP_17 WS_17 WQ_17 W_17 P3_17 S3_17 X_17 GP_17 GS_17 GQ_17 G_17 RP_17 RS_17 ho
    have RP_18 : Hid (RdS w18 po xs) := HR0.out.later HB_18.out
    have RS_18 : Hid (Rd w18 so ys) := HS0.out.later HB_18.out
    obtain ⟨⟨G0, G1, G2, G3, G4⟩, Gf⟩ := G_18.out
    clear Gf
    go_wp2_with fail
    refine (heldMix_c p4 s4 pn k4 sn d4 w7.heap.size za zb zt _ (by omega) (by omega) GP_18.out GS_18.out).mono ?_
    clear G0 G1 G2 G3 G4
    rintro e w19 ⟨rfl, hb⟩
    have hB : Below w18.heap.size w18 w19 := hb
    have HB_19 : Hid (Below w.heap.size w w19) := HB_18.out.trans (hB.mono HB_18.out.size)
    have A_19 : Hid (C5 w19 w.heap.size (.slice po n c) a b t (.slice so m d)) := A_18.out.later hB
    have WP_19 : Hid (OwnS w19 w3.heap.size (Value.slice p2 pn k2) zp) := WP_18.out.later hB
    have WS_19 : Hid (Own w19 w3.heap.size (Value.slice s2 sn d2) zs) := WS_18.out.later hB
    have WQ_19 : Hid (OwnS w19 w3.heap.size (Value.slice q2 ln j2) l) := WQ_18.out.later hB
    have W_19 : Hid (C5 w19 w4.heap.size (.slice p2 pn k2) za zb zt (.slice s2 sn d2)) := W_18.out.later hB
    have P3_19 : Hid (OwnS w19 w5.heap.size (Value.slice p3 n k3) (marksS 1 n)) := P3_18.out.later hB
    have S3_19 : Hid (Own w19 w5.heap.size (Value.slice s3 m d3) (marks (1 + n) m)) := S3_18.out.later hB
    have X_19 : Hid (C5 w19 w6.heap.size (.slice p3 n k3) a b t (.slice s3 m d3)) := X_18.out.later hB
    have GP_19 : Hid (OwnS w19 w7.heap.size (Value.slice p4 pn k4) (marksS 1 pn)) := GP_18.out.later hB
    have GS_19 : Hid (Own w19 w7.heap.size (Value.slice s4 sn d4) (marks (1 + pn) sn)) := GS_18.out.later hB
    have GQ_19 : Hid (OwnS w19 w7.heap.size (Value.slice q4 ln j4) (marksS (1 + pn + sn) ln)) := GQ_18.out.later hB
    have G_19 : Hid (C5 w19 w8.heap.size (.slice p4 pn k4) za zb zt (.slice s4 sn d4)) := G_18.out.later hB
    have RP_19 : Hid (RdS w19 po xs) := RP_18.out.later hB
    have RS_19 : Hid (Rd w19 so ys) := RS_18.out.later hB
    have z19 : w18.heap.size ≤ w19.heap.size := hB.size
    clear hb hB HB_18 A_18 WP_18 WS_18 WQ_18 W_18 P3_18 S3_18 X_18 GP_18 GS_18 GQ_18 G_18 RP_18 RS_18 
    go_wp2_with fail
    refine (heldStringS_c q4 ln j4 (1 + pn + sn) w7.heap.size _ (by omega) (by omega) (by omega) GQ_19.out).mono ?_
    rintro e w20 ⟨rfl, hb⟩
    have hB : Below w19.heap.size w19 w20 := hb
    have HB_20 : Hid (Below w.heap.size w w20) := HB_19.out.trans (hB.mono HB_19.out.size)
    have A_20 : Hid (C5 w20 w.heap.size (.slice po n c) a b t (.slice so m d)) := A_19.out.later hB
    have WP_20 : Hid (OwnS w20 w3.heap.size (Value.slice p2 pn k2) zp) := WP_19.out.later hB
    have WS_20 : Hid (Own w20 w3.heap.size (Value.slice s2 sn d2) zs) := WS_19.out.later hB
    have WQ_20 : Hid (OwnS w20 w3.heap.size (Value.slice q2 ln j2) l) := WQ_19.out.later hB
    have W_20 : Hid (C5 w20 w4.heap.size (.slice p2 pn k2) za zb zt (.slice s2 sn d2)) := W_19.out.later hB
    have P3_20 : Hid (OwnS w20 w5.heap.size (Value.slice p3 n k3) (marksS 1 n)) := P3_19.out.later hB
    have S3_20 : Hid (Own w20 w5.heap.size (Value.slice s3 m d3) (marks (1 + n) m)) := S3_19.out.later hB
    have X_20 : Hid (C5 w20 w6.heap.size (.slice p3 n k3) a b t (.slice s3 m d3)) := X_19.out.later hB
    have GP_20 : Hid (OwnS w20 w7.heap.size (Value.slice p4 pn k4) (marksS 1 pn)) := GP_19.out.later hB
    have GS_20 : Hid (Own w20 w7.heap.size (Value.slice s4 sn d4) (marks (1 + pn) sn)) := GS_19.out.later hB
    have GQ_20 : Hid (OwnS w20 w7.heap.size (Value.slice q4 ln j4) (marksS (1 + pn + sn) ln)) := GQ_19.out.later hB
    have G_20 : Hid (C5 w20 w8.heap.size (.slice p4 pn k4) za zb zt (.slice s4 sn d4)) := G_19.out.later hB
    have RP_20 : Hid (RdS w20 po xs) := RP_19.out.later hB
    have RS_20 : Hid (Rd w20 so ys) := RS_19.out.later hB
    have z20 : w19.heap.size ≤ w20.heap.size := hB.size
    clear hb hB HB_19 A_19 WP_19 WS_19 WQ_19 W_19 P3_19 S3_19 X_19 GP_19 GS_19 GQ_19 G_19 RP_19 RS_19 
    obtain ⟨⟨A0, A1, A2, A3, A4⟩, Af⟩ := A_20.out
    clear Af
    go_wp2_with fail
    refine (toMix_c po so n c m d a b t xs ys _ HX.out HY.out hn hm RP_20.out RS_20.out).mono ?_
    clear A0 A1 A2 A3 A4
    rintro e w21 ⟨p6, k6, s6, d6, rfl, ho, hp, hb⟩
    have hB : Below w20.heap.size w20 w21 := hb
    have HB_21 : Hid (Below w.heap.size w w21) := HB_20.out.trans (hB.mono HB_20.out.size)
    have A_21 : Hid (C5 w21 w.heap.size (.slice po n c) a b t (.slice so m d)) := A_20.out.later hB
    have WP_21 : Hid (OwnS w21 w3.heap.size (Value.slice p2 pn k2) zp) := WP_20.out.later hB
    have WS_21 : Hid (Own w21 w3.heap.size (Value.slice s2 sn d2) zs) := WS_20.out.later hB
    have WQ_21 : Hid (OwnS w21 w3.heap.size (Value.slice q2 ln j2) l) := WQ_20.out.later hB
    have W_21 : Hid (C5 w21 w4.heap.size (.slice p2 pn k2) za zb zt (.slice s2 sn d2)) := W_20.out.later hB
    have P3_21 : Hid (OwnS w21 w5.heap.size (Value.slice p3 n k3) (marksS 1 n)) := P3_20.out.later hB
    have S3_21 : Hid (Own w21 w5.heap.size (Value.slice s3 m d3) (marks (1 + n) m)) := S3_20.out.later hB
    have X_21 : Hid (C5 w21 w6.heap.size (.slice p3 n k3) a b t (.slice s3 m d3)) := X_20.out.later hB
    have GP_21 : Hid (OwnS w21 w7.heap.size (Value.slice p4 pn k4) (marksS 1 pn)) := GP_20.out.later hB
    have GS_21 : Hid (Own w21 w7.heap.size (Value.slice s4 sn d4) (marks (1 + pn) sn)) := GS_20.out.later hB
    have GQ_21 : Hid (OwnS w21 w7.heap.size (Value.slice q4 ln j4) (marksS (1 + pn + sn) ln)) := GQ_20.out.later hB
    have G_21 : Hid (C5 w21 w8.heap.size (.slice p4 pn k4) za zb zt (.slice s4 sn d4)) := G_20.out.later hB
    have RP_21 : Hid (RdS w21 po xs) := RP_20.out.later hB
    have RS_21 : Hid (Rd w21 so ys) := RS_20.out.later hB
    have z21 : w20.heap.size ≤ w21.heap.size := hB.size
    have P6_21 : Hid (OwnS w21 w20.heap.size (Value.slice p6 n k6) xs) := ho
    have I_P6 : Hid (∀ k, (Value.slice p6 n k6).ownBlock = some k → w20.heap.size ≤ k ∧ k < w21.heap.size) := World.ownsRow.lt P6_21.out
    have S6_21 : Hid (Own w21 w20.heap.size (Value.slice s6 m d6) ys) := hp
    have I_S6 : Hid (∀ k, (Value.slice s6 m d6).ownBlock = some k → w20.heap.size ≤ k ∧ k < w21.heap.size) := World.ownsRow.lt S6_21.out
    clear hb hB HB_20 A_20 WP_20 WS_20 WQ_20 W_20 P3_20 S3_20 X_20 GP_20 GS_20 GQ_20 G_20 RP_20 RS_20 ho hp
    go_wp2_with fail
    refine (HIm.out p6 k6 s6 d6 _ P6_21.out.rd'.2 S6_21.out.rd'.2 P6_21.out.nil S6_21.out.nil hn hm).mono ?_
    rintro e w22 ⟨⟨p7, k7, s7, d7, q7, j7, rfl, ho, hp, hq, hsep⟩, hb⟩
    have hB : Below w21.heap.size w21 w22 := hb
    have HB_22 : Hid (Below w.heap.size w w22) := HB_21.out.trans (hB.mono HB_21.out.size)
    have A_22 : Hid (C5 w22 w.heap.size (.slice po n c) a b t (.slice so m d)) := A_21.out.later hB
    have WP_22 : Hid (OwnS w22 w3.heap.size (Value.slice p2 pn k2) zp) := WP_21.out.later hB
    have WS_22 : Hid (Own w22 w3.heap.size (Value.slice s2 sn d2) zs) := WS_21.out.later hB
    have WQ_22 : Hid (OwnS w22 w3.heap.size (Value.slice q2 ln j2) l) := WQ_21.out.later hB
    have W_22 : Hid (C5 w22 w4.heap.size (.slice p2 pn k2) za zb zt (.slice s2 sn d2)) := W_21.out.later hB
    have P3_22 : Hid (OwnS w22 w5.heap.size (Value.slice p3 n k3) (marksS 1 n)) := P3_21.out.later hB
    have S3_22 : Hid (Own w22 w5.heap.size (Value.slice s3 m d3) (marks (1 + n) m)) := S3_21.out.later hB
    have X_22 : Hid (C5 w22 w6.heap.size (.slice p3 n k3) a b t (.slice s3 m d3)) := X_21.out.later hB
    have GP_22 : Hid (OwnS w22 w7.heap.size (Value.slice p4 pn k4) (marksS 1 pn)) := GP_21.out.later hB
    have GS_22 : Hid (Own w22 w7.heap.size (Value.slice s4 sn d4) (marks (1 + pn) sn)) := GS_21.out.later hB
    have GQ_22 : Hid (OwnS w22 w7.heap.size (Value.slice q4 ln j4) (marksS (1 + pn + sn) ln)) := GQ_21.out.later hB
    have G_22 : Hid (C5 w22 w8.heap.size (.slice p4 pn k4) za zb zt (.slice s4 sn d4)) := G_21.out.later hB
    have RP_22 : Hid (RdS w22 po xs) := RP_21.out.later hB
    have RS_22 : Hid (Rd w22 so ys) := RS_21.out.later hB
    have z22 : w21.heap.size ≤ w22.heap.size := hB.size
    have HP_22 : Hid (OwnS w22 w21.heap.size (Value.slice p7 pn k7) zp) := ho
    have I_HP : Hid (∀ k, (Value.slice p7 pn k7).ownBlock = some k → w21.heap.size ≤ k ∧ k < w22.heap.size) := World.ownsRow.lt HP_22.out
    have HS_22 : Hid (Own w22 w21.heap.size (Value.slice s7 sn d7) zs) := hp
    have I_HS : Hid (∀ k, (Value.slice s7 sn d7).ownBlock = some k → w21.heap.size ≤ k ∧ k < w22.heap.size) := World.ownsRow.lt HS_22.out
    have HQ_22 : Hid (OwnS w22 w21.heap.size (Value.slice q7 ln j7) l) := hq
    have I_HQ : Hid (∀ k, (Value.slice q7 ln j7).ownBlock = some k → w21.heap.size ≤ k ∧ k < w22.heap.size) := World.ownsRow.lt HQ_22.out
    clear hb hB HB_21 A_21 WP_21 WS_21 WQ_21 W_21 P3_21 S3_21 X_21 GP_21 GS_21 GQ_21 G_21 RP_21 RS_21 P6_21 S6_21 ho hp hq
    have SEPH : Hid ((Value.slice p7 pn k7).ownBlock = none ∨ (Value.slice p7 pn k7).ownBlock ≠ (Value.slice q7 ln j7).ownBlock) := hsep
    clear hsep
    have hHB := HB_22.out.alloc HB_22.out.size (.cells #[.slice p7 pn k7, .int .i64 za, .int .i64 zb, .int .i64 zt, .slice s7 sn d7] 41)
    have hA := A_22.out.later (balloc w22 (.cells #[.slice p7 pn k7, .int .i64 za, .int .i64 zb, .int .i64 zt, .slice s7 sn d7] 41))
    have hWP := WP_22.out.later (balloc w22 (.cells #[.slice p7 pn k7, .int .i64 za, .int .i64 zb, .int .i64 zt, .slice s7 sn d7] 41))
    have hWS := WS_22.out.later (balloc w22 (.cells #[.slice p7 pn k7, .int .i64 za, .int .i64 zb, .int .i64 zt, .slice s7 sn d7] 41))
    have hWQ := WQ_22.out.later (balloc w22 (.cells #[.slice p7 pn k7, .int .i64 za, .int .i64 zb, .int .i64 zt, .slice s7 sn d7] 41))
    have hW := W_22.out.later (balloc w22 (.cells #[.slice p7 pn k7, .int .i64 za, .int .i64 zb, .int .i64 zt, .slice s7 sn d7] 41))
    have hP3 := P3_22.out.later (balloc w22 (.cells #[.slice p7 pn k7, .int .i64 za, .int .i64 zb, .int .i64 zt, .slice s7 sn d7] 41))
    have hS3 := S3_22.out.later (balloc w22 (.cells #[.slice p7 pn k7, .int .i64 za, .int .i64 zb, .int .i64 zt, .slice s7 sn d7] 41))
    have hX := X_22.out.later (balloc w22 (.cells #[.slice p7 pn k7, .int .i64 za, .int .i64 zb, .int .i64 zt, .slice s7 sn d7] 41))
    have hGP := GP_22.out.later (balloc w22 (.cells #[.slice p7 pn k7, .int .i64 za, .int .i64 zb, .int .i64 zt, .slice s7 sn d7] 41))
    have hGS := GS_22.out.later (balloc w22 (.cells #[.slice p7 pn k7, .int .i64 za, .int .i64 zb, .int .i64 zt, .slice s7 sn d7] 41))
    have hGQ := GQ_22.out.later (balloc w22 (.cells #[.slice p7 pn k7, .int .i64 za, .int .i64 zb, .int .i64 zt, .slice s7 sn d7] 41))
    have hG := G_22.out.later (balloc w22 (.cells #[.slice p7 pn k7, .int .i64 za, .int .i64 zb, .int .i64 zt, .slice s7 sn d7] 41))
    have hRP := RP_22.out.later (balloc w22 (.cells #[.slice p7 pn k7, .int .i64 za, .int .i64 zb, .int .i64 zt, .slice s7 sn d7] 41))
    have hRS := RS_22.out.later (balloc w22 (.cells #[.slice p7 pn k7, .int .i64 za, .int .i64 zb, .int .i64 zt, .slice s7 sn d7] 41))
    have hHP := HP_22.out.later (balloc w22 (.cells #[.slice p7 pn k7, .int .i64 za, .int .i64 zb, .int .i64 zt, .slice s7 sn d7] 41))
    have hHS := HS_22.out.later (balloc w22 (.cells #[.slice p7 pn k7, .int .i64 za, .int .i64 zb, .int .i64 zt, .slice s7 sn d7] 41))
    have hHQ := HQ_22.out.later (balloc w22 (.cells #[.slice p7 pn k7, .int .i64 za, .int .i64 zb, .int .i64 zt, .slice s7 sn d7] 41))
    have hH := c5_new w22 (.slice p7 pn k7) za zb zt (.slice s7 sn d7) 41 w22.heap.size rfl
    have hz : (w22.alloc (.cells #[.slice p7 pn k7, .int .i64 za, .int .i64 zb, .int .i64 zt, .slice s7 sn d7] 41)).heap.size = w22.heap.size + 1 := by simp
    obtain ⟨w23, hV23⟩ : ∃ V, w22.alloc (.cells #[.slice p7 pn k7, .int .i64 za, .int .i64 zb, .int .i64 zt, .slice s7 sn d7] 41) = V := ⟨_, rfl⟩
    rw [hV23] at hHB hA hWP hWS hWQ hW hP3 hS3 hX hGP hGS hGQ hG hRP hRS hHP hHS hHQ hH hz
    have HB_23 : Hid (Below w.heap.size w w23) := hHB
    have A_23 : Hid (C5 w23 w.heap.size (.slice po n c) a b t (.slice so m d)) := hA
    have WP_23 : Hid (OwnS w23 w3.heap.size (Value.slice p2 pn k2) zp) := hWP
    have WS_23 : Hid (Own w23 w3.heap.size (Value.slice s2 sn d2) zs) := hWS
    have WQ_23 : Hid (OwnS w23 w3.heap.size (Value.slice q2 ln j2) l) := hWQ
    have W_23 : Hid (C5 w23 w4.heap.size (.slice p2 pn k2) za zb zt (.slice s2 sn d2)) := hW
    have P3_23 : Hid (OwnS w23 w5.heap.size (Value.slice p3 n k3) (marksS 1 n)) := hP3
    have S3_23 : Hid (Own w23 w5.heap.size (Value.slice s3 m d3) (marks (1 + n) m)) := hS3
    have X_23 : Hid (C5 w23 w6.heap.size (.slice p3 n k3) a b t (.slice s3 m d3)) := hX
    have GP_23 : Hid (OwnS w23 w7.heap.size (Value.slice p4 pn k4) (marksS 1 pn)) := hGP
    have GS_23 : Hid (Own w23 w7.heap.size (Value.slice s4 sn d4) (marks (1 + pn) sn)) := hGS
    have GQ_23 : Hid (OwnS w23 w7.heap.size (Value.slice q4 ln j4) (marksS (1 + pn + sn) ln)) := hGQ
    have G_23 : Hid (C5 w23 w8.heap.size (.slice p4 pn k4) za zb zt (.slice s4 sn d4)) := hG
    have RP_23 : Hid (RdS w23 po xs) := hRP
    have RS_23 : Hid (Rd w23 so ys) := hRS
    have HP_23 : Hid (OwnS w23 w21.heap.size (Value.slice p7 pn k7) zp) := hHP
    have HS_23 : Hid (Own w23 w21.heap.size (Value.slice s7 sn d7) zs) := hHS
    have HQ_23 : Hid (OwnS w23 w21.heap.size (Value.slice q7 ln j7) l) := hHQ
    have H_23 : Hid (C5 w23 w22.heap.size (.slice p7 pn k7) za zb zt (.slice s7 sn d7)) := hH
    have z23 : w22.heap.size + 1 ≤ w23.heap.size := by omega
    clear HB_22 A_22 WP_22 WS_22 WQ_22 W_22 P3_22 S3_22 X_22 GP_22 GS_22 GQ_22 G_22 RP_22 RS_22 HP_22 HS_22 HQ_22 hHB hA hWP hWS hWQ hW hP3 hS3 hX hGP hGS hGQ hG hRP hRS hHP hHS hHQ hH hz
    obtain ⟨⟨H0, H1, H2, H3, H4⟩, Hf⟩ := H_23.out
    clear Hf
    obtain ⟨⟨W0, W1, W2, W3, W4⟩, Wf⟩ := W_23.out
    clear Wf
    go_wp2_with fail
    clear hV23
    refine (eqMix_c p7 s7 p2 s2 pn k7 sn d7 k2 d2 za zb zt zp zs _ HPL.out HSL.out (by omega) (by omega) HP_23.out.rd'.2 HS_23.out.rd'.2 WP_23.out.rd'.2 WS_23.out.rd'.2).mono ?_
    clear H0 H1 H2 H3 H4
    clear W0 W1 W2 W3 W4
    rintro e w24 ⟨rfl, hb⟩
    have hB : Below w23.heap.size w23 w24 := hb
    have HB_24 : Hid (Below w.heap.size w w24) := HB_23.out.trans (hB.mono HB_23.out.size)
    have A_24 : Hid (C5 w24 w.heap.size (.slice po n c) a b t (.slice so m d)) := A_23.out.later hB
    have WP_24 : Hid (OwnS w24 w3.heap.size (Value.slice p2 pn k2) zp) := WP_23.out.later hB
    have WS_24 : Hid (Own w24 w3.heap.size (Value.slice s2 sn d2) zs) := WS_23.out.later hB
    have WQ_24 : Hid (OwnS w24 w3.heap.size (Value.slice q2 ln j2) l) := WQ_23.out.later hB
    have W_24 : Hid (C5 w24 w4.heap.size (.slice p2 pn k2) za zb zt (.slice s2 sn d2)) := W_23.out.later hB
    have P3_24 : Hid (OwnS w24 w5.heap.size (Value.slice p3 n k3) (marksS 1 n)) := P3_23.out.later hB
    have S3_24 : Hid (Own w24 w5.heap.size (Value.slice s3 m d3) (marks (1 + n) m)) := S3_23.out.later hB
    have X_24 : Hid (C5 w24 w6.heap.size (.slice p3 n k3) a b t (.slice s3 m d3)) := X_23.out.later hB
    have GP_24 : Hid (OwnS w24 w7.heap.size (Value.slice p4 pn k4) (marksS 1 pn)) := GP_23.out.later hB
    have GS_24 : Hid (Own w24 w7.heap.size (Value.slice s4 sn d4) (marks (1 + pn) sn)) := GS_23.out.later hB
    have GQ_24 : Hid (OwnS w24 w7.heap.size (Value.slice q4 ln j4) (marksS (1 + pn + sn) ln)) := GQ_23.out.later hB
    have G_24 : Hid (C5 w24 w8.heap.size (.slice p4 pn k4) za zb zt (.slice s4 sn d4)) := G_23.out.later hB
    have RP_24 : Hid (RdS w24 po xs) := RP_23.out.later hB
    have RS_24 : Hid (Rd w24 so ys) := RS_23.out.later hB
    have HP_24 : Hid (OwnS w24 w21.heap.size (Value.slice p7 pn k7) zp) := HP_23.out.later hB
    have HS_24 : Hid (Own w24 w21.heap.size (Value.slice s7 sn d7) zs) := HS_23.out.later hB
    have HQ_24 : Hid (OwnS w24 w21.heap.size (Value.slice q7 ln j7) l) := HQ_23.out.later hB
    have H_24 : Hid (C5 w24 w22.heap.size (.slice p7 pn k7) za zb zt (.slice s7 sn d7)) := H_23.out.later hB
    have z24 : w23.heap.size ≤ w24.heap.size := hB.size
    clear hb hB HB_23 A_23 WP_23 WS_23 WQ_23 W_23 P3_23 S3_23 X_23 GP_23 GS_23 GQ_23 G_23 RP_23 RS_23 HP_23 HS_23 HQ_23 H_23 
    go_wp2_with fail
    refine (eqStringS_c q7 q2 ln ln j7 j2 l l _ HLL.out HLL.out (by omega) (by omega) HQ_24.out.rd'.2 WQ_24.out.rd'.2).mono ?_
    rw [decide_eq_true rfl]
    rintro e w25 ⟨rfl, hb⟩
    have hB : Below w24.heap.size w24 w25 := hb
    have HB_25 : Hid (Below w.heap.size w w25) := HB_24.out.trans (hB.mono HB_24.out.size)
    have A_25 : Hid (C5 w25 w.heap.size (.slice po n c) a b t (.slice so m d)) := A_24.out.later hB
    have WP_25 : Hid (OwnS w25 w3.heap.size (Value.slice p2 pn k2) zp) := WP_24.out.later hB
    have WS_25 : Hid (Own w25 w3.heap.size (Value.slice s2 sn d2) zs) := WS_24.out.later hB
    have WQ_25 : Hid (OwnS w25 w3.heap.size (Value.slice q2 ln j2) l) := WQ_24.out.later hB
    have W_25 : Hid (C5 w25 w4.heap.size (.slice p2 pn k2) za zb zt (.slice s2 sn d2)) := W_24.out.later hB
    have P3_25 : Hid (OwnS w25 w5.heap.size (Value.slice p3 n k3) (marksS 1 n)) := P3_24.out.later hB
    have S3_25 : Hid (Own w25 w5.heap.size (Value.slice s3 m d3) (marks (1 + n) m)) := S3_24.out.later hB
    have X_25 : Hid (C5 w25 w6.heap.size (.slice p3 n k3) a b t (.slice s3 m d3)) := X_24.out.later hB
    have GP_25 : Hid (OwnS w25 w7.heap.size (Value.slice p4 pn k4) (marksS 1 pn)) := GP_24.out.later hB
    have GS_25 : Hid (Own w25 w7.heap.size (Value.slice s4 sn d4) (marks (1 + pn) sn)) := GS_24.out.later hB
    have GQ_25 : Hid (OwnS w25 w7.heap.size (Value.slice q4 ln j4) (marksS (1 + pn + sn) ln)) := GQ_24.out.later hB
    have G_25 : Hid (C5 w25 w8.heap.size (.slice p4 pn k4) za zb zt (.slice s4 sn d4)) := G_24.out.later hB
    have RP_25 : Hid (RdS w25 po xs) := RP_24.out.later hB
    have RS_25 : Hid (Rd w25 so ys) := RS_24.out.later hB
    have HP_25 : Hid (OwnS w25 w21.heap.size (Value.slice p7 pn k7) zp) := HP_24.out.later hB
    have HS_25 : Hid (Own w25 w21.heap.size (Value.slice s7 sn d7) zs) := HS_24.out.later hB
    have HQ_25 : Hid (OwnS w25 w21.heap.size (Value.slice q7 ln j7) l) := HQ_24.out.later hB
    have H_25 : Hid (C5 w25 w22.heap.size (.slice p7 pn k7) za zb zt (.slice s7 sn d7)) := H_24.out.later hB
    have z25 : w24.heap.size ≤ w25.heap.size := hB.size
    clear hb hB HB_24 A_24 WP_24 WS_24 WQ_24 W_24 P3_24 S3_24 X_24 GP_24 GS_24 GQ_24 G_24 RP_24 RS_24 HP_24 HS_24 HQ_24 H_24 
    obtain ⟨⟨G0, G1, G2, G3, G4⟩, Gf⟩ := G_25.out
    clear Gf
    go_wp2_with fail
    refine (heldMix_c p4 s4 pn k4 sn d4 w7.heap.size za zb zt _ (by omega) (by omega) GP_25.out GS_25.out).mono ?_
    clear G0 G1 G2 G3 G4
    rintro e w26 ⟨rfl, hb⟩
    have hB : Below w25.heap.size w25 w26 := hb
    have HB_26 : Hid (Below w.heap.size w w26) := HB_25.out.trans (hB.mono HB_25.out.size)
    have A_26 : Hid (C5 w26 w.heap.size (.slice po n c) a b t (.slice so m d)) := A_25.out.later hB
    have WP_26 : Hid (OwnS w26 w3.heap.size (Value.slice p2 pn k2) zp) := WP_25.out.later hB
    have WS_26 : Hid (Own w26 w3.heap.size (Value.slice s2 sn d2) zs) := WS_25.out.later hB
    have WQ_26 : Hid (OwnS w26 w3.heap.size (Value.slice q2 ln j2) l) := WQ_25.out.later hB
    have W_26 : Hid (C5 w26 w4.heap.size (.slice p2 pn k2) za zb zt (.slice s2 sn d2)) := W_25.out.later hB
    have P3_26 : Hid (OwnS w26 w5.heap.size (Value.slice p3 n k3) (marksS 1 n)) := P3_25.out.later hB
    have S3_26 : Hid (Own w26 w5.heap.size (Value.slice s3 m d3) (marks (1 + n) m)) := S3_25.out.later hB
    have X_26 : Hid (C5 w26 w6.heap.size (.slice p3 n k3) a b t (.slice s3 m d3)) := X_25.out.later hB
    have GP_26 : Hid (OwnS w26 w7.heap.size (Value.slice p4 pn k4) (marksS 1 pn)) := GP_25.out.later hB
    have GS_26 : Hid (Own w26 w7.heap.size (Value.slice s4 sn d4) (marks (1 + pn) sn)) := GS_25.out.later hB
    have GQ_26 : Hid (OwnS w26 w7.heap.size (Value.slice q4 ln j4) (marksS (1 + pn + sn) ln)) := GQ_25.out.later hB
    have G_26 : Hid (C5 w26 w8.heap.size (.slice p4 pn k4) za zb zt (.slice s4 sn d4)) := G_25.out.later hB
    have RP_26 : Hid (RdS w26 po xs) := RP_25.out.later hB
    have RS_26 : Hid (Rd w26 so ys) := RS_25.out.later hB
    have HP_26 : Hid (OwnS w26 w21.heap.size (Value.slice p7 pn k7) zp) := HP_25.out.later hB
    have HS_26 : Hid (Own w26 w21.heap.size (Value.slice s7 sn d7) zs) := HS_25.out.later hB
    have HQ_26 : Hid (OwnS w26 w21.heap.size (Value.slice q7 ln j7) l) := HQ_25.out.later hB
    have H_26 : Hid (C5 w26 w22.heap.size (.slice p7 pn k7) za zb zt (.slice s7 sn d7)) := H_25.out.later hB
    have z26 : w25.heap.size ≤ w26.heap.size := hB.size
    clear hb hB HB_25 A_25 WP_25 WS_25 WQ_25 W_25 P3_25 S3_25 X_25 GP_25 GS_25 GQ_25 G_25 RP_25 RS_25 HP_25 HS_25 HQ_25 H_25 
    go_wp2_with fail
    refine (heldStringS_c q4 ln j4 (1 + pn + sn) w7.heap.size _ (by omega) (by omega) (by omega) GQ_26.out).mono ?_
    rintro e w27 ⟨rfl, hb⟩
    have hB : Below w26.heap.size w26 w27 := hb
    have HB_27 : Hid (Below w.heap.size w w27) := HB_26.out.trans (hB.mono HB_26.out.size)
    have A_27 : Hid (C5 w27 w.heap.size (.slice po n c) a b t (.slice so m d)) := A_26.out.later hB
    have WP_27 : Hid (OwnS w27 w3.heap.size (Value.slice p2 pn k2) zp) := WP_26.out.later hB
    have WS_27 : Hid (Own w27 w3.heap.size (Value.slice s2 sn d2) zs) := WS_26.out.later hB
    have WQ_27 : Hid (OwnS w27 w3.heap.size (Value.slice q2 ln j2) l) := WQ_26.out.later hB
    have W_27 : Hid (C5 w27 w4.heap.size (.slice p2 pn k2) za zb zt (.slice s2 sn d2)) := W_26.out.later hB
    have P3_27 : Hid (OwnS w27 w5.heap.size (Value.slice p3 n k3) (marksS 1 n)) := P3_26.out.later hB
    have S3_27 : Hid (Own w27 w5.heap.size (Value.slice s3 m d3) (marks (1 + n) m)) := S3_26.out.later hB
    have X_27 : Hid (C5 w27 w6.heap.size (.slice p3 n k3) a b t (.slice s3 m d3)) := X_26.out.later hB
    have GP_27 : Hid (OwnS w27 w7.heap.size (Value.slice p4 pn k4) (marksS 1 pn)) := GP_26.out.later hB
    have GS_27 : Hid (Own w27 w7.heap.size (Value.slice s4 sn d4) (marks (1 + pn) sn)) := GS_26.out.later hB
    have GQ_27 : Hid (OwnS w27 w7.heap.size (Value.slice q4 ln j4) (marksS (1 + pn + sn) ln)) := GQ_26.out.later hB
    have G_27 : Hid (C5 w27 w8.heap.size (.slice p4 pn k4) za zb zt (.slice s4 sn d4)) := G_26.out.later hB
    have RP_27 : Hid (RdS w27 po xs) := RP_26.out.later hB
    have RS_27 : Hid (Rd w27 so ys) := RS_26.out.later hB
    have HP_27 : Hid (OwnS w27 w21.heap.size (Value.slice p7 pn k7) zp) := HP_26.out.later hB
    have HS_27 : Hid (Own w27 w21.heap.size (Value.slice s7 sn d7) zs) := HS_26.out.later hB
    have HQ_27 : Hid (OwnS w27 w21.heap.size (Value.slice q7 ln j7) l) := HQ_26.out.later hB
    have H_27 : Hid (C5 w27 w22.heap.size (.slice p7 pn k7) za zb zt (.slice s7 sn d7)) := H_26.out.later hB
    have z27 : w26.heap.size ≤ w27.heap.size := hB.size
    clear hb hB HB_26 A_26 WP_26 WS_26 WQ_26 W_26 P3_26 S3_26 X_26 GP_26 GS_26 GQ_26 G_26 RP_26 RS_26 HP_26 HS_26 HQ_26 H_26 
    go_wp2
    go_ret
    exact ⟨rfl, HB_27.out⟩)

end Go.Proofs.Ytelchkoplncmaaa
