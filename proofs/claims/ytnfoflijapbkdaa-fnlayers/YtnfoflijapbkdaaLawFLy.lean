/- The law FnLayers, walked: true at every two texts of bytes. -/
import Derived.Test.YtnfoflijapbkdaaD7Q
import Derived.Test.YtnfoflijapbkdaaF7P
import Derived.Test.YtnfoflijapbkdaaLawWO7
namespace Go.Proofs.Ytnfoflijapbkdaa
set_option linter.unusedVariables false
set_option maxRecDepth 1000000
set_option linter.unusedSimpArgs false
open Go.RowKit

set_option maxHeartbeats 16000000 in
set_option maxRecDepth 1000000 in
theorem lawFnLayers_c (ao : Option Addr) (n c : Nat) (bo : Option Addr) (m d : Nat) (w : World) (hn : n ≤ 9223372036854775807) (hm : m ≤ 9223372036854775807) (h1 : CodeOk w w.heap.size ao n) (h2 : CodeOk w w.heap.size bo m) :
    Calls Try.prog 3 #[.slice ao n c, .slice bo m d] w fun e w' => e = .returned (.bool true) ∧ Below w.heap.size w w' := by
  by_cases hl : 1048576 < wrap64 ((n : Int) + (m : Int))
  · clear h1 h2
    go_enter Try.func3, Try.ntmps3
    go_wp2
    go_ret
    exact ⟨rfl, Below.refl _ _⟩
  have HN : Hid (CodeOk w w.heap.size ao n) := h1
  have HM : Hid (CodeOk w w.heap.size bo m) := h2
  have HB0 : Hid (Below w.heap.size w w) := Below.refl _ _
  clear h1 h2
  go_enter Try.func3, Try.ntmps3
  go_wp2_with fail
  refine (drawBuild_c ao n c _ hn (HN.out.later HB0.out HB0.out.size)).mono ?_
  rintro e w1 ⟨a1, q1, c1, ks, a2, q2, c2, hs, s, rfl, hq1, hq5, hq25, hks, hhs, hss, ho1, ho2, hb⟩
  have HB1 : Hid (Below w.heap.size w w1) := HB0.out.trans (hb.mono HB0.out.size)
  have K1_1 : Hid (Own w1 w.heap.size (.slice a1 q1 c1) ks) := ho1
  have K2_1 : Hid (Own w1 w.heap.size (.slice a2 q2 c2) hs) := ho2
  have HKS : Hid (ks.length = q1) := hks
  have HHS : Hid (hs.length = q2) := hhs
  clear ho1 ho2 hks hhs
  clear hb HB0
  obtain ⟨t, fb, hF⟩ : ∃ t fb, buildF ks hs s = (t, fb) := ⟨_, _, rfl⟩
  have HF : Hid (buildF ks hs s = (t, fb)) := hF
  have ef1 : (fb != fb) = false := by simp
  have ef2 : (t.toList == t.toList) = true := by simp
  have htz := (buildF_size hF).1
  clear hF
  go_wp2_with fail
  refine (implBuild_c a1 q1 c1 a2 q2 c2 s ks hs _ HKS.out HHS.out (by omega) (by omega) (by omega) K1_1.out.rd'.2 K2_1.out.rd'.2 t fb HF.out).mono ?_
  rintro e w2 ⟨rfl, hb⟩
  have HB2 : Hid (Below w.heap.size w w2) := HB1.out.trans (hb.mono HB1.out.size)
  have K1_2 : Hid (Own w2 w.heap.size (.slice a1 q1 c1) ks) := K1_1.out.later hb
  have K2_2 : Hid (Own w2 w.heap.size (.slice a2 q2 c2) hs) := K2_1.out.later hb
  clear hb HB1 K1_1 K2_1
  go_wp2_with fail
  refine (specBuild_c a1 q1 c1 a2 q2 c2 s ks hs _ HKS.out HHS.out (by omega) (by omega) (by omega) K1_2.out.rd'.2 K2_2.out.rd'.2 t fb HF.out).mono ?_
  rintro e w3 ⟨rfl, hb⟩
  have HB3 : Hid (Below w.heap.size w w3) := HB2.out.trans (hb.mono HB2.out.size)
  have K1_3 : Hid (Own w3 w.heap.size (.slice a1 q1 c1) ks) := K1_2.out.later hb
  have K2_3 : Hid (Own w3 w.heap.size (.slice a2 q2 c2) hs) := K2_2.out.later hb
  clear hb HB2 K1_2 K2_2
  cases fb
  · clear K1_3 K2_3 HF
    go_wp2_with fail
    refine (drawPeel_c bo m d _ hm (HM.out.later HB3.out HB3.out.size)).mono ?_
    rintro e w4 ⟨pk, pt, rfl, hpt, hb⟩
    have HB4 : Hid (Below w.heap.size w w4) := HB3.out.trans (hb.mono HB3.out.size)
    clear hb HB3
    obtain ⟨px, pa, pb, pf, hP⟩ : ∃ px pa pb pf, peelR (peelF pk pt) = (px, pa, pb, pf) := ⟨_, _, _, _, rfl⟩
    have HP : Hid (peelR (peelF pk pt) = (px, pa, pb, pf)) := hP
    have ep1 : (pf == pf) = true := by simp
    clear hP
    go_wp2_with fail
    refine (implPeel_c pk pt _ (by omega) px pa pb pf HP.out).mono ?_
    rintro e w5 ⟨rfl, hb⟩
    have HB5 : Hid (Below w.heap.size w w5) := HB4.out.trans (hb.mono HB4.out.size)
    clear hb HB4
    have HB6 : Hid (Below w.heap.size w (w5.alloc (.cells #[.int .i64 px, .string pa, .string pb] 31))) := Below.alloc HB5.out HB5.out.size _
    have X1_6 : Hid (C3 (w5.alloc (.cells #[.int .i64 px, .string pa, .string pb] 31)) w5.heap.size px pa pb) := c3_new _ _ _ _ _ _ rfl
    obtain ⟨w6, hw6⟩ : ∃ w6, w5.alloc (.cells #[.int .i64 px, .string pa, .string pb] 31) = w6 := ⟨_, rfl⟩
    rw [hw6] at HB6 X1_6
    clear HB5
    go_wp2_with fail
    refine (specPeel_c pk pt _ (by omega) px pa pb pf HP.out).mono ?_
    rintro e w7 ⟨rfl, hb⟩
    have HB7 : Hid (Below w.heap.size w w7) := HB6.out.trans (hb.mono HB6.out.size)
    have X1_7 : Hid (C3 w7 w5.heap.size px pa pb) := X1_6.out.later hb
    clear hb HB6 X1_6
    have HB8 : Hid (Below w.heap.size w (w7.alloc (.cells #[.int .i64 px, .string pa, .string pb] 31))) := Below.alloc HB7.out HB7.out.size _
    have X1_8 : Hid (C3 (w7.alloc (.cells #[.int .i64 px, .string pa, .string pb] 31)) w5.heap.size px pa pb) := X1_7.out.later (balloc _ _)
    have X2_8 : Hid (C3 (w7.alloc (.cells #[.int .i64 px, .string pa, .string pb] 31)) w7.heap.size px pa pb) := c3_new _ _ _ _ _ _ rfl
    obtain ⟨w8, hw8⟩ : ∃ w8, w7.alloc (.cells #[.int .i64 px, .string pa, .string pb] 31) = w8 := ⟨_, rfl⟩
    rw [hw8] at HB8 X2_8 X1_8
    clear HB7 X1_7
    go_wp2_with fail
    refine (drawWalk_c bo m d _ hm (HM.out.later HB8.out HB8.out.size)).mono ?_
    rintro e w9 ⟨a6, q6, c6, ls, wt, rfl, hq6, hls, hwt, ho, hb⟩
    have HB9 : Hid (Below w.heap.size w w9) := HB8.out.trans (hb.mono HB8.out.size)
    have X1_9 : Hid (C3 w9 w5.heap.size px pa pb) := X1_8.out.later hb
    have X2_9 : Hid (C3 w9 w7.heap.size px pa pb) := X2_8.out.later hb
    have hz9 := HB8.out.size
    have K6_9 : Hid (Own w9 w.heap.size (.slice a6 q6 c6) ls) := ho.mono HB8.out.size
    have HLS : Hid (ls.length = q6) := hls
    clear ho hls hz9
    clear hb HB8 X1_8 X2_8
    obtain ⟨zs, zd, zf, hZ⟩ : ∃ zs zd zf, walkF ls wt = (zs, zd, zf) := ⟨_, _, _, rfl⟩
    have HZ : Hid (walkF ls wt = (zs, zd, zf)) := hZ
    obtain ⟨p, hpl⟩ : ∃ p, zs.length = p := ⟨_, rfl⟩
    have HPL : Hid (zs.length = p) := hpl
    have hp4 : p ≤ 4 := by rw [← hpl]; exact walkF_short hZ
    have ez1 : (zf == zf) = true := by simp
    have ez2 : (zd.toList == zd.toList) = true := by simp
    clear hZ hpl
    go_wp2_with fail
    refine (implWalk_p a6 q6 c6 wt ls _ HLS.out (by omega) (by omega) K6_9.out.rd'.2 zs zd zf p HZ.out HPL.out).mono ?_
    rintro e w10 ⟨a7, c7, rfl, ho, hb⟩
    have HB10 : Hid (Below w.heap.size w w10) := HB9.out.trans (hb.mono HB9.out.size)
    have X1_10 : Hid (C3 w10 w5.heap.size px pa pb) := X1_9.out.later hb
    have X2_10 : Hid (C3 w10 w7.heap.size px pa pb) := X2_9.out.later hb
    have K6_10 : Hid (Own w10 w.heap.size (.slice a6 q6 c6) ls) := K6_9.out.later hb
    have K7_10 : Hid (Own w10 w.heap.size (.slice a7 p c7) zs) := ho.mono HB9.out.size
    clear ho
    clear hb HB9 X1_9 X2_9 K6_9
    go_wp2_with fail
    refine (specWalk_p a6 q6 c6 wt ls _ HLS.out (by omega) (by omega) K6_10.out.rd'.2 zs zd zf p HZ.out HPL.out).mono ?_
    rintro e w11 ⟨a8, c8, rfl, ho, hb⟩
    have HB11 : Hid (Below w.heap.size w w11) := HB10.out.trans (hb.mono HB10.out.size)
    have X1_11 : Hid (C3 w11 w5.heap.size px pa pb) := X1_10.out.later hb
    have X2_11 : Hid (C3 w11 w7.heap.size px pa pb) := X2_10.out.later hb
    have K6_11 : Hid (Own w11 w.heap.size (.slice a6 q6 c6) ls) := K6_10.out.later hb
    have K7_11 : Hid (Own w11 w.heap.size (.slice a7 p c7) zs) := K7_10.out.later hb
    have K8_11 : Hid (Own w11 w.heap.size (.slice a8 p c8) zs) := ho.mono HB10.out.size
    clear ho
    clear hb HB10 X1_10 X2_10 K6_10 K7_10
    obtain ⟨x0, x1, x2, _, _, _⟩ := X1_11.out
    obtain ⟨y0, y1, y2, _, _, _⟩ := X2_11.out
    have heq := fun wx => run_eql_peeled px pa pb wx
    have HSI : Hid (Calls Try.prog 18 #[.slice a7 p c7, .slice a8 p c8] w11 fun e w' => e = .returned (.bool true) ∧ ∃ q, w' = w11.drewN q) := sameInts_q a7 a8 p c7 c8 zs w11 HPL.out (by omega) K7_11.out.rd'.2 K8_11.out.rd'.2
    clear K6_11 K7_11 K8_11 X1_11 X2_11
    go_wp2_with fail
    refine HSI.out.mono ?_
    rintro e w' ⟨rfl, q, hw⟩
    have HBE : Hid (Below w.heap.size w w') := by rw [hw]; exact below_drewN HB11.out q
    clear hw HSI
    go_wp2
    go_ret
    exact ⟨ret_bool (by first | rfl | simp), HBE.out⟩
  · obtain ⟨HW, ht24, hlen, _, _, rs, bd, HPR, hrs⟩ := build_walk HF.out
    have hqq : q2 = q1 := by rw [← HKS.out, ← HHS.out]; exact hlen
    subst hqq
    have HWH : Hid (walkF ks t = (hs, s, true)) := HW
    have HPH : Hid (peelR (peelF (ks.getD 0 0) t) = (hs.getD 0 0, rs, bd, true)) := HPR
    have e24 : ((t.size : Int) != 24) = false := by rw [bne_eq_false_iff_eq]; omega
    have ers : ((rs.size : Int) != 24) = false := by rw [bne_eq_false_iff_eq]; omega
    have ess : (s.toList == s.toList) = true := by simp
    clear HW HPR ht24 hrs hlen HF
    go_wp2_with fail
    refine (implWalk_p a1 q2 c1 t ks _ HKS.out (by omega) (by omega) K1_3.out.rd'.2 hs s true q2 HWH.out HHS.out).mono ?_
    rintro e w4 ⟨a3, c3, rfl, ho, hb⟩
    have HB4 : Hid (Below w.heap.size w w4) := HB3.out.trans (hb.mono HB3.out.size)
    have K1_4 : Hid (Own w4 w.heap.size (.slice a1 q2 c1) ks) := K1_3.out.later hb
    have K2_4 : Hid (Own w4 w.heap.size (.slice a2 q2 c2) hs) := K2_3.out.later hb
    have K3_4 : Hid (Own w4 w.heap.size (.slice a3 q2 c3) hs) := ho.mono HB3.out.size
    clear ho
    clear hb HB3 K1_3 K2_3
    obtain ⟨bk, ok, hak, gk⟩ := Rd.get K1_4.out.rd'.2 (k := 0) (by rw [HKS.out]; omega)
    subst hak
    rw [Nat.add_zero] at gk
    have hk00 : (0 : Int) < (q2 : Int) := by omega
    generalize ks.getD 0 0 = key at gk HPH
    generalize hhz : hs.getD 0 0 = hop at HPH
    have HHZ : Hid (hs.getD 0 0 = hop) := hhz
    clear hhz
    go_wp2_with fail
    refine (implPeel_c key t _ (by omega) hop rs bd true HPH.out).mono ?_
    rintro e w5 ⟨rfl, hb⟩
    have HB5 : Hid (Below w.heap.size w w5) := HB4.out.trans (hb.mono HB4.out.size)
    have K1_5 : Hid (Own w5 w.heap.size (.slice (some ⟨bk, ok, none⟩) q2 c1) ks) := K1_4.out.later hb
    have K2_5 : Hid (Own w5 w.heap.size (.slice a2 q2 c2) hs) := K2_4.out.later hb
    have K3_5 : Hid (Own w5 w.heap.size (.slice a3 q2 c3) hs) := K3_4.out.later hb
    clear hb HB4 K1_4 K2_4 K3_4
    have HB6 : Hid (Below w.heap.size w (w5.alloc (.cells #[.int .i64 hop, .string rs, .string bd] 31))) := Below.alloc HB5.out HB5.out.size _
    have K1_6 : Hid (Own (w5.alloc (.cells #[.int .i64 hop, .string rs, .string bd] 31)) w.heap.size (.slice (some ⟨bk, ok, none⟩) q2 c1) ks) := K1_5.out.later (balloc _ _)
    have K2_6 : Hid (Own (w5.alloc (.cells #[.int .i64 hop, .string rs, .string bd] 31)) w.heap.size (.slice a2 q2 c2) hs) := K2_5.out.later (balloc _ _)
    have K3_6 : Hid (Own (w5.alloc (.cells #[.int .i64 hop, .string rs, .string bd] 31)) w.heap.size (.slice a3 q2 c3) hs) := K3_5.out.later (balloc _ _)
    have X0_6 : Hid (C3 (w5.alloc (.cells #[.int .i64 hop, .string rs, .string bd] 31)) w5.heap.size hop rs bd) := c3_new _ _ _ _ _ _ rfl
    obtain ⟨w6, hw6⟩ : ∃ w6, w5.alloc (.cells #[.int .i64 hop, .string rs, .string bd] 31) = w6 := ⟨_, rfl⟩
    rw [hw6] at HB6 X0_6 K1_6 K2_6 K3_6
    clear HB5 K1_5 K2_5 K3_5
    obtain ⟨bh, oh, hah, gh⟩ := Rd.get K2_6.out.rd'.2 (k := 0) (by rw [HHS.out]; omega)
    subst hah
    rw [HHZ.out, Nat.add_zero] at gh
    obtain ⟨x0, x1, x2, _, _, _⟩ := X0_6.out
    have ehh : (hop != hop) = false := by simp
    have HSQ : Hid (∀ q, Calls Try.prog 18 #[.slice a3 q2 c3, .slice (some ⟨bh, oh, none⟩) q2 c2] (w6.drewN q) fun e w' => e = .returned (.bool true) ∧ ∃ m, w' = (w6.drewN q).drewN m) := fun q => sameInts_q a3 _ q2 c3 c2 hs (w6.drewN q) HHS.out (by omega) (K3_6.out.rd'.2.later (below_drewN (Below.refl _ _) q)) (K2_6.out.rd'.2.later (below_drewN (Below.refl _ _) q))
    clear K1_6 K2_6 K3_6 X0_6 gk
    go_wp2
    go_quiet (first | (go_at_call 18; exact Calls.quiet_of (HSQ.out _)))
    have HB7 : Hid (Below w.heap.size w (w6.drewN nq)) := below_drewN HB6.out nq
    obtain ⟨w7, hwq⟩ : ∃ W, w6.drewN nq = W := ⟨_, rfl⟩
    rw [hwq] at HB7 ⊢
    clear hwq HB6 x0 x1 x2 gh HSQ
    go_wp2_with fail
    refine (drawPeel_c bo m d _ hm (HM.out.later HB7.out HB7.out.size)).mono ?_
    rintro e w8 ⟨pk, pt, rfl, hpt, hb⟩
    have HB8 : Hid (Below w.heap.size w w8) := HB7.out.trans (hb.mono HB7.out.size)
    clear hb HB7
    obtain ⟨px, pa, pb, pf, hP⟩ : ∃ px pa pb pf, peelR (peelF pk pt) = (px, pa, pb, pf) := ⟨_, _, _, _, rfl⟩
    have HP : Hid (peelR (peelF pk pt) = (px, pa, pb, pf)) := hP
    have ep1 : (pf == pf) = true := by simp
    clear hP
    go_wp2_with fail
    refine (implPeel_c pk pt _ (by omega) px pa pb pf HP.out).mono ?_
    rintro e w9 ⟨rfl, hb⟩
    have HB9 : Hid (Below w.heap.size w w9) := HB8.out.trans (hb.mono HB8.out.size)
    clear hb HB8
    have HB10 : Hid (Below w.heap.size w (w9.alloc (.cells #[.int .i64 px, .string pa, .string pb] 31))) := Below.alloc HB9.out HB9.out.size _
    have X1_10 : Hid (C3 (w9.alloc (.cells #[.int .i64 px, .string pa, .string pb] 31)) w9.heap.size px pa pb) := c3_new _ _ _ _ _ _ rfl
    obtain ⟨w10, hw10⟩ : ∃ w10, w9.alloc (.cells #[.int .i64 px, .string pa, .string pb] 31) = w10 := ⟨_, rfl⟩
    rw [hw10] at HB10 X1_10
    clear HB9
    go_wp2_with fail
    refine (specPeel_c pk pt _ (by omega) px pa pb pf HP.out).mono ?_
    rintro e w11 ⟨rfl, hb⟩
    have HB11 : Hid (Below w.heap.size w w11) := HB10.out.trans (hb.mono HB10.out.size)
    have X1_11 : Hid (C3 w11 w9.heap.size px pa pb) := X1_10.out.later hb
    clear hb HB10 X1_10
    have HB12 : Hid (Below w.heap.size w (w11.alloc (.cells #[.int .i64 px, .string pa, .string pb] 31))) := Below.alloc HB11.out HB11.out.size _
    have X1_12 : Hid (C3 (w11.alloc (.cells #[.int .i64 px, .string pa, .string pb] 31)) w9.heap.size px pa pb) := X1_11.out.later (balloc _ _)
    have X2_12 : Hid (C3 (w11.alloc (.cells #[.int .i64 px, .string pa, .string pb] 31)) w11.heap.size px pa pb) := c3_new _ _ _ _ _ _ rfl
    obtain ⟨w12, hw12⟩ : ∃ w12, w11.alloc (.cells #[.int .i64 px, .string pa, .string pb] 31) = w12 := ⟨_, rfl⟩
    rw [hw12] at HB12 X2_12 X1_12
    clear HB11 X1_11
    go_wp2_with fail
    refine (drawWalk_c bo m d _ hm (HM.out.later HB12.out HB12.out.size)).mono ?_
    rintro e w13 ⟨a6, q6, c6, ls, wt, rfl, hq6, hls, hwt, ho, hb⟩
    have HB13 : Hid (Below w.heap.size w w13) := HB12.out.trans (hb.mono HB12.out.size)
    have X1_13 : Hid (C3 w13 w9.heap.size px pa pb) := X1_12.out.later hb
    have X2_13 : Hid (C3 w13 w11.heap.size px pa pb) := X2_12.out.later hb
    have hz13 := HB12.out.size
    have K6_13 : Hid (Own w13 w.heap.size (.slice a6 q6 c6) ls) := ho.mono HB12.out.size
    have HLS : Hid (ls.length = q6) := hls
    clear ho hls hz13
    clear hb HB12 X1_12 X2_12
    obtain ⟨zs, zd, zf, hZ⟩ : ∃ zs zd zf, walkF ls wt = (zs, zd, zf) := ⟨_, _, _, rfl⟩
    have HZ : Hid (walkF ls wt = (zs, zd, zf)) := hZ
    obtain ⟨p, hpl⟩ : ∃ p, zs.length = p := ⟨_, rfl⟩
    have HPL : Hid (zs.length = p) := hpl
    have hp4 : p ≤ 4 := by rw [← hpl]; exact walkF_short hZ
    have ez1 : (zf == zf) = true := by simp
    have ez2 : (zd.toList == zd.toList) = true := by simp
    clear hZ hpl
    go_wp2_with fail
    refine (implWalk_p a6 q6 c6 wt ls _ HLS.out (by omega) (by omega) K6_13.out.rd'.2 zs zd zf p HZ.out HPL.out).mono ?_
    rintro e w14 ⟨a7, c7, rfl, ho, hb⟩
    have HB14 : Hid (Below w.heap.size w w14) := HB13.out.trans (hb.mono HB13.out.size)
    have X1_14 : Hid (C3 w14 w9.heap.size px pa pb) := X1_13.out.later hb
    have X2_14 : Hid (C3 w14 w11.heap.size px pa pb) := X2_13.out.later hb
    have K6_14 : Hid (Own w14 w.heap.size (.slice a6 q6 c6) ls) := K6_13.out.later hb
    have K7_14 : Hid (Own w14 w.heap.size (.slice a7 p c7) zs) := ho.mono HB13.out.size
    clear ho
    clear hb HB13 X1_13 X2_13 K6_13
    go_wp2_with fail
    refine (specWalk_p a6 q6 c6 wt ls _ HLS.out (by omega) (by omega) K6_14.out.rd'.2 zs zd zf p HZ.out HPL.out).mono ?_
    rintro e w15 ⟨a8, c8, rfl, ho, hb⟩
    have HB15 : Hid (Below w.heap.size w w15) := HB14.out.trans (hb.mono HB14.out.size)
    have X1_15 : Hid (C3 w15 w9.heap.size px pa pb) := X1_14.out.later hb
    have X2_15 : Hid (C3 w15 w11.heap.size px pa pb) := X2_14.out.later hb
    have K6_15 : Hid (Own w15 w.heap.size (.slice a6 q6 c6) ls) := K6_14.out.later hb
    have K7_15 : Hid (Own w15 w.heap.size (.slice a7 p c7) zs) := K7_14.out.later hb
    have K8_15 : Hid (Own w15 w.heap.size (.slice a8 p c8) zs) := ho.mono HB14.out.size
    clear ho
    clear hb HB14 X1_14 X2_14 K6_14 K7_14
    obtain ⟨x0, x1, x2, _, _, _⟩ := X1_15.out
    obtain ⟨y0, y1, y2, _, _, _⟩ := X2_15.out
    have heq := fun wx => run_eql_peeled px pa pb wx
    have HSI : Hid (Calls Try.prog 18 #[.slice a7 p c7, .slice a8 p c8] w15 fun e w' => e = .returned (.bool true) ∧ ∃ q, w' = w15.drewN q) := sameInts_q a7 a8 p c7 c8 zs w15 HPL.out (by omega) K7_15.out.rd'.2 K8_15.out.rd'.2
    clear K6_15 K7_15 K8_15 X1_15 X2_15
    go_wp2_with fail
    refine HSI.out.mono ?_
    rintro e w' ⟨rfl, q, hw⟩
    have HBE : Hid (Below w.heap.size w w') := by rw [hw]; exact below_drewN HB15.out q
    clear hw HSI
    go_wp2
    go_ret
    exact ⟨ret_bool (by first | rfl | simp), HBE.out⟩

end Go.Proofs.Ytnfoflijapbkdaa
