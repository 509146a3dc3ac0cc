/- FnQuorums, walked: it answers true at every argument and turns nothing that was there. -/
import Derived.Test.YtaokmjbhgkfnfaaRQ13q
import Derived.Test.YtaokmjbhgkfnfaaLawNB13q
import Derived.Test.YtaokmjbhgkfnfaaD13Pq
import Derived.Test.YtaokmjbhgkfnfaaD13Rq
import Derived.Test.YtaokmjbhgkfnfaaCQ13q
import Derived.Test.YtaokmjbhgkfnfaaLawCH13q
import Derived.Test.YtaokmjbhgkfnfaaSC13q
import Derived.Test.YtaokmjbhgkfnfaaM13q
namespace Go.Proofs.Ytaokmjbhgkfnfaa
set_option linter.unusedVariables false
set_option maxRecDepth 1000000
set_option linter.unusedSimpArgs false
open Go.RowKit

theorem stepV_fine (b : BdV) (k m l : Int) : stepB b k m l = true → goodBd (stepV b k m l) = true := fun h => by
 unfold stepB at h
 rw [Bool.and_eq_true] at h
 obtain ⟨c, hc⟩ := Option.isSome_iff_exists.1 h.2
 unfold stepV
 rw [if_pos h.1, hc]
 exact step_good h.1 hc
theorem quo_fine (f : Int) : 0 ≤ (quoF f).1 ∧ (quoF f).1 ≤ 7 ∧ 0 ≤ (quoF f).2 ∧ (quoF f).2 ≤ 5 ∧ (inB f 0 2 = true → f < 2 * (quoF f).2 - (quoF f).1) := by
 unfold quoF
 split
 ·rename_i h
  have h2 := inB_iff.1 h
  exact ⟨by show 0 ≤ 3 * f + 1; omega, by show 3 * f + 1 ≤ 7; omega, by show 0 ≤ 2 * f + 1; omega, by show 2 * f + 1 ≤ 5; omega, fun _ => by show f < 2 * (2 * f + 1) - (3 * f + 1); omega⟩
 ·rename_i h
  exact ⟨by decide, by decide, by decide, by decide, fun h2 => absurd h2 h⟩

theorem quo_both (f : Int) : ∃ (q1 q2 : Int) (ib : Bool), 0 ≤ q1 ∧ q1 ≤ 7 ∧ 0 ≤ q2 ∧ q2 ≤ 5 ∧ (ib = true → f < 2 * q2 - q1) ∧ (∀ wx, Calls Try.prog 30 #[.int .i64 f] wx fun e w' => e = .returned (.tuple #[.int .i64 q1, .int .i64 q2, .bool ib]) ∧ Below wx.heap.size wx w') ∧ ∀ wx, Calls Try.prog 31 #[.int .i64 f] wx fun e w' => e = .returned (.tuple #[.int .i64 q1, .int .i64 q2, .bool ib]) ∧ w' = wx := by
 obtain ⟨h1, h2, h3, h4, h5⟩ := quo_fine f
 exact ⟨(quoF f).1, (quoF f).2, inB f 0 2, h1, h2, h3, h4, h5, fun wx => implQuo_c f wx, fun wx => specQuo_c f wx⟩

set_option maxHeartbeats 16000000 in
theorem lawFnQuorums_c (ao : Option Addr) (n c : Nat) (bo : Option Addr) (m d : Nat) (w : World) (hn : n ≤ 9223372036854775807) (hm : m ≤ 9223372036854775807) (h1 : CodeOk w w.heap.size ao n) (h2 : CodeOk w w.heap.size bo m) :
  Calls Try.prog 4 #[.slice ao n c, .slice bo m d] w fun e w' => e = .returned (.bool true) ∧ Below w.heap.size w w' := by
 by_cases hl : 1048576 < wrap64 ((n : Int) + (m : Int))
 ·clear h1 h2
  go_enter Try.func4, Try.ntmps4
  go_wp2
  go_ret
  exact ⟨rfl, Below.refl _ _⟩
 have HN : Hid (CodeOk w w.heap.size ao n) := h1
 have HM : Hid (CodeOk w w.heap.size bo m) := h2
 clear h1 h2
 have HB_0 : Hid (Below w.heap.size w w) := Below.refl _ _
 go_enter Try.func4, Try.ntmps4
 go_wp2_with fail
 refine (drawSp_c ao n c _ hn HN.out).mono ?_
 rintro e w1 ⟨bf, be, sa1, bs, sc1, la1, bl, lc1, ta1, bt, tc1, bg, bi, bj, kk, mm, ll, rfl, hsm, ho, hb⟩
 have hB : Below w.heap.size w w1 := hb
 have HB_1 : Hid (Below w.heap.size w w1) := HB_0.out.trans (hB.mono HB_0.out.size)
 have z1 : w.heap.size ≤ w1.heap.size := hB.size
 have Rb_1 : Hid (ReadB w1 sa1 bs sc1 la1 bl lc1 ta1 bt tc1 ⟨bf, be, bg, bi, bj⟩) := ho.read
 clear hb hB HB_0
 have HSMb : Hid (SmallBd ⟨bf, be, bg, bi, bj⟩) := hsm
 have HLb : Hid (bg.length = bs ∧ bi.length = bl ∧ bj.length = bt) := ⟨Rb_1.out.rd.sl, Rb_1.out.rd.ll, Rb_1.out.rd.tl⟩
 have hb1 : bs ≤ 1048576 := by rw [← HLb.out.1]; exact HSMb.out.s
 have hb2 : bl ≤ 1048576 := by rw [← HLb.out.2.1]; exact HSMb.out.l
 have hb3 : bt ≤ 1048576 := by rw [← HLb.out.2.2]; exact HSMb.out.t
 clear ho hsm
 have b1 := balloc w1 (.cells #[.int .i64 bf, .int .i64 be, .slice sa1 bs sc1, .slice la1 bl lc1, .slice ta1 bt tc1] 29)
 have b2 := balloc (w1.alloc (.cells #[.int .i64 bf, .int .i64 be, .slice sa1 bs sc1, .slice la1 bl lc1, .slice ta1 bt tc1] 29)) (.cells #[.int .i64 kk, .int .i64 mm, .int .i64 ll] 40)
 have hHB : Below w.heap.size w ((w1.alloc (.cells #[.int .i64 bf, .int .i64 be, .slice sa1 bs sc1, .slice la1 bl lc1, .slice ta1 bt tc1] 29)).alloc (.cells #[.int .i64 kk, .int .i64 mm, .int .i64 ll] 40)) := HB_1.out.trans ((b1.trans (b2.mono b1.size)).mono HB_1.out.size)
 have hRb := (Rb_1.out.later b1).later b2
 have hXb := (x5_new w1 (.int .i64 bf) (.int .i64 be) (.slice sa1 bs sc1) (.slice la1 bl lc1) (.slice ta1 bt tc1) 29 w1.heap.size rfl).later b2
 have hXS := x3_new (w1.alloc (.cells #[.int .i64 bf, .int .i64 be, .slice sa1 bs sc1, .slice la1 bl lc1, .slice ta1 bt tc1] 29)) (.int .i64 kk) (.int .i64 mm) (.int .i64 ll) 40 (w1.heap.size + 1) (by simp)
 have hz : ((w1.alloc (.cells #[.int .i64 bf, .int .i64 be, .slice sa1 bs sc1, .slice la1 bl lc1, .slice ta1 bt tc1] 29)).alloc (.cells #[.int .i64 kk, .int .i64 mm, .int .i64 ll] 40)).heap.size = w1.heap.size + 2 := by simp
 obtain ⟨w2, hV2⟩ : ∃ V, ((w1.alloc (.cells #[.int .i64 bf, .int .i64 be, .slice sa1 bs sc1, .slice la1 bl lc1, .slice ta1 bt tc1] 29)).alloc (.cells #[.int .i64 kk, .int .i64 mm, .int .i64 ll] 40)) = V := ⟨_, rfl⟩
 rw [hV2] at hHB hRb hXb hXS hz
 have HB_2 : Hid (Below w.heap.size w w2) := hHB
 have Rb_2 : Hid (ReadB w2 sa1 bs sc1 la1 bl lc1 ta1 bt tc1 ⟨bf, be, bg, bi, bj⟩) := hRb
 have Xb_2 : Hid (X5 w2 w1.heap.size (.int .i64 bf) (.int .i64 be) (.slice sa1 bs sc1) (.slice la1 bl lc1) (.slice ta1 bt tc1)) := hXb
 have XS_2 : Hid (X3 w2 (w1.heap.size + 1) (.int .i64 kk) (.int .i64 mm) (.int .i64 ll)) := hXS
 have z2 : w1.heap.size + 2 ≤ w2.heap.size := by omega
 clear b1 b2 HB_1 Rb_1 hHB hRb hXb hXS hz
 have hsv := stepV_small ⟨bf, be, bg, bi, bj⟩ kk mm ll
 have hgv := stepV_fine ⟨bf, be, bg, bi, bj⟩ kk mm ll
 obtain ⟨⟨nf, ne, ng, ni, nj⟩, hnb⟩ : ∃ x, stepV ⟨bf, be, bg, bi, bj⟩ kk mm ll = x := ⟨_, rfl⟩
 obtain ⟨fb, hF⟩ : ∃ x, stepB ⟨bf, be, bg, bi, bj⟩ kk mm ll = x := ⟨_, rfl⟩
 rw [hnb] at hsv
 rw [hnb, hF] at hgv
 obtain ⟨ns, hn3⟩ : ∃ k, ng.length = k := ⟨_, rfl⟩
 obtain ⟨nl, hn4⟩ : ∃ k, ni.length = k := ⟨_, rfl⟩
 obtain ⟨nt, hn5⟩ : ∃ k, nj.length = k := ⟨_, rfl⟩
 have HQI : Hid (∀ wx, ReadB wx sa1 bs sc1 la1 bl lc1 ta1 bt tc1 ⟨bf, be, bg, bi, bj⟩ → Calls Try.prog 20 #[.agg #[.int .i64 bf, .int .i64 be, .slice sa1 bs sc1, .slice la1 bl lc1, .slice ta1 bt tc1], .agg #[.int .i64 kk, .int .i64 mm, .int .i64 ll]] wx fun r w' => ∃ sa' sc' la' lc' ta' tc', r = .returned (.tuple #[.agg #[.int .i64 nf, .int .i64 ne, .slice sa' ns sc', .slice la' nl lc', .slice ta' nt tc'], .bool fb]) ∧ OwnBd w' wx.heap.size w'.heap.size (.slice sa' ns sc') (.slice la' nl lc') (.slice ta' nt tc') ⟨nf, ne, ng, ni, nj⟩ ∧ Below wx.heap.size wx w') := fun wx h => by
  have := implStep_c bf be sa1 bs sc1 la1 bl lc1 ta1 bt tc1 bg bi bj kk mm ll wx h.rd h.nn hb1 hb2 hb3
  unfold BdOk at this
  rw [hnb, hF] at this
  dsimp only at this
  rw [hn3, hn4, hn5] at this
  exact this
 have HQS : Hid (∀ wx, ReadB wx sa1 bs sc1 la1 bl lc1 ta1 bt tc1 ⟨bf, be, bg, bi, bj⟩ → Calls Try.prog 21 #[.agg #[.int .i64 bf, .int .i64 be, .slice sa1 bs sc1, .slice la1 bl lc1, .slice ta1 bt tc1], .agg #[.int .i64 kk, .int .i64 mm, .int .i64 ll]] wx fun r w' => ∃ sa' sc' la' lc' ta' tc', r = .returned (.tuple #[.agg #[.int .i64 nf, .int .i64 ne, .slice sa' ns sc', .slice la' nl lc', .slice ta' nt tc'], .bool fb]) ∧ OwnBd w' wx.heap.size w'.heap.size (.slice sa' ns sc') (.slice la' nl lc') (.slice ta' nt tc') ⟨nf, ne, ng, ni, nj⟩ ∧ Below wx.heap.size wx w') := fun wx h => by
  have := specStep_c bf be sa1 bs sc1 la1 bl lc1 ta1 bt tc1 bg bi bj kk mm ll wx h hb1 hb2 hb3
  unfold BdOk at this
  rw [hnb, hF] at this
  dsimp only at this
  rw [hn3, hn4, hn5] at this
  exact this
 have HSMn : Hid (SmallBd ⟨nf, ne, ng, ni, nj⟩) := hsv
 have HGn : Hid (fb = true → goodBd ⟨nf, ne, ng, ni, nj⟩ = true) := hgv
 obtain ⟨gb, hgb⟩ : ∃ x, goodBd ⟨bf, be, bg, bi, bj⟩ = x := ⟨_, rfl⟩
 have HLn : Hid (ng.length = ns ∧ ni.length = nl ∧ nj.length = nt) := ⟨hn3, hn4, hn5⟩
 have hn1 : ns ≤ 1048576 := by rw [← hn3]; exact hsv.s
 have hn2 : nl ≤ 1048576 := by rw [← hn4]; exact hsv.l
 have hn9 : nt ≤ 1048576 := by rw [← hn5]; exact hsv.t
 have HGI : Hid (∀ wx, ReadB wx sa1 bs sc1 la1 bl lc1 ta1 bt tc1 ⟨bf, be, bg, bi, bj⟩ → Calls Try.prog 17 #[.agg #[.int .i64 bf, .int .i64 be, .slice sa1 bs sc1, .slice la1 bl lc1, .slice ta1 bt tc1]] wx fun r w' => r = .returned (.bool gb) ∧ Below wx.heap.size wx w') := fun wx h => by have := implGood_c bf be sa1 bs sc1 la1 bl lc1 ta1 bt tc1 bg bi bj wx h.rd.sl hb1 h.rd.ll hb2 h.rd.tl hb3 h.rd.s h.rd.l h.rd.t; rw [hgb] at this; exact this
 have HGS : Hid (∀ wx, ReadB wx sa1 bs sc1 la1 bl lc1 ta1 bt tc1 ⟨bf, be, bg, bi, bj⟩ → Calls Try.prog 22 #[.agg #[.int .i64 bf, .int .i64 be, .slice sa1 bs sc1, .slice la1 bl lc1, .slice ta1 bt tc1]] wx fun r w' => r = .returned (.bool gb) ∧ Below wx.heap.size wx w') := fun wx h => by have := specGood_c bf be sa1 bs sc1 la1 bl lc1 ta1 bt tc1 bg bi bj wx h.rd.cp h.rd.sl hb1 h.rd.ll hb2 h.rd.tl hb3 h.rd.s h.rd.l h.rd.t; rw [hgb] at this; exact this
 have hfb : (fb != fb) = false := by simp
 have hgg : (gb != gb) = false := by simp
 clear hsv hgv hnb hF hn3 hn4 hn5 hgb
 obtain ⟨⟨Xbq0, Xbq1, Xbq2, Xbq3, Xbq4⟩, Xbf⟩ := id (Xb_2.out)
 clear Xbf
 obtain ⟨⟨XSq0, XSq1, XSq2⟩, XSf⟩ := id (XS_2.out)
 clear XSf
 go_wp2_with fail
 clear hV2
 refine (HQI.out _ Rb_2.out).mono ?_
 clear Xbq0 Xbq1 Xbq2 Xbq3 Xbq4
 clear XSq0 XSq1 XSq2
 rintro e w3 ⟨sa2, sc2, la2, lc2, ta2, tc2, rfl, ho, hb⟩
 have hB : Below w2.heap.size w2 w3 := hb
 have HB_3 : Hid (Below w.heap.size w w3) := HB_2.out.trans (hB.mono HB_2.out.size)
 have Rb_3 : Hid (ReadB w3 sa1 bs sc1 la1 bl lc1 ta1 bt tc1 ⟨bf, be, bg, bi, bj⟩) := Rb_2.out.later hB
 have Xb_3 : Hid (X5 w3 w1.heap.size (.int .i64 bf) (.int .i64 be) (.slice sa1 bs sc1) (.slice la1 bl lc1) (.slice ta1 bt tc1)) := Xb_2.out.later hB
 have XS_3 : Hid (X3 w3 (w1.heap.size + 1) (.int .i64 kk) (.int .i64 mm) (.int .i64 ll)) := XS_2.out.later hB
 have z3 : w2.heap.size ≤ w3.heap.size := hB.size
 have Rx_3 : Hid (ReadB w3 sa2 ns sc2 la2 nl lc2 ta2 nt tc2 ⟨nf, ne, ng, ni, nj⟩) := ho.read
 clear hb hB HB_2 Rb_2 Xb_2 XS_2
 clear ho
 have hHB := HB_3.out.alloc HB_3.out.size (.cells #[.int .i64 nf, .int .i64 ne, .slice sa2 ns sc2, .slice la2 nl lc2, .slice ta2 nt tc2] 29)
 have hRb := Rb_3.out.later (balloc w3 (.cells #[.int .i64 nf, .int .i64 ne, .slice sa2 ns sc2, .slice la2 nl lc2, .slice ta2 nt tc2] 29))
 have hXb := Xb_3.out.later (balloc w3 (.cells #[.int .i64 nf, .int .i64 ne, .slice sa2 ns sc2, .slice la2 nl lc2, .slice ta2 nt tc2] 29))
 have hXS := XS_3.out.later (balloc w3 (.cells #[.int .i64 nf, .int .i64 ne, .slice sa2 ns sc2, .slice la2 nl lc2, .slice ta2 nt tc2] 29))
 have hRx := Rx_3.out.later (balloc w3 (.cells #[.int .i64 nf, .int .i64 ne, .slice sa2 ns sc2, .slice la2 nl lc2, .slice ta2 nt tc2] 29))
 have hXx := x5_new w3 (.int .i64 nf) (.int .i64 ne) (.slice sa2 ns sc2) (.slice la2 nl lc2) (.slice ta2 nt tc2) 29 w3.heap.size rfl
 have hz : (w3.alloc (.cells #[.int .i64 nf, .int .i64 ne, .slice sa2 ns sc2, .slice la2 nl lc2, .slice ta2 nt tc2] 29)).heap.size = w3.heap.size + 1 := by simp
 obtain ⟨w4, hV4⟩ : ∃ V, w3.alloc (.cells #[.int .i64 nf, .int .i64 ne, .slice sa2 ns sc2, .slice la2 nl lc2, .slice ta2 nt tc2] 29) = V := ⟨_, rfl⟩
 rw [hV4] at hHB hRb hXb hXS hRx hXx hz
 have HB_4 : Hid (Below w.heap.size w w4) := hHB
 have Rb_4 : Hid (ReadB w4 sa1 bs sc1 la1 bl lc1 ta1 bt tc1 ⟨bf, be, bg, bi, bj⟩) := hRb
 have Xb_4 : Hid (X5 w4 w1.heap.size (.int .i64 bf) (.int .i64 be) (.slice sa1 bs sc1) (.slice la1 bl lc1) (.slice ta1 bt tc1)) := hXb
 have XS_4 : Hid (X3 w4 (w1.heap.size + 1) (.int .i64 kk) (.int .i64 mm) (.int .i64 ll)) := hXS
 have Rx_4 : Hid (ReadB w4 sa2 ns sc2 la2 nl lc2 ta2 nt tc2 ⟨nf, ne, ng, ni, nj⟩) := hRx
 have Xx_4 : Hid (X5 w4 w3.heap.size (.int .i64 nf) (.int .i64 ne) (.slice sa2 ns sc2) (.slice la2 nl lc2) (.slice ta2 nt tc2)) := hXx
 have z4 : w3.heap.size + 1 ≤ w4.heap.size := by omega
 clear HB_3 Rb_3 Xb_3 XS_3 Rx_3 hHB hRb hXb hXS hRx hXx hz
 obtain ⟨⟨Xbq0, Xbq1, Xbq2, Xbq3, Xbq4⟩, Xbf⟩ := id (Xb_4.out)
 clear Xbf
 obtain ⟨⟨XSq0, XSq1, XSq2⟩, XSf⟩ := id (XS_4.out)
 clear XSf
 go_wp2_with fail
 clear hV4
 refine (HQS.out _ Rb_4.out).mono ?_
 clear Xbq0 Xbq1 Xbq2 Xbq3 Xbq4
 clear XSq0 XSq1 XSq2
 rintro e w5 ⟨sa3, sc3, la3, lc3, ta3, tc3, rfl, ho, hb⟩
 have hB : Below w4.heap.size w4 w5 := hb
 have HB_5 : Hid (Below w.heap.size w w5) := HB_4.out.trans (hB.mono HB_4.out.size)
 have Rb_5 : Hid (ReadB w5 sa1 bs sc1 la1 bl lc1 ta1 bt tc1 ⟨bf, be, bg, bi, bj⟩) := Rb_4.out.later hB
 have Xb_5 : Hid (X5 w5 w1.heap.size (.int .i64 bf) (.int .i64 be) (.slice sa1 bs sc1) (.slice la1 bl lc1) (.slice ta1 bt tc1)) := Xb_4.out.later hB
 have XS_5 : Hid (X3 w5 (w1.heap.size + 1) (.int .i64 kk) (.int .i64 mm) (.int .i64 ll)) := XS_4.out.later hB
 have Rx_5 : Hid (ReadB w5 sa2 ns sc2 la2 nl lc2 ta2 nt tc2 ⟨nf, ne, ng, ni, nj⟩) := Rx_4.out.later hB
 have Xx_5 : Hid (X5 w5 w3.heap.size (.int .i64 nf) (.int .i64 ne) (.slice sa2 ns sc2) (.slice la2 nl lc2) (.slice ta2 nt tc2)) := Xx_4.out.later hB
 have z5 : w4.heap.size ≤ w5.heap.size := hB.size
 have Ry_5 : Hid (ReadB w5 sa3 ns sc3 la3 nl lc3 ta3 nt tc3 ⟨nf, ne, ng, ni, nj⟩) := ho.read
 clear hb hB HB_4 Rb_4 Xb_4 XS_4 Rx_4 Xx_4
 clear ho
 have hHB := HB_5.out.alloc HB_5.out.size (.cells #[.int .i64 nf, .int .i64 ne, .slice sa3 ns sc3, .slice la3 nl lc3, .slice ta3 nt tc3] 29)
 have hRb := Rb_5.out.later (balloc w5 (.cells #[.int .i64 nf, .int .i64 ne, .slice sa3 ns sc3, .slice la3 nl lc3, .slice ta3 nt tc3] 29))
 have hXb := Xb_5.out.later (balloc w5 (.cells #[.int .i64 nf, .int .i64 ne, .slice sa3 ns sc3, .slice la3 nl lc3, .slice ta3 nt tc3] 29))
 have hXS := XS_5.out.later (balloc w5 (.cells #[.int .i64 nf, .int .i64 ne, .slice sa3 ns sc3, .slice la3 nl lc3, .slice ta3 nt tc3] 29))
 have hRx := Rx_5.out.later (balloc w5 (.cells #[.int .i64 nf, .int .i64 ne, .slice sa3 ns sc3, .slice la3 nl lc3, .slice ta3 nt tc3] 29))
 have hXx := Xx_5.out.later (balloc w5 (.cells #[.int .i64 nf, .int .i64 ne, .slice sa3 ns sc3, .slice la3 nl lc3, .slice ta3 nt tc3] 29))
 have hRy := Ry_5.out.later (balloc w5 (.cells #[.int .i64 nf, .int .i64 ne, .slice sa3 ns sc3, .slice la3 nl lc3, .slice ta3 nt tc3] 29))
 have hXy := x5_new w5 (.int .i64 nf) (.int .i64 ne) (.slice sa3 ns sc3) (.slice la3 nl lc3) (.slice ta3 nt tc3) 29 w5.heap.size rfl
 have hz : (w5.alloc (.cells #[.int .i64 nf, .int .i64 ne, .slice sa3 ns sc3, .slice la3 nl lc3, .slice ta3 nt tc3] 29)).heap.size = w5.heap.size + 1 := by simp
 obtain ⟨w6, hV6⟩ : ∃ V, w5.alloc (.cells #[.int .i64 nf, .int .i64 ne, .slice sa3 ns sc3, .slice la3 nl lc3, .slice ta3 nt tc3] 29) = V := ⟨_, rfl⟩
 rw [hV6] at hHB hRb hXb hXS hRx hXx hRy hXy hz
 have HB_6 : Hid (Below w.heap.size w w6) := hHB
 have Rb_6 : Hid (ReadB w6 sa1 bs sc1 la1 bl lc1 ta1 bt tc1 ⟨bf, be, bg, bi, bj⟩) := hRb
 have Xb_6 : Hid (X5 w6 w1.heap.size (.int .i64 bf) (.int .i64 be) (.slice sa1 bs sc1) (.slice la1 bl lc1) (.slice ta1 bt tc1)) := hXb
 have XS_6 : Hid (X3 w6 (w1.heap.size + 1) (.int .i64 kk) (.int .i64 mm) (.int .i64 ll)) := hXS
 have Rx_6 : Hid (ReadB w6 sa2 ns sc2 la2 nl lc2 ta2 nt tc2 ⟨nf, ne, ng, ni, nj⟩) := hRx
 have Xx_6 : Hid (X5 w6 w3.heap.size (.int .i64 nf) (.int .i64 ne) (.slice sa2 ns sc2) (.slice la2 nl lc2) (.slice ta2 nt tc2)) := hXx
 have Ry_6 : Hid (ReadB w6 sa3 ns sc3 la3 nl lc3 ta3 nt tc3 ⟨nf, ne, ng, ni, nj⟩) := hRy
 have Xy_6 : Hid (X5 w6 w5.heap.size (.int .i64 nf) (.int .i64 ne) (.slice sa3 ns sc3) (.slice la3 nl lc3) (.slice ta3 nt tc3)) := hXy
 have z6 : w5.heap.size + 1 ≤ w6.heap.size := by omega
 clear HB_5 Rb_5 Xb_5 XS_5 Rx_5 Xx_5 Ry_5 hHB hRb hXb hXS hRx hXx hRy hXy hz
 clear XS_6
 obtain ⟨⟨Xbq0, Xbq1, Xbq2, Xbq3, Xbq4⟩, Xbf⟩ := id (Xb_6.out)
 clear Xbf
 obtain ⟨⟨Xxq0, Xxq1, Xxq2, Xxq3, Xxq4⟩, Xxf⟩ := id (Xx_6.out)
 clear Xxf
 obtain ⟨⟨Xyq0, Xyq1, Xyq2, Xyq3, Xyq4⟩, Xyf⟩ := id (Xy_6.out)
 clear Xyf
 go_upto_region 6 with fail
 clear hV6
 clear Xbq0 Xbq1 Xbq2 Xbq3 Xbq4
 clear Xxq0 Xxq1 Xxq2 Xxq3 Xxq4
 clear Xyq0 Xyq1 Xyq2 Xyq3 Xyq4
 refine wp_mono (fqReg6_w _ _ _ _ _ _ _ _ _ _ _ _ _ _ _ _ _ _ _ _ _ _ _ _ _ _ _ _ _ _ _ _ _ _ _ _ _ _ _ _ _ _ _ _ _ _ _ _ _ _ _ _ _ _ _ _ _ _ _ _ _ _ _ _ _ _ _ _ _ _ _ _ _ _ _ _ _ _ _ _ _ _ _ _ _ _ _ _ _ _ _ _ _ _ _ _ _ _ _ _ _ _ _ _ _ _ _ _ _ _ _ _ _ _ _ _ _ _ _ _ _ _ _ _ _ _ _ _ _ _ _ _ _ _ _ _ _ _ _ _ _ _ _ _ _ _ _ _ _ _ _ _ _ _ _ _ _ _ _ _ _ _ _ _ _ _ _ _ _ _ _ _ _ _ _ _ _ _ _ _ _ _ _ _ _ _ _ _ _ _ _ _ _ _ _ _ _ _ _ _ _ _ _ _ _ _ _ _ _ _ _ _ _ _ _ _ _ _ _ _ _ _ _ _ _ _ _ _ _ _ _ _ w1.heap.size w3.heap.size w5.heap.size bf be sa1 bs sc1 la1 bl lc1 ta1 bt tc1 nf ne sa2 ns sc2 la2 nl lc2 ta2 nt tc2 sa3 sc3 la3 lc3 ta3 tc3 gb fb _ w6 Xb_6.out Xx_6.out Xy_6.out (fun wx h => sameBoard_c nf ne sa2 ns sc2 la2 nl lc2 ta2 nt tc2 sa3 sc3 la3 lc3 ta3 tc3 ⟨nf, ne, ng, ni, nj⟩ wx HSMn.out (Rx_6.out.later h).rd (Ry_6.out.later h).rd) (fun wx h => HGI.out wx (Rb_6.out.later h)) (fun wx h => HGS.out wx (Rb_6.out.later h)) (fun hft wx h => by have h9 := Rx_6.out.later h; have := implGood_c nf ne sa2 ns sc2 la2 nl lc2 ta2 nt tc2 ng ni nj wx h9.rd.sl hn1 h9.rd.ll hn2 h9.rd.tl hn9 h9.rd.s h9.rd.l h9.rd.t; rw [HGn.out hft] at this; exact this) (fun v63 v64 v65 v66 v67 v68 v69 v70 v71 v72 v73 v74 v75 v76 v77 v78 v79 v80 v81 v82 v83 v84 v85 w7 hbb => ?_)) (fun e a w h => by cases e <;> first | exact h | exact h.elim)
 have HB_7 : Hid (Below w.heap.size w w7) := HB_6.out.trans (hbb.mono HB_6.out.size)
 have z7 : w6.heap.size ≤ w7.heap.size := hbb.size
 clear hbb HGn HGI HGS HB_6 Rb_6 Xb_6 Rx_6 Xx_6 Ry_6 Xy_6
 go_wp2_with fail
 refine (drawCo_c bo m d _ hm (HM.out.later HB_7.out HB_7.out.size)).mono ?_
 rintro e w8 ⟨cf, ce, sa4, cs, sc4, la4, cl, lc4, ta4, ct, tc4, cg, ci, cj, ep, px, py, rfl, hsm, ho, hb⟩
 have hB : Below w7.heap.size w7 w8 := hb
 have HB_8 : Hid (Below w.heap.size w w8) := HB_7.out.trans (hB.mono HB_7.out.size)
 have z8 : w7.heap.size ≤ w8.heap.size := hB.size
 have Rc_8 : Hid (ReadB w8 sa4 cs sc4 la4 cl lc4 ta4 ct tc4 ⟨cf, ce, cg, ci, cj⟩) := ho.read
 clear hb hB HB_7
 have HSMc : Hid (SmallBd ⟨cf, ce, cg, ci, cj⟩) := hsm
 have HLc : Hid (cg.length = cs ∧ ci.length = cl ∧ cj.length = ct) := ⟨Rc_8.out.rd.sl, Rc_8.out.rd.ll, Rc_8.out.rd.tl⟩
 have hc1 : cs ≤ 1048576 := by rw [← HLc.out.1]; exact HSMc.out.s
 have hc2 : cl ≤ 1048576 := by rw [← HLc.out.2.1]; exact HSMc.out.l
 have hc3 : ct ≤ 1048576 := by rw [← HLc.out.2.2]; exact HSMc.out.t
 clear ho hsm
 have hHB := HB_8.out.alloc HB_8.out.size (.cells #[.int .i64 cf, .int .i64 ce, .slice sa4 cs sc4, .slice la4 cl lc4, .slice ta4 ct tc4] 29)
 have hRc := Rc_8.out.later (balloc w8 (.cells #[.int .i64 cf, .int .i64 ce, .slice sa4 cs sc4, .slice la4 cl lc4, .slice ta4 ct tc4] 29))
 have hXc := x5_new w8 (.int .i64 cf) (.int .i64 ce) (.slice sa4 cs sc4) (.slice la4 cl lc4) (.slice ta4 ct tc4) 29 w8.heap.size rfl
 have hz : (w8.alloc (.cells #[.int .i64 cf, .int .i64 ce, .slice sa4 cs sc4, .slice la4 cl lc4, .slice ta4 ct tc4] 29)).heap.size = w8.heap.size + 1 := by simp
 obtain ⟨w9, hV9⟩ : ∃ V, w8.alloc (.cells #[.int .i64 cf, .int .i64 ce, .slice sa4 cs sc4, .slice la4 cl lc4, .slice ta4 ct tc4] 29) = V := ⟨_, rfl⟩
 rw [hV9] at hHB hRc hXc hz
 have HB_9 : Hid (Below w.heap.size w w9) := hHB
 have Rc_9 : Hid (ReadB w9 sa4 cs sc4 la4 cl lc4 ta4 ct tc4 ⟨cf, ce, cg, ci, cj⟩) := hRc
 have Xc_9 : Hid (X5 w9 w8.heap.size (.int .i64 cf) (.int .i64 ce) (.slice sa4 cs sc4) (.slice la4 cl lc4) (.slice ta4 ct tc4)) := hXc
 have z9 : w8.heap.size + 1 ≤ w9.heap.size := by omega
 clear HB_8 Rc_8 hHB hRc hXc hz
 obtain ⟨Lc, hLLc⟩ : ∃ x, comV ⟨cf, ce, cg, ci, cj⟩ ep px py = x := ⟨_, rfl⟩
 obtain ⟨cb, hBLc⟩ : ∃ x, comB ⟨cf, ce, cg, ci, cj⟩ ep px py = x := ⟨_, rfl⟩
 obtain ⟨qc, hqLc⟩ : ∃ x, Lc.length = x := ⟨_, rfl⟩
 obtain ⟨Lt, hLLt⟩ : ∃ x, certV ⟨cf, ce, cg, ci, cj⟩ ep = x := ⟨_, rfl⟩
 obtain ⟨tb, hBLt⟩ : ∃ x, certB ⟨cf, ce, cg, ci, cj⟩ ep = x := ⟨_, rfl⟩
 obtain ⟨qt, hqLt⟩ : ∃ x, Lt.length = x := ⟨_, rfl⟩
 have hqc10 : qc ≤ 1000 := by rw [← hqLc, ← hLLc]; exact Nat.le_trans (comV_len _ _ _ _) (by omega)
 have hqt1 : qt ≤ 1 := by rw [← hqLt, ← hLLt]; exact certV_one _
 have HPQ : Hid (px = py ∨ qc = 0) := by
  by_cases hpq : px = py
  ·exact Or.inl hpq
  ·right; rw [← hqLc, ← hLLc, comV_none hpq]; rfl
 have HCI : Hid (∀ wx, ReadB wx sa4 cs sc4 la4 cl lc4 ta4 ct tc4 ⟨cf, ce, cg, ci, cj⟩ → Calls Try.prog 24 #[.agg #[.int .i64 cf, .int .i64 ce, .slice sa4 cs sc4, .slice la4 cl lc4, .slice ta4 ct tc4], .int .i64 ep, .int .i64 px, .int .i64 py] wx fun r w' => ∃ a' c', r = .returned (.tuple #[.slice a' qc c', .bool cb]) ∧ Own w' wx.heap.size (.slice a' qc c') Lc ∧ Below wx.heap.size wx w') := fun wx h => by
  refine (implCom_c cf ce sa4 cs sc4 la4 cl lc4 ta4 ct tc4 cg ci cj ep px py wx h.rd.sl hc1 h.rd.ll hc2 h.rd.tl hc3 h.rd.s h.rd.l h.rd.t).mono ?_
  rintro r w' ⟨a', n', c', rfl, ho, hb⟩
  obtain rfl : n' = qc := by rw [← hqLc, ← hLLc]; exact ho.rd'.1.symm
  rw [hLLc] at ho
  rw [hBLc]
  exact ⟨a', c', rfl, ho, hb⟩
 have HCS : Hid (∀ wx, ReadB wx sa4 cs sc4 la4 cl lc4 ta4 ct tc4 ⟨cf, ce, cg, ci, cj⟩ → Calls Try.prog 25 #[.agg #[.int .i64 cf, .int .i64 ce, .slice sa4 cs sc4, .slice la4 cl lc4, .slice ta4 ct tc4], .int .i64 ep, .int .i64 px, .int .i64 py] wx fun r w' => ∃ a' c', r = .returned (.tuple #[.slice a' qc c', .bool cb]) ∧ Own w' wx.heap.size (.slice a' qc c') Lc ∧ Below wx.heap.size wx w') := fun wx h => by
  refine (specCom_c cf ce sa4 cs sc4 la4 cl lc4 ta4 ct tc4 cg ci cj ep px py wx h.rd.cp h.rd.sl hc1 h.rd.ll hc2 h.rd.tl hc3 h.rd.s h.rd.l h.rd.t).mono ?_
  rintro r w' ⟨a', n', c', rfl, ho, hb⟩
  obtain rfl : n' = qc := by rw [← hqLc, ← hLLc]; exact ho.rd'.1.symm
  rw [hLLc] at ho
  rw [hBLc]
  exact ⟨a', c', rfl, ho, hb⟩
 have HTI : Hid (∀ wx, ReadB wx sa4 cs sc4 la4 cl lc4 ta4 ct tc4 ⟨cf, ce, cg, ci, cj⟩ → Calls Try.prog 18 #[.agg #[.int .i64 cf, .int .i64 ce, .slice sa4 cs sc4, .slice la4 cl lc4, .slice ta4 ct tc4], .int .i64 ep] wx fun r w' => ∃ a' c', r = .returned (.tuple #[.slice a' qt c', .bool tb]) ∧ Own w' wx.heap.size (.slice a' qt c') Lt ∧ Below wx.heap.size wx w') := fun wx h => by
  refine (implCert_c cf ce sa4 cs sc4 la4 cl lc4 ta4 ct tc4 cg ci cj ep wx h.rd.sl hc1 h.rd.ll hc2 h.rd.tl hc3 h.rd.s h.rd.l h.rd.t).mono ?_
  rintro r w' ⟨a', n', c', rfl, ho, hb⟩
  obtain rfl : n' = qt := by rw [← hqLt, ← hLLt]; exact ho.rd'.1.symm
  rw [hLLt] at ho
  rw [hBLt]
  exact ⟨a', c', rfl, ho, hb⟩
 have HQC : Hid (Lc.length = qc) := hqLc
 have hcc : (cb != cb) = false := by simp
 clear hLLc hBLc hqLc hLLt hBLt hqLt
 obtain ⟨⟨Xcq0, Xcq1, Xcq2, Xcq3, Xcq4⟩, Xcf⟩ := id (Xc_9.out)
 clear Xcf
 go_wp2_with fail
 clear hV9
 refine (HCI.out _ Rc_9.out).mono ?_
 clear Xcq0 Xcq1 Xcq2 Xcq3 Xcq4
 rintro e w10 ⟨a5, c5, rfl, ho, hb⟩
 have hB : Below w9.heap.size w9 w10 := hb
 have HB_10 : Hid (Below w.heap.size w w10) := HB_9.out.trans (hB.mono HB_9.out.size)
 have Rc_10 : Hid (ReadB w10 sa4 cs sc4 la4 cl lc4 ta4 ct tc4 ⟨cf, ce, cg, ci, cj⟩) := Rc_9.out.later hB
 have Xc_10 : Hid (X5 w10 w8.heap.size (.int .i64 cf) (.int .i64 ce) (.slice sa4 cs sc4) (.slice la4 cl lc4) (.slice ta4 ct tc4)) := Xc_9.out.later hB
 have z10 : w9.heap.size ≤ w10.heap.size := hB.size
 have A5_10 : Hid (Own w10 w9.heap.size (Value.slice a5 qc c5) (Lc)) := ho
 clear hb hB HB_9 Rc_9 Xc_9 ho
 obtain ⟨⟨Xcq0, Xcq1, Xcq2, Xcq3, Xcq4⟩, Xcf⟩ := id (Xc_10.out)
 clear Xcf
 go_wp2_with fail
 refine (HCS.out _ Rc_10.out).mono ?_
 clear Xcq0 Xcq1 Xcq2 Xcq3 Xcq4
 rintro e w11 ⟨a6, c6, rfl, ho, hb⟩
 have hB : Below w10.heap.size w10 w11 := hb
 have HB_11 : Hid (Below w.heap.size w w11) := HB_10.out.trans (hB.mono HB_10.out.size)
 have Rc_11 : Hid (ReadB w11 sa4 cs sc4 la4 cl lc4 ta4 ct tc4 ⟨cf, ce, cg, ci, cj⟩) := Rc_10.out.later hB
 have Xc_11 : Hid (X5 w11 w8.heap.size (.int .i64 cf) (.int .i64 ce) (.slice sa4 cs sc4) (.slice la4 cl lc4) (.slice ta4 ct tc4)) := Xc_10.out.later hB
 have A5_11 : Hid (Own w11 w9.heap.size (Value.slice a5 qc c5) (Lc)) := A5_10.out.later hB
 have z11 : w10.heap.size ≤ w11.heap.size := hB.size
 have A6_11 : Hid (Own w11 w10.heap.size (Value.slice a6 qc c6) (Lc)) := ho
 clear hb hB HB_10 Rc_10 Xc_10 A5_10 ho
 obtain ⟨⟨Xcq0, Xcq1, Xcq2, Xcq3, Xcq4⟩, Xcf⟩ := id (Xc_11.out)
 clear Xcf
 go_wp2_with fail
 refine (HTI.out _ Rc_11.out).mono ?_
 clear Xcq0 Xcq1 Xcq2 Xcq3 Xcq4
 rintro e w12 ⟨a7, c7, rfl, ho, hb⟩
 have hB : Below w11.heap.size w11 w12 := hb
 have HB_12 : Hid (Below w.heap.size w w12) := HB_11.out.trans (hB.mono HB_11.out.size)
 have Rc_12 : Hid (ReadB w12 sa4 cs sc4 la4 cl lc4 ta4 ct tc4 ⟨cf, ce, cg, ci, cj⟩) := Rc_11.out.later hB
 have Xc_12 : Hid (X5 w12 w8.heap.size (.int .i64 cf) (.int .i64 ce) (.slice sa4 cs sc4) (.slice la4 cl lc4) (.slice ta4 ct tc4)) := Xc_11.out.later hB
 have A5_12 : Hid (Own w12 w9.heap.size (Value.slice a5 qc c5) (Lc)) := A5_11.out.later hB
 have A6_12 : Hid (Own w12 w10.heap.size (Value.slice a6 qc c6) (Lc)) := A6_11.out.later hB
 have z12 : w11.heap.size ≤ w12.heap.size := hB.size
 have A7_12 : Hid (Own w12 w11.heap.size (Value.slice a7 qt c7) (Lt)) := ho
 clear hb hB HB_11 Rc_11 Xc_11 A5_11 A6_11 ho
 go_wp2_with fail
 refine (sameInts_w a5 a6 qc c5 c6 Lc _ HQC.out (by omega) A5_12.out.rd'.2 A6_12.out.rd'.2).mono ?_
 rintro e w13 ⟨rfl, hb⟩
 have hB : Below w12.heap.size w12 w13 := hb
 have HB_13 : Hid (Below w.heap.size w w13) := HB_12.out.trans (hB.mono HB_12.out.size)
 have Rc_13 : Hid (ReadB w13 sa4 cs sc4 la4 cl lc4 ta4 ct tc4 ⟨cf, ce, cg, ci, cj⟩) := Rc_12.out.later hB
 have Xc_13 : Hid (X5 w13 w8.heap.size (.int .i64 cf) (.int .i64 ce) (.slice sa4 cs sc4) (.slice la4 cl lc4) (.slice ta4 ct tc4)) := Xc_12.out.later hB
 have A5_13 : Hid (Own w13 w9.heap.size (Value.slice a5 qc c5) (Lc)) := A5_12.out.later hB
 have A6_13 : Hid (Own w13 w10.heap.size (Value.slice a6 qc c6) (Lc)) := A6_12.out.later hB
 have A7_13 : Hid (Own w13 w11.heap.size (Value.slice a7 qt c7) (Lt)) := A7_12.out.later hB
 have z13 : w12.heap.size ≤ w13.heap.size := hB.size
 clear hb hB HB_12 Rc_12 Xc_12 A5_12 A6_12 A7_12
 clear Rc_13
 clear Xc_13
 clear A5_13
 clear A6_13
 clear A7_13
 go_upto_region 14 with fail
 go_cut [143] (fun uu wx => uu = .bool false ∧ wx = w13)
 case first =>
  have hqt2 : ¬ (1 : Int) < (qt : Int) := by omega
  rcases HPQ.out with hpq | hpq
  ·subst hpq
   have hpp : (px != px) = false := by simp
   cases cb <;> cases tb
   all_goals (
    go_wp2_with fail
    go_meet
    exact ⟨rfl, rfl⟩)
  ·subst hpq
   cases hpp : (px != py) <;> cases cb <;> cases tb
   all_goals (
    go_wp2_with fail
    go_meet
    exact ⟨rfl, rfl⟩)
 case rest =>
  obtain ⟨rfl, hwc⟩ := hcut
  have hwc2 := hwc.symm
  subst hwc2
  clear HPQ
  go_wp2_with fail
  refine (drawCe_c bo m d _ hm (HM.out.later HB_13.out HB_13.out.size)).mono ?_
  rintro e w14 ⟨df, de, sa8, ds, sc8, la8, dl, lc8, ta8, dt, tc8, dg, di, dj, eq8, rfl, hsm, ho, hb⟩
  have hB : Below w13.heap.size w13 w14 := hb
  have HB_14 : Hid (Below w.heap.size w w14) := HB_13.out.trans (hB.mono HB_13.out.size)
  have z14 : w13.heap.size ≤ w14.heap.size := hB.size
  have Rd_14 : Hid (ReadB w14 sa8 ds sc8 la8 dl lc8 ta8 dt tc8 ⟨df, de, dg, di, dj⟩) := ho.read
  clear hb hB HB_13
  have HSMd : Hid (SmallBd ⟨df, de, dg, di, dj⟩) := hsm
  have HLd : Hid (dg.length = ds ∧ di.length = dl ∧ dj.length = dt) := ⟨Rd_14.out.rd.sl, Rd_14.out.rd.ll, Rd_14.out.rd.tl⟩
  have hd1 : ds ≤ 1048576 := by rw [← HLd.out.1]; exact HSMd.out.s
  have hd2 : dl ≤ 1048576 := by rw [← HLd.out.2.1]; exact HSMd.out.l
  have hd3 : dt ≤ 1048576 := by rw [← HLd.out.2.2]; exact HSMd.out.t
  clear ho hsm
  have hHB := HB_14.out.alloc HB_14.out.size (.cells #[.int .i64 df, .int .i64 de, .slice sa8 ds sc8, .slice la8 dl lc8, .slice ta8 dt tc8] 29)
  have hRd := Rd_14.out.later (balloc w14 (.cells #[.int .i64 df, .int .i64 de, .slice sa8 ds sc8, .slice la8 dl lc8, .slice ta8 dt tc8] 29))
  have hXd := x5_new w14 (.int .i64 df) (.int .i64 de) (.slice sa8 ds sc8) (.slice la8 dl lc8) (.slice ta8 dt tc8) 29 w14.heap.size rfl
  have hz : (w14.alloc (.cells #[.int .i64 df, .int .i64 de, .slice sa8 ds sc8, .slice la8 dl lc8, .slice ta8 dt tc8] 29)).heap.size = w14.heap.size + 1 := by simp
  obtain ⟨w15, hV15⟩ : ∃ V, w14.alloc (.cells #[.int .i64 df, .int .i64 de, .slice sa8 ds sc8, .slice la8 dl lc8, .slice ta8 dt tc8] 29) = V := ⟨_, rfl⟩
  rw [hV15] at hHB hRd hXd hz
  have HB_15 : Hid (Below w.heap.size w w15) := hHB
  have Rd_15 : Hid (ReadB w15 sa8 ds sc8 la8 dl lc8 ta8 dt tc8 ⟨df, de, dg, di, dj⟩) := hRd
  have Xd_15 : Hid (X5 w15 w14.heap.size (.int .i64 df) (.int .i64 de) (.slice sa8 ds sc8) (.slice la8 dl lc8) (.slice ta8 dt tc8)) := hXd
  have z15 : w14.heap.size + 1 ≤ w15.heap.size := by omega
  clear HB_14 Rd_14 hHB hRd hXd hz
  obtain ⟨Le, hLLe⟩ : ∃ x, certV ⟨df, de, dg, di, dj⟩ eq8 = x := ⟨_, rfl⟩
  obtain ⟨eb, hBLe⟩ : ∃ x, certB ⟨df, de, dg, di, dj⟩ eq8 = x := ⟨_, rfl⟩
  obtain ⟨qe, hqLe⟩ : ∃ x, Le.length = x := ⟨_, rfl⟩
  have hqe1 : qe ≤ 1 := by rw [← hqLe, ← hLLe]; exact certV_one _
  have HEI : Hid (∀ wx, ReadB wx sa8 ds sc8 la8 dl lc8 ta8 dt tc8 ⟨df, de, dg, di, dj⟩ → Calls Try.prog 18 #[.agg #[.int .i64 df, .int .i64 de, .slice sa8 ds sc8, .slice la8 dl lc8, .slice ta8 dt tc8], .int .i64 eq8] wx fun r w' => ∃ a' c', r = .returned (.tuple #[.slice a' qe c', .bool eb]) ∧ Own w' wx.heap.size (.slice a' qe c') Le ∧ Below wx.heap.size wx w') := fun wx h => by
   refine (implCert_c df de sa8 ds sc8 la8 dl lc8 ta8 dt tc8 dg di dj eq8 wx h.rd.sl hd1 h.rd.ll hd2 h.rd.tl hd3 h.rd.s h.rd.l h.rd.t).mono ?_
   rintro r w' ⟨a', n', c', rfl, ho, hb⟩
   obtain rfl : n' = qe := by rw [← hqLe, ← hLLe]; exact ho.rd'.1.symm
   rw [hLLe] at ho
   rw [hBLe]
   exact ⟨a', c', rfl, ho, hb⟩
  have HES : Hid (∀ wx, ReadB wx sa8 ds sc8 la8 dl lc8 ta8 dt tc8 ⟨df, de, dg, di, dj⟩ → Calls Try.prog 28 #[.agg #[.int .i64 df, .int .i64 de, .slice sa8 ds sc8, .slice la8 dl lc8, .slice ta8 dt tc8], .int .i64 eq8] wx fun r w' => ∃ a' c', r = .returned (.tuple #[.slice a' qe c', .bool eb]) ∧ Own w' wx.heap.size (.slice a' qe c') Le ∧ Below wx.heap.size wx w') := fun wx h => by
   refine (specCert_c df de sa8 ds sc8 la8 dl lc8 ta8 dt tc8 dg di dj eq8 wx h.rd.cp h.rd.sl hd1 h.rd.ll hd2 h.rd.tl hd3 h.rd.s h.rd.l h.rd.t).mono ?_
   rintro r w' ⟨a', n', c', rfl, ho, hb⟩
   obtain rfl : n' = qe := by rw [← hqLe, ← hLLe]; exact ho.rd'.1.symm
   rw [hLLe] at ho
   rw [hBLe]
   exact ⟨a', c', rfl, ho, hb⟩
  have HQE : Hid (Le.length = qe) := hqLe
  have hee : (eb == eb) = true := by simp
  clear hLLe hBLe hqLe
  obtain ⟨⟨Xdq0, Xdq1, Xdq2, Xdq3, Xdq4⟩, Xdf⟩ := id (Xd_15.out)
  clear Xdf
  go_wp2_with fail
  clear hV15
  refine (HEI.out _ Rd_15.out).mono ?_
  clear Xdq0 Xdq1 Xdq2 Xdq3 Xdq4
  rintro e w16 ⟨a10, c10, rfl, ho, hb⟩
  have hB : Below w15.heap.size w15 w16 := hb
  have HB_16 : Hid (Below w.heap.size w w16) := HB_15.out.trans (hB.mono HB_15.out.size)
  have Rd_16 : Hid (ReadB w16 sa8 ds sc8 la8 dl lc8 ta8 dt tc8 ⟨df, de, dg, di, dj⟩) := Rd_15.out.later hB
  have Xd_16 : Hid (X5 w16 w14.heap.size (.int .i64 df) (.int .i64 de) (.slice sa8 ds sc8) (.slice la8 dl lc8) (.slice ta8 dt tc8)) := Xd_15.out.later hB
  have z16 : w15.heap.size ≤ w16.heap.size := hB.size
  have A8_16 : Hid (Own w16 w15.heap.size (Value.slice a10 qe c10) (Le)) := ho
  clear hb hB HB_15 Rd_15 Xd_15 ho
  obtain ⟨⟨Xdq0, Xdq1, Xdq2, Xdq3, Xdq4⟩, Xdf⟩ := id (Xd_16.out)
  clear Xdf
  go_wp2_with fail
  refine (HES.out _ Rd_16.out).mono ?_
  clear Xdq0 Xdq1 Xdq2 Xdq3 Xdq4
  rintro e w17 ⟨a11, c11, rfl, ho, hb⟩
  have hB : Below w16.heap.size w16 w17 := hb
  have HB_17 : Hid (Below w.heap.size w w17) := HB_16.out.trans (hB.mono HB_16.out.size)
  have Rd_17 : Hid (ReadB w17 sa8 ds sc8 la8 dl lc8 ta8 dt tc8 ⟨df, de, dg, di, dj⟩) := Rd_16.out.later hB
  have Xd_17 : Hid (X5 w17 w14.heap.size (.int .i64 df) (.int .i64 de) (.slice sa8 ds sc8) (.slice la8 dl lc8) (.slice ta8 dt tc8)) := Xd_16.out.later hB
  have A8_17 : Hid (Own w17 w15.heap.size (Value.slice a10 qe c10) (Le)) := A8_16.out.later hB
  have z17 : w16.heap.size ≤ w17.heap.size := hB.size
  have A9_17 : Hid (Own w17 w16.heap.size (Value.slice a11 qe c11) (Le)) := ho
  clear hb hB HB_16 Rd_16 Xd_16 A8_16 ho
  clear Rd_17
  clear Xd_17
  go_wp2_with fail
  refine (drawQuo_c bo m d _ hm (HM.out.later HB_17.out HB_17.out.size)).mono ?_
  rintro e w18 ⟨fq, rfl, hb⟩
  have hB : Below w17.heap.size w17 w18 := hb
  have HB_18 : Hid (Below w.heap.size w w18) := HB_17.out.trans (hB.mono HB_17.out.size)
  have A8_18 : Hid (Own w18 w15.heap.size (Value.slice a10 qe c10) (Le)) := A8_17.out.later hB
  have A9_18 : Hid (Own w18 w16.heap.size (Value.slice a11 qe c11) (Le)) := A9_17.out.later hB
  have z18 : w17.heap.size ≤ w18.heap.size := hB.size
  clear hb hB HB_17 A8_17 A9_17
  obtain ⟨q1, q2, ib, hqa, hqb, hqc, hqd, hqe, hqI, hqS⟩ := quo_both fq
  have HQF : Hid (ib = true → fq < 2 * q2 - q1) := hqe
  have hii : (ib == ib) = true := by simp
  have hq11 : (q1 == q1) = true := by simp
  have hq22 : (q2 == q2) = true := by simp
  clear hqe
  go_wp2_with fail
  refine (hqI _).mono ?_
  rintro e w19 ⟨rfl, hb⟩
  have hB : Below w18.heap.size w18 w19 := hb
  have HB_19 : Hid (Below w.heap.size w w19) := HB_18.out.trans (hB.mono HB_18.out.size)
  have A8_19 : Hid (Own w19 w15.heap.size (Value.slice a10 qe c10) (Le)) := A8_18.out.later hB
  have A9_19 : Hid (Own w19 w16.heap.size (Value.slice a11 qe c11) (Le)) := A9_18.out.later hB
  have z19 : w18.heap.size ≤ w19.heap.size := hB.size
  clear hb hB HB_18 A8_18 A9_18
  go_wp2_with fail
  refine (hqS _).mono ?_
  rintro e w' ⟨rfl, hw⟩
  subst w'
  clear hqI hqS
  go_wp2_with fail
  refine (drawNew_c bo m d _ hm (HM.out.later HB_19.out HB_19.out.size)).mono ?_
  rintro e w20 ⟨g2, pa, pn, pc, qi, rfl, hpn, ho, hb⟩
  have hB : Below w19.heap.size w19 w20 := hb
  have HB_20 : Hid (Below w.heap.size w w20) := HB_19.out.trans (hB.mono HB_19.out.size)
  have A8_20 : Hid (Own w20 w15.heap.size (Value.slice a10 qe c10) (Le)) := A8_19.out.later hB
  have A9_20 : Hid (Own w20 w16.heap.size (Value.slice a11 qe c11) (Le)) := A9_19.out.later hB
  have z20 : w19.heap.size ≤ w20.heap.size := hB.size
  have PN_20 : Hid (Own w20 w19.heap.size (Value.slice pa pn pc) (qi)) := ho
  clear hb hB HB_19 A8_19 A9_19 ho
  have hsv := newV_small g2 qi
  obtain ⟨⟨vf, ve, vg, vi, vj⟩, hnv⟩ : ∃ x, newV g2 qi = x := ⟨_, rfl⟩
  obtain ⟨vb, hcv⟩ : ∃ x, couB g2 qi = x := ⟨_, rfl⟩
  rw [hnv] at hsv
  obtain ⟨vs, hn3⟩ : ∃ k, vg.length = k := ⟨_, rfl⟩
  obtain ⟨vl, hn4⟩ : ∃ k, vi.length = k := ⟨_, rfl⟩
  obtain ⟨vt, hn5⟩ : ∃ k, vj.length = k := ⟨_, rfl⟩
  have HNI : Hid (∀ wx B, Own wx B (.slice pa pn pc) qi → Calls Try.prog 33 #[.int .i64 g2, .slice pa pn pc] wx fun r w' => ∃ sa' sc' la' lc' ta' tc', r = .returned (.tuple #[.agg #[.int .i64 vf, .int .i64 ve, .slice sa' vs sc', .slice la' vl lc', .slice ta' vt tc'], .bool vb]) ∧ OwnBd w' wx.heap.size w'.heap.size (.slice sa' vs sc') (.slice la' vl lc') (.slice ta' vt tc') ⟨vf, ve, vg, vi, vj⟩ ∧ Below wx.heap.size wx w') := fun wx B h => by
   have := implNew_c g2 pa pn pc qi wx h.rd'.1 (by omega) h.rd'.2 h.nil
   unfold NewOk at this
   rw [hnv, hcv] at this
   dsimp only at this
   rw [hn3, hn4, hn5] at this
   exact this
  have HNS : Hid (∀ wx B, Own wx B (.slice pa pn pc) qi → Calls Try.prog 34 #[.int .i64 g2, .slice pa pn pc] wx fun r w' => ∃ sa' sc' la' lc' ta' tc', r = .returned (.tuple #[.agg #[.int .i64 vf, .int .i64 ve, .slice sa' vs sc', .slice la' vl lc', .slice ta' vt tc'], .bool vb]) ∧ OwnBd w' wx.heap.size w'.heap.size (.slice sa' vs sc') (.slice la' vl lc') (.slice ta' vt tc') ⟨vf, ve, vg, vi, vj⟩ ∧ Below wx.heap.size wx w') := fun wx B h => by
   have := specNew_c g2 pa pn pc qi wx h.rd'.1 (by omega) h.rd'.2 h.nil
   unfold NewOk at this
   rw [hnv, hcv] at this
   dsimp only at this
   rw [hn3, hn4, hn5] at this
   exact this
  have HSMv : Hid (SmallBd ⟨vf, ve, vg, vi, vj⟩) := hsv
  have hvv : (vb == vb) = true := by simp
  clear hsv hnv hcv hn3 hn4 hn5
  go_wp2_with fail
  refine (HNI.out _ _ PN_20.out).mono ?_
  rintro e w21 ⟨sa12, sc12, la12, lc12, ta12, tc12, rfl, ho, hb⟩
  have hB : Below w20.heap.size w20 w21 := hb
  have HB_21 : Hid (Below w.heap.size w w21) := HB_20.out.trans (hB.mono HB_20.out.size)
  have A8_21 : Hid (Own w21 w15.heap.size (Value.slice a10 qe c10) (Le)) := A8_20.out.later hB
  have A9_21 : Hid (Own w21 w16.heap.size (Value.slice a11 qe c11) (Le)) := A9_20.out.later hB
  have PN_21 : Hid (Own w21 w19.heap.size (Value.slice pa pn pc) (qi)) := PN_20.out.later hB
  have z21 : w20.heap.size ≤ w21.heap.size := hB.size
  have Rm_21 : Hid (ReadB w21 sa12 vs sc12 la12 vl lc12 ta12 vt tc12 ⟨vf, ve, vg, vi, vj⟩) := ho.read
  clear hb hB HB_20 A8_20 A9_20 PN_20
  clear ho
  have hHB := HB_21.out.alloc HB_21.out.size (.cells #[.int .i64 vf, .int .i64 ve, .slice sa12 vs sc12, .slice la12 vl lc12, .slice ta12 vt tc12] 29)
  have hA8 := A8_21.out.later (balloc w21 (.cells #[.int .i64 vf, .int .i64 ve, .slice sa12 vs sc12, .slice la12 vl lc12, .slice ta12 vt tc12] 29))
  have hA9 := A9_21.out.later (balloc w21 (.cells #[.int .i64 vf, .int .i64 ve, .slice sa12 vs sc12, .slice la12 vl lc12, .slice ta12 vt tc12] 29))
  have hPN := PN_21.out.later (balloc w21 (.cells #[.int .i64 vf, .int .i64 ve, .slice sa12 vs sc12, .slice la12 vl lc12, .slice ta12 vt tc12] 29))
  have hRm := Rm_21.out.later (balloc w21 (.cells #[.int .i64 vf, .int .i64 ve, .slice sa12 vs sc12, .slice la12 vl lc12, .slice ta12 vt tc12] 29))
  have hXm := x5_new w21 (.int .i64 vf) (.int .i64 ve) (.slice sa12 vs sc12) (.slice la12 vl lc12) (.slice ta12 vt tc12) 29 w21.heap.size rfl
  have hz : (w21.alloc (.cells #[.int .i64 vf, .int .i64 ve, .slice sa12 vs sc12, .slice la12 vl lc12, .slice ta12 vt tc12] 29)).heap.size = w21.heap.size + 1 := by simp
  obtain ⟨w22, hV22⟩ : ∃ V, w21.alloc (.cells #[.int .i64 vf, .int .i64 ve, .slice sa12 vs sc12, .slice la12 vl lc12, .slice ta12 vt tc12] 29) = V := ⟨_, rfl⟩
  rw [hV22] at hHB hA8 hA9 hPN hRm hXm hz
  have HB_22 : Hid (Below w.heap.size w w22) := hHB
  have A8_22 : Hid (Own w22 w15.heap.size (Value.slice a10 qe c10) (Le)) := hA8
  have A9_22 : Hid (Own w22 w16.heap.size (Value.slice a11 qe c11) (Le)) := hA9
  have PN_22 : Hid (Own w22 w19.heap.size (Value.slice pa pn pc) (qi)) := hPN
  have Rm_22 : Hid (ReadB w22 sa12 vs sc12 la12 vl lc12 ta12 vt tc12 ⟨vf, ve, vg, vi, vj⟩) := hRm
  have Xm_22 : Hid (X5 w22 w21.heap.size (.int .i64 vf) (.int .i64 ve) (.slice sa12 vs sc12) (.slice la12 vl lc12) (.slice ta12 vt tc12)) := hXm
  have z22 : w21.heap.size + 1 ≤ w22.heap.size := by omega
  clear HB_21 A8_21 A9_21 PN_21 Rm_21 hHB hA8 hA9 hPN hRm hXm hz
  go_wp2_with fail
  clear hV22
  refine (HNS.out _ _ PN_22.out).mono ?_
  rintro e w23 ⟨sa13, sc13, la13, lc13, ta13, tc13, rfl, ho, hb⟩
  have hB : Below w22.heap.size w22 w23 := hb
  have HB_23 : Hid (Below w.heap.size w w23) := HB_22.out.trans (hB.mono HB_22.out.size)
  have A8_23 : Hid (Own w23 w15.heap.size (Value.slice a10 qe c10) (Le)) := A8_22.out.later hB
  have A9_23 : Hid (Own w23 w16.heap.size (Value.slice a11 qe c11) (Le)) := A9_22.out.later hB
  have PN_23 : Hid (Own w23 w19.heap.size (Value.slice pa pn pc) (qi)) := PN_22.out.later hB
  have Rm_23 : Hid (ReadB w23 sa12 vs sc12 la12 vl lc12 ta12 vt tc12 ⟨vf, ve, vg, vi, vj⟩) := Rm_22.out.later hB
  have Xm_23 : Hid (X5 w23 w21.heap.size (.int .i64 vf) (.int .i64 ve) (.slice sa12 vs sc12) (.slice la12 vl lc12) (.slice ta12 vt tc12)) := Xm_22.out.later hB
  have z23 : w22.heap.size ≤ w23.heap.size := hB.size
  have Ro_23 : Hid (ReadB w23 sa13 vs sc13 la13 vl lc13 ta13 vt tc13 ⟨vf, ve, vg, vi, vj⟩) := ho.read
  clear hb hB HB_22 A8_22 A9_22 PN_22 Rm_22 Xm_22
  clear ho
  have hHB := HB_23.out.alloc HB_23.out.size (.cells #[.int .i64 vf, .int .i64 ve, .slice sa13 vs sc13, .slice la13 vl lc13, .slice ta13 vt tc13] 29)
  have hA8 := A8_23.out.later (balloc w23 (.cells #[.int .i64 vf, .int .i64 ve, .slice sa13 vs sc13, .slice la13 vl lc13, .slice ta13 vt tc13] 29))
  have hA9 := A9_23.out.later (balloc w23 (.cells #[.int .i64 vf, .int .i64 ve, .slice sa13 vs sc13, .slice la13 vl lc13, .slice ta13 vt tc13] 29))
  have hPN := PN_23.out.later (balloc w23 (.cells #[.int .i64 vf, .int .i64 ve, .slice sa13 vs sc13, .slice la13 vl lc13, .slice ta13 vt tc13] 29))
  have hRm := Rm_23.out.later (balloc w23 (.cells #[.int .i64 vf, .int .i64 ve, .slice sa13 vs sc13, .slice la13 vl lc13, .slice ta13 vt tc13] 29))
  have hXm := Xm_23.out.later (balloc w23 (.cells #[.int .i64 vf, .int .i64 ve, .slice sa13 vs sc13, .slice la13 vl lc13, .slice ta13 vt tc13] 29))
  have hRo := Ro_23.out.later (balloc w23 (.cells #[.int .i64 vf, .int .i64 ve, .slice sa13 vs sc13, .slice la13 vl lc13, .slice ta13 vt tc13] 29))
  have hXo := x5_new w23 (.int .i64 vf) (.int .i64 ve) (.slice sa13 vs sc13) (.slice la13 vl lc13) (.slice ta13 vt tc13) 29 w23.heap.size rfl
  have hz : (w23.alloc (.cells #[.int .i64 vf, .int .i64 ve, .slice sa13 vs sc13, .slice la13 vl lc13, .slice ta13 vt tc13] 29)).heap.size = w23.heap.size + 1 := by simp
  obtain ⟨w24, hV24⟩ : ∃ V, w23.alloc (.cells #[.int .i64 vf, .int .i64 ve, .slice sa13 vs sc13, .slice la13 vl lc13, .slice ta13 vt tc13] 29) = V := ⟨_, rfl⟩
  rw [hV24] at hHB hA8 hA9 hPN hRm hXm hRo hXo hz
  have HB_24 : Hid (Below w.heap.size w w24) := hHB
  have A8_24 : Hid (Own w24 w15.heap.size (Value.slice a10 qe c10) (Le)) := hA8
  have A9_24 : Hid (Own w24 w16.heap.size (Value.slice a11 qe c11) (Le)) := hA9
  have PN_24 : Hid (Own w24 w19.heap.size (Value.slice pa pn pc) (qi)) := hPN
  have Rm_24 : Hid (ReadB w24 sa12 vs sc12 la12 vl lc12 ta12 vt tc12 ⟨vf, ve, vg, vi, vj⟩) := hRm
  have Xm_24 : Hid (X5 w24 w21.heap.size (.int .i64 vf) (.int .i64 ve) (.slice sa12 vs sc12) (.slice la12 vl lc12) (.slice ta12 vt tc12)) := hXm
  have Ro_24 : Hid (ReadB w24 sa13 vs sc13 la13 vl lc13 ta13 vt tc13 ⟨vf, ve, vg, vi, vj⟩) := hRo
  have Xo_24 : Hid (X5 w24 w23.heap.size (.int .i64 vf) (.int .i64 ve) (.slice sa13 vs sc13) (.slice la13 vl lc13) (.slice ta13 vt tc13)) := hXo
  have z24 : w23.heap.size + 1 ≤ w24.heap.size := by omega
  clear HB_23 A8_23 A9_23 PN_23 Rm_23 Xm_23 Ro_23 hHB hA8 hA9 hPN hRm hXm hRo hXo hz
  clear PN_24
  cases ib
  case false =>
   go_wp2_with fail
   clear hV24
   refine (sameInts_w a10 a11 qe c10 c11 Le _ HQE.out (by omega) A8_24.out.rd'.2 A9_24.out.rd'.2).mono ?_
   rintro e w25 ⟨rfl, hb⟩
   have hB : Below w24.heap.size w24 w25 := hb
   have HB_25 : Hid (Below w.heap.size w w25) := HB_24.out.trans (hB.mono HB_24.out.size)
   have A8_25 : Hid (Own w25 w15.heap.size (Value.slice a10 qe c10) (Le)) := A8_24.out.later hB
   have A9_25 : Hid (Own w25 w16.heap.size (Value.slice a11 qe c11) (Le)) := A9_24.out.later hB
   have Rm_25 : Hid (ReadB w25 sa12 vs sc12 la12 vl lc12 ta12 vt tc12 ⟨vf, ve, vg, vi, vj⟩) := Rm_24.out.later hB
   have Xm_25 : Hid (X5 w25 w21.heap.size (.int .i64 vf) (.int .i64 ve) (.slice sa12 vs sc12) (.slice la12 vl lc12) (.slice ta12 vt tc12)) := Xm_24.out.later hB
   have Ro_25 : Hid (ReadB w25 sa13 vs sc13 la13 vl lc13 ta13 vt tc13 ⟨vf, ve, vg, vi, vj⟩) := Ro_24.out.later hB
   have Xo_25 : Hid (X5 w25 w23.heap.size (.int .i64 vf) (.int .i64 ve) (.slice sa13 vs sc13) (.slice la13 vl lc13) (.slice ta13 vt tc13)) := Xo_24.out.later hB
   have z25 : w24.heap.size ≤ w25.heap.size := hB.size
   clear hb hB HB_24 A8_24 A9_24 Rm_24 Xm_24 Ro_24 Xo_24
   obtain ⟨⟨Xmq0, Xmq1, Xmq2, Xmq3, Xmq4⟩, Xmf⟩ := id (Xm_25.out)
   clear Xmf
   obtain ⟨⟨Xoq0, Xoq1, Xoq2, Xoq3, Xoq4⟩, Xof⟩ := id (Xo_25.out)
   clear Xof
   go_wp2_with fail
   refine (sameBoard_c vf ve sa12 vs sc12 la12 vl lc12 ta12 vt tc12 sa13 sc13 la13 lc13 ta13 tc13 ⟨vf, ve, vg, vi, vj⟩ _ HSMv.out Rm_25.out.rd Ro_25.out.rd).mono ?_
   clear Xmq0 Xmq1 Xmq2 Xmq3 Xmq4
   clear Xoq0 Xoq1 Xoq2 Xoq3 Xoq4
   rintro e w26 ⟨rfl, hb⟩
   have hB : Below w25.heap.size w25 w26 := hb
   have HB_26 : Hid (Below w.heap.size w w26) := HB_25.out.trans (hB.mono HB_25.out.size)
   have A8_26 : Hid (Own w26 w15.heap.size (Value.slice a10 qe c10) (Le)) := A8_25.out.later hB
   have A9_26 : Hid (Own w26 w16.heap.size (Value.slice a11 qe c11) (Le)) := A9_25.out.later hB
   have Rm_26 : Hid (ReadB w26 sa12 vs sc12 la12 vl lc12 ta12 vt tc12 ⟨vf, ve, vg, vi, vj⟩) := Rm_25.out.later hB
   have Xm_26 : Hid (X5 w26 w21.heap.size (.int .i64 vf) (.int .i64 ve) (.slice sa12 vs sc12) (.slice la12 vl lc12) (.slice ta12 vt tc12)) := Xm_25.out.later hB
   have Ro_26 : Hid (ReadB w26 sa13 vs sc13 la13 vl lc13 ta13 vt tc13 ⟨vf, ve, vg, vi, vj⟩) := Ro_25.out.later hB
   have Xo_26 : Hid (X5 w26 w23.heap.size (.int .i64 vf) (.int .i64 ve) (.slice sa13 vs sc13) (.slice la13 vl lc13) (.slice ta13 vt tc13)) := Xo_25.out.later hB
   have z26 : w25.heap.size ≤ w26.heap.size := hB.size
   clear hb hB HB_25 A8_25 A9_25 Rm_25 Xm_25 Ro_25 Xo_25
   go_wp2
   go_ret
   exact ⟨rfl, HB_26.out⟩
  case true =>
   have hqf : fq < 2 * q2 - q1 := HQF.out rfl
   clear HQF
   go_wp2_with fail
   clear hV24
   refine (sameInts_w a10 a11 qe c10 c11 Le _ HQE.out (by omega) A8_24.out.rd'.2 A9_24.out.rd'.2).mono ?_
   rintro e w25 ⟨rfl, hb⟩
   have hB : Below w24.heap.size w24 w25 := hb
   have HB_25 : Hid (Below w.heap.size w w25) := HB_24.out.trans (hB.mono HB_24.out.size)
   have A8_25 : Hid (Own w25 w15.heap.size (Value.slice a10 qe c10) (Le)) := A8_24.out.later hB
   have A9_25 : Hid (Own w25 w16.heap.size (Value.slice a11 qe c11) (Le)) := A9_24.out.later hB
   have Rm_25 : Hid (ReadB w25 sa12 vs sc12 la12 vl lc12 ta12 vt tc12 ⟨vf, ve, vg, vi, vj⟩) := Rm_24.out.later hB
   have Xm_25 : Hid (X5 w25 w21.heap.size (.int .i64 vf) (.int .i64 ve) (.slice sa12 vs sc12) (.slice la12 vl lc12) (.slice ta12 vt tc12)) := Xm_24.out.later hB
   have Ro_25 : Hid (ReadB w25 sa13 vs sc13 la13 vl lc13 ta13 vt tc13 ⟨vf, ve, vg, vi, vj⟩) := Ro_24.out.later hB
   have Xo_25 : Hid (X5 w25 w23.heap.size (.int .i64 vf) (.int .i64 ve) (.slice sa13 vs sc13) (.slice la13 vl lc13) (.slice ta13 vt tc13)) := Xo_24.out.later hB
   have z25 : w24.heap.size ≤ w25.heap.size := hB.size
   clear hb hB HB_24 A8_24 A9_24 Rm_24 Xm_24 Ro_24 Xo_24
   obtain ⟨⟨Xmq0, Xmq1, Xmq2, Xmq3, Xmq4⟩, Xmf⟩ := id (Xm_25.out)
   clear Xmf
   obtain ⟨⟨Xoq0, Xoq1, Xoq2, Xoq3, Xoq4⟩, Xof⟩ := id (Xo_25.out)
   clear Xof
   go_wp2_with fail
   refine (sameBoard_c vf ve sa12 vs sc12 la12 vl lc12 ta12 vt tc12 sa13 sc13 la13 lc13 ta13 tc13 ⟨vf, ve, vg, vi, vj⟩ _ HSMv.out Rm_25.out.rd Ro_25.out.rd).mono ?_
   clear Xmq0 Xmq1 Xmq2 Xmq3 Xmq4
   clear Xoq0 Xoq1 Xoq2 Xoq3 Xoq4
   rintro e w26 ⟨rfl, hb⟩
   have hB : Below w25.heap.size w25 w26 := hb
   have HB_26 : Hid (Below w.heap.size w w26) := HB_25.out.trans (hB.mono HB_25.out.size)
   have A8_26 : Hid (Own w26 w15.heap.size (Value.slice a10 qe c10) (Le)) := A8_25.out.later hB
   have A9_26 : Hid (Own w26 w16.heap.size (Value.slice a11 qe c11) (Le)) := A9_25.out.later hB
   have Rm_26 : Hid (ReadB w26 sa12 vs sc12 la12 vl lc12 ta12 vt tc12 ⟨vf, ve, vg, vi, vj⟩) := Rm_25.out.later hB
   have Xm_26 : Hid (X5 w26 w21.heap.size (.int .i64 vf) (.int .i64 ve) (.slice sa12 vs sc12) (.slice la12 vl lc12) (.slice ta12 vt tc12)) := Xm_25.out.later hB
   have Ro_26 : Hid (ReadB w26 sa13 vs sc13 la13 vl lc13 ta13 vt tc13 ⟨vf, ve, vg, vi, vj⟩) := Ro_25.out.later hB
   have Xo_26 : Hid (X5 w26 w23.heap.size (.int .i64 vf) (.int .i64 ve) (.slice sa13 vs sc13) (.slice la13 vl lc13) (.slice ta13 vt tc13)) := Xo_25.out.later hB
   have z26 : w25.heap.size ≤ w26.heap.size := hB.size
   clear hb hB HB_25 A8_25 A9_25 Rm_25 Xm_25 Ro_25 Xo_25
   go_wp2
   go_ret
   exact ⟨rfl, HB_26.out⟩

end Go.Proofs.Ytaokmjbhgkfnfaa
