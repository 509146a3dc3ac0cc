/- Chapter 13: lists and boards that read the same, held against each other by the laws. -/
import Derived.Test.YtaokmjbhgkfnfaaD13q
import Derived.Test.YtaokmjbhgkfnfaaAB13q
import Derived.Deep.QuietTactic
namespace Go.Proofs.Ytaokmjbhgkfnfaa
set_option linter.unusedVariables false
set_option maxRecDepth 1000000
set_option linter.unusedSimpArgs false
open Go.RowKit

theorem below_drewN {B : Nat} {w w' : World} (h : Below B w w') (k : Nat) : Below B w (w'.drewN k) := ⟨h.os, h.tape, h.output, h.size, h.block⟩
set_option maxHeartbeats 400000 in
theorem sameInts_q (ao bo : Option Addr) (n c d : Nat) (xs : List Int) (w : World) (hx : xs.length = n) (hn : n ≤ 140737488355328) (hr : Rd w ao xs) (hs : Rd w bo xs) :
  Calls Try.prog 26 #[.slice ao n c, .slice bo n d] w fun e w' => e = .returned (.bool true) ∧ ∃ q, w' = w.drewN q := by
 have HX : Hid (xs.length = n) := hx
 have HR : Hid (Rd w ao xs) := hr
 have HS : Hid (Rd w bo xs) := hs
 have hnn : ((n : Int) != (n : Int)) = false := by simp
 clear hx hr hs
 go_enter Try.func26, Try.ntmps26
 go_wp2
 go_loopw [13] (fun i wr => ∃ k q : Nat, k ≤ n ∧ i = .int .i64 k ∧ Hid (wr = w.drewN q)) (fun i _ => n - (intOf i).toNat)
 case atStart => exact ⟨0, 0, Nat.zero_le _, rfl, rfl⟩
 case round =>
  obtain ⟨k, q, hk, rfl, HW⟩ := hrel
  by_cases hlt : k < n
  ·have hb : Below w.heap.size w wr := by rw [HW.out]; exact below_drewN (Below.refl _ _) q
   obtain ⟨b1, o1, rfl, g1⟩ := Rd.get (HR.out.later hb) (k := k) (by rw [HX.out]; exact hlt)
   obtain ⟨b2, o2, rfl, g2⟩ := Rd.get (HS.out.later hb) (k := k) (by rw [HX.out]; exact hlt)
   generalize xs.getD k 0 = x at g1 g2
   have ht : (x != x) = false := by simp
   have h0 : (0 : Int) ≤ (k : Int) := by omega
   have hl : (k : Int) < (n : Int) := by omega
   clear hb
   go_wp2
   go_quiet (fail)
   go_wp2
   go_roundw
   case rel => exact ⟨k + 1, q + nq, by omega, by go_num, by show _ = _; rw [HW.out, World.drewN_drewN]⟩
   case measure => simp [intOf]; omega
  ·go_wp2
   go_ret
   exact ⟨rfl, q, HW.out⟩

theorem sameInts_w (ao bo : Option Addr) (n c d : Nat) (xs : List Int) (w : World) (hx : xs.length = n) (hn : n ≤ 140737488355328) (hr : Rd w ao xs) (hs : Rd w bo xs) :
  Calls Try.prog 26 #[.slice ao n c, .slice bo n d] w fun e w' => e = .returned (.bool true) ∧ Below w.heap.size w w' :=
 (sameInts_q ao bo n c d xs w hx hn hr hs).mono fun e w' ⟨h1, q, h2⟩ => ⟨h1, by rw [h2]; exact below_drewN (Below.refl _ _) q⟩
set_option maxHeartbeats 1000000 in
theorem sameRows_c (ao bo : Option Addr) (n c d : Nat) (xss : List (List Int)) (w : World) (hx : xss.length = n) (hn : n ≤ 1048576) (hl : ∀ l ∈ xss, l.length ≤ 1048576) (hr : RdII w ao xss) (hs : RdII w bo xss) :
  Calls Try.prog 56 #[.slice ao n c, .slice bo n d] w fun e w' => e = .returned (.bool true) ∧ Below w.heap.size w w' := by
 have HX : Hid (xss.length = n) := hx
 have HR : Hid (RdII w ao xss) := hr
 have HS : Hid (RdII w bo xss) := hs
 have HL : Hid (∀ l ∈ xss, l.length ≤ 1048576) := hl
 have hnn : ((n : Int) != (n : Int)) = false := by simp
 clear hx hr hs hl
 go_enter Try.func56, Try.ntmps56
 go_wp2
 go_loopw [13] (fun iv wr => ∃ (k : Nat), k ≤ n ∧ iv = .int .i64 k ∧ Hid (Below w.heap.size w wr)) (fun iv _ => n - (intOf iv).toNat)
 case atStart => exact ⟨0, Nat.zero_le _, rfl, Below.refl _ _⟩
 case round =>
  obtain ⟨k, hk, rfl, HB⟩ := hrel
  by_cases hlt : k < n
  ·have hkl : k < xss.length := by rw [HX.out]; exact hlt
   obtain ⟨b, o, ro, rc, rfl, g1, hro⟩ := (HR.out.later HB.out).get hkl
   obtain ⟨b', o', so, sc, rfl, g2, hso⟩ := (HS.out.later HB.out).get hkl
   have hlk := HL.out _ (mem_getD [] hkl)
   have k0 : (0 : Int) ≤ (k : Int) := by omega
   have k1 : (k : Int) < (n : Int) := by omega
   generalize xss.getD k [] = row at g1 g2 hro hso hlk
   obtain ⟨rn, hrn⟩ : ∃ rn, row.length = rn := ⟨_, rfl⟩
   rw [hrn] at g1 g2 hlk
   have HQ : Hid (∀ wx, Below wr.heap.size wr wx → Calls Try.prog 26 #[.slice ro rn rc, .slice so rn sc] wx fun e w' => e = .returned (.bool true) ∧ Below wx.heap.size wx w') := fun wx h => by
    exact sameInts_w ro so rn rc sc row wx hrn (by omega) (hro.later h) (hso.later h)
   clear hkl hlk hrn hro hso
   go_wp2
   go_region_with (go_at_call 26; refine (HQ.out _ (by first | exact Below.refl _ _ | exact (Below.refl _ _).drew)).mono ?_; rintro e w1 ⟨rfl, hb1⟩; have HB1 : Hid (Below w.heap.size w w1) := (by first | exact HB.out.trans (hb1.mono HB.out.size) | exact HB.out.drew.trans (hb1.mono HB.out.size)); clear hb1)
   all_goals go_wp2
   all_goals exact ⟨⟨k + 1, by omega, by go_num, HB1⟩, by simp [intOf]; omega⟩
  ·go_wp2
   go_ret
   exact ⟨rfl, HB.out⟩

set_option maxHeartbeats 2000000 in
theorem sameBoard_c (f e : Int) (sa : Option Addr) (sn sc : Nat) (la : Option Addr) (ln lc : Nat) (ta : Option Addr) (tn tc : Nat) (sb : Option Addr) (sd : Nat) (lb : Option Addr) (ld : Nat) (tb : Option Addr) (td : Nat) (b : BdV) (w : World) (hb : SmallBd b) (h1 : RdBd w sa sn sc la ln lc ta tn tc b) (h2 : RdBd w sb sn sd lb ln ld tb tn td b) :
  Calls Try.prog 16 #[.agg #[.int .i64 f, .int .i64 e, .slice sa sn sc, .slice la ln lc, .slice ta tn tc], .agg #[.int .i64 f, .int .i64 e, .slice sb sn sd, .slice lb ln ld, .slice tb tn td]] w fun r w' => r = .returned (.bool true) ∧ Below w.heap.size w w' := by
 have HB_0 : Hid (Below w.heap.size w w) := Below.refl _ _
 have RA_0 : Hid (RdBd w sa sn sc la ln lc ta tn tc b) := h1
 have RC_0 : Hid (RdBd w sb sn sd lb ln ld tb tn td b) := h2
 have hsn : sn ≤ 1048576 := by rw [← h1.sl]; exact hb.s
 have hln : ln ≤ 1048576 := by rw [← h1.ll]; exact hb.l
 have htn : tn ≤ 1048576 := by rw [← h1.tl]; exact hb.t
 have HS : Hid (b.sg.length = sn) := h1.sl
 have HL : Hid (b.li.length = ln) := h1.ll
 have HT : Hid (b.ls.length = tn) := h1.tl
 have HZ : Hid (∀ l ∈ b.sg, l.length ≤ 1048576) := hb.r
 clear h1 h2 hb
 have hHB := HB_0.out.alloc HB_0.out.size (.cells #[.int .i64 f, .int .i64 e, .slice sa sn sc, .slice la ln lc, .slice ta tn tc] 29)
 have hRA := RA_0.out.later (balloc w (.cells #[.int .i64 f, .int .i64 e, .slice sa sn sc, .slice la ln lc, .slice ta tn tc] 29))
 have hRC := RC_0.out.later (balloc w (.cells #[.int .i64 f, .int .i64 e, .slice sa sn sc, .slice la ln lc, .slice ta tn tc] 29))
 have hA := x5_new w (.int .i64 f) (.int .i64 e) (.slice sa sn sc) (.slice la ln lc) (.slice ta tn tc) 29 w.heap.size rfl
 have hz : (w.alloc (.cells #[.int .i64 f, .int .i64 e, .slice sa sn sc, .slice la ln lc, .slice ta tn tc] 29)).heap.size = w.heap.size + 1 := by simp
 obtain ⟨w1, hV1⟩ : ∃ V, w.alloc (.cells #[.int .i64 f, .int .i64 e, .slice sa sn sc, .slice la ln lc, .slice ta tn tc] 29) = V := ⟨_, rfl⟩
 rw [hV1] at hHB hRA hRC hA hz
 have HB_1 : Hid (Below w.heap.size w w1) := hHB
 have RA_1 : Hid (RdBd w1 sa sn sc la ln lc ta tn tc b) := hRA
 have RC_1 : Hid (RdBd w1 sb sn sd lb ln ld tb tn td b) := hRC
 have A_1 : Hid (X5 w1 w.heap.size (.int .i64 f) (.int .i64 e) (.slice sa sn sc) (.slice la ln lc) (.slice ta tn tc)) := hA
 have z1 : w.heap.size + 1 ≤ w1.heap.size := by omega
 clear HB_0 RA_0 RC_0 hHB hRA hRC hA hz
 have hHB := HB_1.out.alloc HB_1.out.size (.cells #[.int .i64 f, .int .i64 e, .slice sb sn sd, .slice lb ln ld, .slice tb tn td] 29)
 have hRA := RA_1.out.later (balloc w1 (.cells #[.int .i64 f, .int .i64 e, .slice sb sn sd, .slice lb ln ld, .slice tb tn td] 29))
 have hRC := RC_1.out.later (balloc w1 (.cells #[.int .i64 f, .int .i64 e, .slice sb sn sd, .slice lb ln ld, .slice tb tn td] 29))
 have hA := A_1.out.later (balloc w1 (.cells #[.int .i64 f, .int .i64 e, .slice sb sn sd, .slice lb ln ld, .slice tb tn td] 29))
 have hC := x5_new w1 (.int .i64 f) (.int .i64 e) (.slice sb sn sd) (.slice lb ln ld) (.slice tb tn td) 29 w1.heap.size rfl
 have hz : (w1.alloc (.cells #[.int .i64 f, .int .i64 e, .slice sb sn sd, .slice lb ln ld, .slice tb tn td] 29)).heap.size = w1.heap.size + 1 := by simp
 obtain ⟨w2, hV2⟩ : ∃ V, w1.alloc (.cells #[.int .i64 f, .int .i64 e, .slice sb sn sd, .slice lb ln ld, .slice tb tn td] 29) = V := ⟨_, rfl⟩
 rw [hV2] at hHB hRA hRC hA hC hz
 have HB_2 : Hid (Below w.heap.size w w2) := hHB
 have RA_2 : Hid (RdBd w2 sa sn sc la ln lc ta tn tc b) := hRA
 have RC_2 : Hid (RdBd w2 sb sn sd lb ln ld tb tn td b) := hRC
 have A_2 : Hid (X5 w2 w.heap.size (.int .i64 f) (.int .i64 e) (.slice sa sn sc) (.slice la ln lc) (.slice ta tn tc)) := hA
 have C_2 : Hid (X5 w2 w1.heap.size (.int .i64 f) (.int .i64 e) (.slice sb sn sd) (.slice lb ln ld) (.slice tb tn td)) := hC
 have z2 : w1.heap.size + 1 ≤ w2.heap.size := by omega
 clear HB_1 RA_1 RC_1 A_1 hHB hRA hRC hA hC hz
 have hff : (f == f) = true := by simp
 have hee : (e == e) = true := by simp
 go_enter Try.func16, Try.ntmps16
 obtain ⟨⟨Aq0, Aq1, Aq2, Aq3, Aq4⟩, Af⟩ := id (A_2.out)
 clear Af
 obtain ⟨⟨Cq0, Cq1, Cq2, Cq3, Cq4⟩, Cf⟩ := id (C_2.out)
 clear Cf
 go_wp2_with fail
 clear hV1 hV2
 refine (sameRows_c sa sb sn sc sd b.sg _ HS.out hsn HZ.out RA_2.out.s RC_2.out.s).mono ?_
 clear Aq0 Aq1 Aq2 Aq3 Aq4
 clear Cq0 Cq1 Cq2 Cq3 Cq4
 rintro e w3 ⟨rfl, hb⟩
 have hB : Below w2.heap.size w2 w3 := hb
 have HB_3 : Hid (Below w.heap.size w w3) := HB_2.out.trans (hB.mono HB_2.out.size)
 have RA_3 : Hid (RdBd w3 sa sn sc la ln lc ta tn tc b) := RA_2.out.later hB
 have RC_3 : Hid (RdBd w3 sb sn sd lb ln ld tb tn td b) := RC_2.out.later hB
 have A_3 : Hid (X5 w3 w.heap.size (.int .i64 f) (.int .i64 e) (.slice sa sn sc) (.slice la ln lc) (.slice ta tn tc)) := A_2.out.later hB
 have C_3 : Hid (X5 w3 w1.heap.size (.int .i64 f) (.int .i64 e) (.slice sb sn sd) (.slice lb ln ld) (.slice tb tn td)) := C_2.out.later hB
 have z3 : w2.heap.size ≤ w3.heap.size := hB.size
 clear hb hB HB_2 RA_2 RC_2 A_2 C_2
 obtain ⟨⟨Aq0, Aq1, Aq2, Aq3, Aq4⟩, Af⟩ := id (A_3.out)
 clear Af
 obtain ⟨⟨Cq0, Cq1, Cq2, Cq3, Cq4⟩, Cf⟩ := id (C_3.out)
 clear Cf
 go_wp2_with fail
 refine (sameInts_w la lb ln lc ld b.li _ HL.out (by omega) RA_3.out.l RC_3.out.l).mono ?_
 clear Aq0 Aq1 Aq2 Aq3 Aq4
 clear Cq0 Cq1 Cq2 Cq3 Cq4
 rintro e w4 ⟨rfl, hb⟩
 have hB : Below w3.heap.size w3 w4 := hb
 have HB_4 : Hid (Below w.heap.size w w4) := HB_3.out.trans (hB.mono HB_3.out.size)
 have RA_4 : Hid (RdBd w4 sa sn sc la ln lc ta tn tc b) := RA_3.out.later hB
 have RC_4 : Hid (RdBd w4 sb sn sd lb ln ld tb tn td b) := RC_3.out.later hB
 have A_4 : Hid (X5 w4 w.heap.size (.int .i64 f) (.int .i64 e) (.slice sa sn sc) (.slice la ln lc) (.slice ta tn tc)) := A_3.out.later hB
 have C_4 : Hid (X5 w4 w1.heap.size (.int .i64 f) (.int .i64 e) (.slice sb sn sd) (.slice lb ln ld) (.slice tb tn td)) := C_3.out.later hB
 have z4 : w3.heap.size ≤ w4.heap.size := hB.size
 clear hb hB HB_3 RA_3 RC_3 A_3 C_3
 obtain ⟨⟨Aq0, Aq1, Aq2, Aq3, Aq4⟩, Af⟩ := id (A_4.out)
 clear Af
 obtain ⟨⟨Cq0, Cq1, Cq2, Cq3, Cq4⟩, Cf⟩ := id (C_4.out)
 clear Cf
 go_wp2_with fail
 refine (sameInts_w ta tb tn tc td b.ls _ HT.out (by omega) RA_4.out.t RC_4.out.t).mono ?_
 clear Aq0 Aq1 Aq2 Aq3 Aq4
 clear Cq0 Cq1 Cq2 Cq3 Cq4
 rintro e w5 ⟨rfl, hb⟩
 have hB : Below w4.heap.size w4 w5 := hb
 have HB_5 : Hid (Below w.heap.size w w5) := HB_4.out.trans (hB.mono HB_4.out.size)
 have RA_5 : Hid (RdBd w5 sa sn sc la ln lc ta tn tc b) := RA_4.out.later hB
 have RC_5 : Hid (RdBd w5 sb sn sd lb ln ld tb tn td b) := RC_4.out.later hB
 have A_5 : Hid (X5 w5 w.heap.size (.int .i64 f) (.int .i64 e) (.slice sa sn sc) (.slice la ln lc) (.slice ta tn tc)) := A_4.out.later hB
 have C_5 : Hid (X5 w5 w1.heap.size (.int .i64 f) (.int .i64 e) (.slice sb sn sd) (.slice lb ln ld) (.slice tb tn td)) := C_4.out.later hB
 have z5 : w4.heap.size ≤ w5.heap.size := hB.size
 clear hb hB HB_4 RA_4 RC_4 A_4 C_4
 go_wp2
 go_ret
 exact ⟨rfl, HB_5.out⟩

end Go.Proofs.Ytaokmjbhgkfnfaa
