/- The exact laws of chapter 6 that meet the table of squares, walked: where the table is laid each answers true at every argument and turns nothing that was there. -/
import Derived.Test.YtobomcmjilcnaaaDoorC6I
import Derived.Test.YtobomcmjilcnaaaDoorC6S
namespace Go.Proofs.YtobomcmjilcnaaaDoor
set_option linter.unusedVariables false
set_option maxRecDepth 1000000
set_option linter.unusedSimpArgs false
open Go.RowKit

set_option maxHeartbeats 4000000 in
theorem lawKey_c (ao : Option Addr) (n c : Nat) (xs : List Int) (w : World) (hx : xs.length = n) (hm : n ≤ 9223372036854775807) (hr : Rd w ao xs) (ht : Tab w) : Calls Tryd.prog 4 #[.slice ao n c] w fun e w' => e = .returned (.bool true) ∧ Below w.heap.size w w' := by
  by_cases hl : 1048576 < n
  · have hi : (1048576 : Int) < (n : Int) := by omega
    go_enter Tryd.func4, Tryd.ntmps4
    go_wp2
    go_ret
    exact ⟨rfl, Below.refl _ _⟩
  have hn2 : n ≤ 17592186044416 := by omega
  have HX : Hid (xs.length = n) := hx
  clear hx
  have hs := fun wx a' c' h => specKey_c a' n c' xs wx HX.out hn2 h
  have hi := fun wx a' c' h h' => implKey_c a' n c' xs wx HX.out hn2 h h'
  generalize (if secsB xs = true then keyI xs else 0) = p at hs hi
  generalize secsB xs = b at hs hi
  have HS : Hid (∀ wx a' c', Rd wx a' xs → Calls Tryd.prog 16 #[.slice a' n c'] wx fun e w' => e = .returned (.tuple #[.int .i64 p, .bool b]) ∧ w' = wx) := hs
  have HI : Hid (∀ wx a' c', Rd wx a' xs → Tab wx → Calls Tryd.prog 10 #[.slice a' n c'] wx fun e w' => e = .returned (.tuple #[.int .i64 p, .bool b]) ∧ Below wx.heap.size wx w') := hi
  clear hs hi
  have e1 : (p != p) = false := by simp
  have e2 : (b != b) = false := by simp
  go_enter Tryd.func4, Tryd.ntmps4
  have HB_0 : Hid (Below w.heap.size w w) := Below.refl _ _
  have R_0 : Hid (Rd w ao xs) := hr
  have T_0 : Hid (Tab w) := ht
  clear hr ht
  go_wp2_with fail
  refine (toIntS_c ao n c xs _ HX.out hn2 R_0.out).mono ?_
  rintro e w1 ⟨a1, d1, rfl, ho, hb⟩
  have hB : Below w.heap.size w w1 := hb
  have HB_1 : Hid (Below w.heap.size w w1) := HB_0.out.trans (hB.mono HB_0.out.size)
  have R_1 : Hid (Rd w1 ao xs) := R_0.out.later hB
  have T_1 : Hid (Tab w1) := T_0.out.keep hB
  have P_1 : Hid (Own w1 w.heap.size (.slice a1 n d1) xs) := ho
  clear hb hB HB_0 R_0 T_0
  clear ho
  go_wp2_with fail
  refine (HS.out _ a1 d1 P_1.out.rd'.2).mono ?_
  rintro e w' ⟨rfl, hw⟩
  subst w'
  go_wp2_with fail
  refine (toIntS_c ao n c xs _ HX.out hn2 R_1.out).mono ?_
  rintro e w2 ⟨a2, d2, rfl, ho, hb⟩
  have hB : Below w1.heap.size w1 w2 := hb
  have HB_2 : Hid (Below w.heap.size w w2) := HB_1.out.trans (hB.mono HB_1.out.size)
  have R_2 : Hid (Rd w2 ao xs) := R_1.out.later hB
  have T_2 : Hid (Tab w2) := T_1.out.keep hB
  have P_2 : Hid (Own w2 w.heap.size (.slice a1 n d1) xs) := P_1.out.later hB
  have Q_2 : Hid (Own w2 w1.heap.size (.slice a2 n d2) xs) := ho
  clear hb hB HB_1 R_1 T_1 P_1
  clear ho
  go_wp2_with fail
  refine (HI.out _ a2 d2 Q_2.out.rd'.2 T_2.out).mono ?_
  rintro e w3 ⟨rfl, hb⟩
  have hB : Below w2.heap.size w2 w3 := hb
  have HB_3 : Hid (Below w.heap.size w w3) := HB_2.out.trans (hB.mono HB_2.out.size)
  have R_3 : Hid (Rd w3 ao xs) := R_2.out.later hB
  have T_3 : Hid (Tab w3) := T_2.out.keep hB
  have P_3 : Hid (Own w3 w.heap.size (.slice a1 n d1) xs) := P_2.out.later hB
  have Q_3 : Hid (Own w3 w1.heap.size (.slice a2 n d2) xs) := Q_2.out.later hB
  clear hb hB HB_2 R_2 T_2 P_2 Q_2
  go_wp2_with fail
  refine (toIntS_c ao n c xs _ HX.out hn2 R_3.out).mono ?_
  rintro e w4 ⟨a3, d3, rfl, ho, hb⟩
  have hB : Below w3.heap.size w3 w4 := hb
  have HB_4 : Hid (Below w.heap.size w w4) := HB_3.out.trans (hB.mono HB_3.out.size)
  have R_4 : Hid (Rd w4 ao xs) := R_3.out.later hB
  have T_4 : Hid (Tab w4) := T_3.out.keep hB
  have P_4 : Hid (Own w4 w.heap.size (.slice a1 n d1) xs) := P_3.out.later hB
  have Q_4 : Hid (Own w4 w1.heap.size (.slice a2 n d2) xs) := Q_3.out.later hB
  have Y_4 : Hid (Own w4 w3.heap.size (.slice a3 n d3) xs) := ho
  clear hb hB HB_3 R_3 T_3 P_3 Q_3
  clear ho
  go_wp2_with fail
  refine (eqIntS_c a2 a3 n n d2 d3 xs xs _ HX.out HX.out hn2 hn2 Q_4.out.rd'.2 Y_4.out.rd'.2).mono ?_
  rw [decide_eq_true rfl]
  rintro e w5 ⟨rfl, hb⟩
  have hB : Below w4.heap.size w4 w5 := hb
  have HB_5 : Hid (Below w.heap.size w w5) := HB_4.out.trans (hB.mono HB_4.out.size)
  have R_5 : Hid (Rd w5 ao xs) := R_4.out.later hB
  have T_5 : Hid (Tab w5) := T_4.out.keep hB
  have P_5 : Hid (Own w5 w.heap.size (.slice a1 n d1) xs) := P_4.out.later hB
  have Q_5 : Hid (Own w5 w1.heap.size (.slice a2 n d2) xs) := Q_4.out.later hB
  have Y_5 : Hid (Own w5 w3.heap.size (.slice a3 n d3) xs) := Y_4.out.later hB
  clear hb hB HB_4 R_4 T_4 P_4 Q_4 Y_4
  go_wp2
  go_ret
  exact ⟨rfl, HB_5.out⟩

set_option maxHeartbeats 4000000 in
theorem lawVote_c (z0 z1 z2 : Int) (w : World) (ht : Tab w) : Calls Tryd.prog 5 #[.int .i64 z0, .int .i64 z1, .int .i64 z2] w fun e w' => e = .returned (.bool true) ∧ Below w.heap.size w w' := by
  have hs := fun wx => specVote_c z0 z1 z2 wx
  have hi := fun wx h => implVote_c z0 z1 z2 wx h
  generalize voteX z0 z1 z2 = p at hs hi
  generalize voteY z0 z1 z2 = q at hs hi
  generalize voteB z0 z1 z2 = b at hs hi
  have HS : Hid (∀ wx, Calls Tryd.prog 18 #[.int .i64 z0, .int .i64 z1, .int .i64 z2] wx fun e w' => e = .returned (.tuple #[.agg #[.int .i64 p, .int .i64 q], .bool b]) ∧ Below wx.heap.size wx w') := hs
  have HI : Hid (∀ wx, Tab wx → Calls Tryd.prog 11 #[.int .i64 z0, .int .i64 z1, .int .i64 z2] wx fun e w' => e = .returned (.tuple #[.agg #[.int .i64 p, .int .i64 q], .bool b]) ∧ Below wx.heap.size wx w') := hi
  clear hs hi
  have e2 : (b != b) = false := by simp
  go_enter Tryd.func5, Tryd.ntmps5
  have HB_0 : Hid (Below w.heap.size w w) := Below.refl _ _
  have T_0 : Hid (Tab w) := ht
  clear ht
  go_wp2_with fail
  refine (HS.out _).mono ?_
  rintro e w1 ⟨rfl, hb⟩
  have hB : Below w.heap.size w w1 := hb
  have HB_1 : Hid (Below w.heap.size w w1) := HB_0.out.trans (hB.mono HB_0.out.size)
  have T_1 : Hid (Tab w1) := T_0.out.keep hB
  clear hb hB HB_0 T_0
  go_wp2_with fail
  refine (HI.out _ (T_1.out.keep (below_one _ _))).mono ?_
  rintro e w2 ⟨rfl, hb⟩
  have hB : Below w1.heap.size w1 w2 := (below_one _ _).trans (hb.mono (by simp))
  have HB_2 : Hid (Below w.heap.size w w2) := HB_1.out.trans (hB.mono HB_1.out.size)
  have T_2 : Hid (Tab w2) := T_1.out.keep hB
  have A_2 : Hid (C2 w2 (w1.heap.size) p q) := (c2_new w1 p q 31 _ rfl).keep hb
  clear hb hB HB_1 T_1
  obtain ⟨Aa, Ab, Ac, Ad⟩ := A_2.out
  have Al := A_2.out.lt
  go_wp2_with fail
  refine (eqSealed_c p q _).mono ?_
  clear Aa Ab Ac Ad Al
  rintro e w3 ⟨rfl, hb⟩
  have hB : Below w2.heap.size w2 w3 := (below_one _ _).trans (hb.mono (by simp))
  have HB_3 : Hid (Below w.heap.size w w3) := HB_2.out.trans (hB.mono HB_2.out.size)
  have T_3 : Hid (Tab w3) := T_2.out.keep hB
  have A_3 : Hid (C2 w3 (w1.heap.size) p q) := A_2.out.keep hB
  have B_3 : Hid (C2 w3 (w2.heap.size) p q) := (c2_new w2 p q 31 _ rfl).keep hb
  clear hb hB HB_2 T_2 A_2
  go_wp2
  go_ret
  exact ⟨rfl, HB_3.out⟩

set_option maxHeartbeats 8000000 in
theorem lawCount_c (ao : Option Addr) (n c : Nat) (xs : List Int) (bo : Option Addr) (m d : Nat) (ys : List Int) (eo : Option Addr) (r f : Nat) (zs : List Int) (w : World) (hx : xs.length = n) (hm0 : n ≤ 9223372036854775807) (hr0 : Rd w ao xs) (hy : ys.length = m) (hm1 : m ≤ 9223372036854775807) (hr1 : Rd w bo ys) (hz : zs.length = r) (hmr : r ≤ 9223372036854775807) (hrz : Rd w eo zs) (ht : Tab w) : Calls Tryd.prog 6 #[.slice ao n c, .slice bo m d, .slice eo r f] w fun e w' => e = .returned (.bool true) ∧ Below w.heap.size w w' := by
  by_cases hl0 : 1048576 < n
  · have hi : (1048576 : Int) < (n : Int) := by omega
    go_enter Tryd.func6, Tryd.ntmps6
    go_wp2
    go_ret
    exact ⟨rfl, Below.refl _ _⟩
  have hn2 : n ≤ 17592186044416 := by omega
  by_cases hl1 : 1048576 < m
  · have hi : (1048576 : Int) < (m : Int) := by omega
    go_enter Tryd.func6, Tryd.ntmps6
    go_wp2
    go_ret
    exact ⟨rfl, Below.refl _ _⟩
  have hm2 : m ≤ 17592186044416 := by omega
  by_cases hl2 : 1048576 < r
  · have hi : (1048576 : Int) < (r : Int) := by omega
    go_enter Tryd.func6, Tryd.ntmps6
    go_wp2
    go_ret
    exact ⟨rfl, Below.refl _ _⟩
  have hr2 : r ≤ 17592186044416 := by omega
  have HX : Hid (xs.length = n) := hx
  have HY : Hid (ys.length = m) := hy
  have HZ : Hid (zs.length = r) := hz
  clear hx hy hz
  have hs := fun wx a1 d1 a2 d2 a3 d3 h1 h2 h3 => specCount_c a1 n d1 xs a2 m d2 ys a3 r d3 zs wx HX.out HY.out HZ.out hn2 hm2 hr2 h1 h2 h3
  have hi := fun wx a1 d1 a2 d2 a3 d3 h1 h2 h3 h4 => implCount_c a1 n d1 xs a2 m d2 ys a3 r d3 zs wx HX.out HY.out HZ.out hn2 hm2 hr2 h1 h2 h3 h4
  generalize countI xs ys zs = p at hs hi
  generalize countB xs ys zs = b at hs hi
  have HS : Hid (∀ wx a1 d1 a2 d2 a3 d3, Rd wx a1 xs → Rd wx a2 ys → Rd wx a3 zs → Calls Tryd.prog 9 #[.slice a1 n d1, .slice a2 m d2, .slice a3 r d3] wx fun e w' => e = .returned (.tuple #[.int .i64 p, .bool b]) ∧ Below wx.heap.size wx w') := hs
  have HI : Hid (∀ wx a1 d1 a2 d2 a3 d3, Rd wx a1 xs → Rd wx a2 ys → Rd wx a3 zs → Tab wx → Calls Tryd.prog 8 #[.slice a1 n d1, .slice a2 m d2, .slice a3 r d3] wx fun e w' => e = .returned (.tuple #[.int .i64 p, .bool b]) ∧ Below wx.heap.size wx w') := hi
  clear hs hi
  have e1 : (p != p) = false := by simp
  have e2 : (b != b) = false := by simp
  go_enter Tryd.func6, Tryd.ntmps6
  have HB_0 : Hid (Below w.heap.size w w) := Below.refl _ _
  have R0_0 : Hid (Rd w ao xs) := hr0
  have R1_0 : Hid (Rd w bo ys) := hr1
  have R2_0 : Hid (Rd w eo zs) := hrz
  have T_0 : Hid (Tab w) := ht
  clear hr0 hr1 hrz ht
  go_wp2_with fail
  refine (toIntS_c ao n c xs _ HX.out hn2 R0_0.out).mono ?_
  rintro e w1 ⟨a1, d1, rfl, ho, hb⟩
  have hB : Below w.heap.size w w1 := hb
  have HB_1 : Hid (Below w.heap.size w w1) := HB_0.out.trans (hB.mono HB_0.out.size)
  have R0_1 : Hid (Rd w1 ao xs) := R0_0.out.later hB
  have R1_1 : Hid (Rd w1 bo ys) := R1_0.out.later hB
  have R2_1 : Hid (Rd w1 eo zs) := R2_0.out.later hB
  have T_1 : Hid (Tab w1) := T_0.out.keep hB
  have P0_1 : Hid (Own w1 w.heap.size (.slice a1 n d1) xs) := ho
  clear hb hB HB_0 R0_0 R1_0 R2_0 T_0
  clear ho
  go_wp2_with fail
  refine (toIntS_c bo m d ys _ HY.out hm2 R1_1.out).mono ?_
  rintro e w2 ⟨a2, d2, rfl, ho, hb⟩
  have hB : Below w1.heap.size w1 w2 := hb
  have HB_2 : Hid (Below w.heap.size w w2) := HB_1.out.trans (hB.mono HB_1.out.size)
  have R0_2 : Hid (Rd w2 ao xs) := R0_1.out.later hB
  have R1_2 : Hid (Rd w2 bo ys) := R1_1.out.later hB
  have R2_2 : Hid (Rd w2 eo zs) := R2_1.out.later hB
  have T_2 : Hid (Tab w2) := T_1.out.keep hB
  have P0_2 : Hid (Own w2 w.heap.size (.slice a1 n d1) xs) := P0_1.out.later hB
  have P1_2 : Hid (Own w2 w1.heap.size (.slice a2 m d2) ys) := ho
  clear hb hB HB_1 R0_1 R1_1 R2_1 T_1 P0_1
  clear ho
  go_wp2_with fail
  refine (toIntS_c eo r f zs _ HZ.out hr2 R2_2.out).mono ?_
  rintro e w3 ⟨a3, d3, rfl, ho, hb⟩
  have hB : Below w2.heap.size w2 w3 := hb
  have HB_3 : Hid (Below w.heap.size w w3) := HB_2.out.trans (hB.mono HB_2.out.size)
  have R0_3 : Hid (Rd w3 ao xs) := R0_2.out.later hB
  have R1_3 : Hid (Rd w3 bo ys) := R1_2.out.later hB
  have R2_3 : Hid (Rd w3 eo zs) := R2_2.out.later hB
  have T_3 : Hid (Tab w3) := T_2.out.keep hB
  have P0_3 : Hid (Own w3 w.heap.size (.slice a1 n d1) xs) := P0_2.out.later hB
  have P1_3 : Hid (Own w3 w1.heap.size (.slice a2 m d2) ys) := P1_2.out.later hB
  have P2_3 : Hid (Own w3 w2.heap.size (.slice a3 r d3) zs) := ho
  clear hb hB HB_2 R0_2 R1_2 R2_2 T_2 P0_2 P1_2
  clear ho
  go_wp2_with fail
  refine (HS.out _ a1 d1 a2 d2 a3 d3 P0_3.out.rd'.2 P1_3.out.rd'.2 P2_3.out.rd'.2).mono ?_
  rintro e w4 ⟨rfl, hb⟩
  have hB : Below w3.heap.size w3 w4 := hb
  have HB_4 : Hid (Below w.heap.size w w4) := HB_3.out.trans (hB.mono HB_3.out.size)
  have R0_4 : Hid (Rd w4 ao xs) := R0_3.out.later hB
  have R1_4 : Hid (Rd w4 bo ys) := R1_3.out.later hB
  have R2_4 : Hid (Rd w4 eo zs) := R2_3.out.later hB
  have T_4 : Hid (Tab w4) := T_3.out.keep hB
  clear hb hB HB_3 R0_3 R1_3 R2_3 T_3 P0_3 P1_3 P2_3
  go_wp2_with fail
  refine (toIntS_c ao n c xs _ HX.out hn2 R0_4.out).mono ?_
  rintro e w5 ⟨a4, d4, rfl, ho, hb⟩
  have hB : Below w4.heap.size w4 w5 := hb
  have HB_5 : Hid (Below w.heap.size w w5) := HB_4.out.trans (hB.mono HB_4.out.size)
  have R0_5 : Hid (Rd w5 ao xs) := R0_4.out.later hB
  have R1_5 : Hid (Rd w5 bo ys) := R1_4.out.later hB
  have R2_5 : Hid (Rd w5 eo zs) := R2_4.out.later hB
  have T_5 : Hid (Tab w5) := T_4.out.keep hB
  have Q0_5 : Hid (Own w5 w4.heap.size (.slice a4 n d4) xs) := ho
  clear hb hB HB_4 R0_4 R1_4 R2_4 T_4
  clear ho
  go_wp2_with fail
  refine (toIntS_c bo m d ys _ HY.out hm2 R1_5.out).mono ?_
  rintro e w6 ⟨a5, d5, rfl, ho, hb⟩
  have hB : Below w5.heap.size w5 w6 := hb
  have HB_6 : Hid (Below w.heap.size w w6) := HB_5.out.trans (hB.mono HB_5.out.size)
  have R0_6 : Hid (Rd w6 ao xs) := R0_5.out.later hB
  have R1_6 : Hid (Rd w6 bo ys) := R1_5.out.later hB
  have R2_6 : Hid (Rd w6 eo zs) := R2_5.out.later hB
  have T_6 : Hid (Tab w6) := T_5.out.keep hB
  have Q0_6 : Hid (Own w6 w4.heap.size (.slice a4 n d4) xs) := Q0_5.out.later hB
  have Q1_6 : Hid (Own w6 w5.heap.size (.slice a5 m d5) ys) := ho
  clear hb hB HB_5 R0_5 R1_5 R2_5 T_5 Q0_5
  clear ho
  go_wp2_with fail
  refine (toIntS_c eo r f zs _ HZ.out hr2 R2_6.out).mono ?_
  rintro e w7 ⟨a6, d6, rfl, ho, hb⟩
  have hB : Below w6.heap.size w6 w7 := hb
  have HB_7 : Hid (Below w.heap.size w w7) := HB_6.out.trans (hB.mono HB_6.out.size)
  have R0_7 : Hid (Rd w7 ao xs) := R0_6.out.later hB
  have R1_7 : Hid (Rd w7 bo ys) := R1_6.out.later hB
  have R2_7 : Hid (Rd w7 eo zs) := R2_6.out.later hB
  have T_7 : Hid (Tab w7) := T_6.out.keep hB
  have Q0_7 : Hid (Own w7 w4.heap.size (.slice a4 n d4) xs) := Q0_6.out.later hB
  have Q1_7 : Hid (Own w7 w5.heap.size (.slice a5 m d5) ys) := Q1_6.out.later hB
  have Q2_7 : Hid (Own w7 w6.heap.size (.slice a6 r d6) zs) := ho
  clear hb hB HB_6 R0_6 R1_6 R2_6 T_6 Q0_6 Q1_6
  clear ho
  go_wp2_with fail
  refine (HI.out _ a4 d4 a5 d5 a6 d6 Q0_7.out.rd'.2 Q1_7.out.rd'.2 Q2_7.out.rd'.2 T_7.out).mono ?_
  rintro e w8 ⟨rfl, hb⟩
  have hB : Below w7.heap.size w7 w8 := hb
  have HB_8 : Hid (Below w.heap.size w w8) := HB_7.out.trans (hB.mono HB_7.out.size)
  have R0_8 : Hid (Rd w8 ao xs) := R0_7.out.later hB
  have R1_8 : Hid (Rd w8 bo ys) := R1_7.out.later hB
  have R2_8 : Hid (Rd w8 eo zs) := R2_7.out.later hB
  have T_8 : Hid (Tab w8) := T_7.out.keep hB
  have Q0_8 : Hid (Own w8 w4.heap.size (.slice a4 n d4) xs) := Q0_7.out.later hB
  have Q1_8 : Hid (Own w8 w5.heap.size (.slice a5 m d5) ys) := Q1_7.out.later hB
  have Q2_8 : Hid (Own w8 w6.heap.size (.slice a6 r d6) zs) := Q2_7.out.later hB
  clear hb hB HB_7 R0_7 R1_7 R2_7 T_7 Q0_7 Q1_7 Q2_7
  go_wp2_with fail
  refine (toIntS_c ao n c xs _ HX.out hn2 R0_8.out).mono ?_
  rintro e w9 ⟨a7, d7, rfl, ho, hb⟩
  have hB : Below w8.heap.size w8 w9 := hb
  have HB_9 : Hid (Below w.heap.size w w9) := HB_8.out.trans (hB.mono HB_8.out.size)
  have R0_9 : Hid (Rd w9 ao xs) := R0_8.out.later hB
  have R1_9 : Hid (Rd w9 bo ys) := R1_8.out.later hB
  have R2_9 : Hid (Rd w9 eo zs) := R2_8.out.later hB
  have T_9 : Hid (Tab w9) := T_8.out.keep hB
  have Q0_9 : Hid (Own w9 w4.heap.size (.slice a4 n d4) xs) := Q0_8.out.later hB
  have Q1_9 : Hid (Own w9 w5.heap.size (.slice a5 m d5) ys) := Q1_8.out.later hB
  have Q2_9 : Hid (Own w9 w6.heap.size (.slice a6 r d6) zs) := Q2_8.out.later hB
  have Y0_9 : Hid (Own w9 w8.heap.size (.slice a7 n d7) xs) := ho
  clear hb hB HB_8 R0_8 R1_8 R2_8 T_8 Q0_8 Q1_8 Q2_8
  clear ho
  go_wp2_with fail
  refine (eqIntS_c a4 a7 n n d4 d7 xs xs _ HX.out HX.out hn2 hn2 Q0_9.out.rd'.2 Y0_9.out.rd'.2).mono ?_
  rw [decide_eq_true rfl]
  rintro e w10 ⟨rfl, hb⟩
  have hB : Below w9.heap.size w9 w10 := hb
  have HB_10 : Hid (Below w.heap.size w w10) := HB_9.out.trans (hB.mono HB_9.out.size)
  have R0_10 : Hid (Rd w10 ao xs) := R0_9.out.later hB
  have R1_10 : Hid (Rd w10 bo ys) := R1_9.out.later hB
  have R2_10 : Hid (Rd w10 eo zs) := R2_9.out.later hB
  have T_10 : Hid (Tab w10) := T_9.out.keep hB
  have Q0_10 : Hid (Own w10 w4.heap.size (.slice a4 n d4) xs) := Q0_9.out.later hB
  have Q1_10 : Hid (Own w10 w5.heap.size (.slice a5 m d5) ys) := Q1_9.out.later hB
  have Q2_10 : Hid (Own w10 w6.heap.size (.slice a6 r d6) zs) := Q2_9.out.later hB
  clear hb hB HB_9 R0_9 R1_9 R2_9 T_9 Q0_9 Q1_9 Q2_9 Y0_9
  go_wp2_with fail
  refine (toIntS_c bo m d ys _ HY.out hm2 R1_10.out).mono ?_
  rintro e w11 ⟨a8, d8, rfl, ho, hb⟩
  have hB : Below w10.heap.size w10 w11 := hb
  have HB_11 : Hid (Below w.heap.size w w11) := HB_10.out.trans (hB.mono HB_10.out.size)
  have R0_11 : Hid (Rd w11 ao xs) := R0_10.out.later hB
  have R1_11 : Hid (Rd w11 bo ys) := R1_10.out.later hB
  have R2_11 : Hid (Rd w11 eo zs) := R2_10.out.later hB
  have T_11 : Hid (Tab w11) := T_10.out.keep hB
  have Q0_11 : Hid (Own w11 w4.heap.size (.slice a4 n d4) xs) := Q0_10.out.later hB
  have Q1_11 : Hid (Own w11 w5.heap.size (.slice a5 m d5) ys) := Q1_10.out.later hB
  have Q2_11 : Hid (Own w11 w6.heap.size (.slice a6 r d6) zs) := Q2_10.out.later hB
  have Y1_11 : Hid (Own w11 w10.heap.size (.slice a8 m d8) ys) := ho
  clear hb hB HB_10 R0_10 R1_10 R2_10 T_10 Q0_10 Q1_10 Q2_10
  clear ho
  go_wp2_with fail
  refine (eqIntS_c a5 a8 m m d5 d8 ys ys _ HY.out HY.out hm2 hm2 Q1_11.out.rd'.2 Y1_11.out.rd'.2).mono ?_
  rw [decide_eq_true rfl]
  rintro e w12 ⟨rfl, hb⟩
  have hB : Below w11.heap.size w11 w12 := hb
  have HB_12 : Hid (Below w.heap.size w w12) := HB_11.out.trans (hB.mono HB_11.out.size)
  have R0_12 : Hid (Rd w12 ao xs) := R0_11.out.later hB
  have R1_12 : Hid (Rd w12 bo ys) := R1_11.out.later hB
  have R2_12 : Hid (Rd w12 eo zs) := R2_11.out.later hB
  have T_12 : Hid (Tab w12) := T_11.out.keep hB
  have Q0_12 : Hid (Own w12 w4.heap.size (.slice a4 n d4) xs) := Q0_11.out.later hB
  have Q1_12 : Hid (Own w12 w5.heap.size (.slice a5 m d5) ys) := Q1_11.out.later hB
  have Q2_12 : Hid (Own w12 w6.heap.size (.slice a6 r d6) zs) := Q2_11.out.later hB
  clear hb hB HB_11 R0_11 R1_11 R2_11 T_11 Q0_11 Q1_11 Q2_11 Y1_11
  go_wp2_with fail
  refine (toIntS_c eo r f zs _ HZ.out hr2 R2_12.out).mono ?_
  rintro e w13 ⟨a9, d9, rfl, ho, hb⟩
  have hB : Below w12.heap.size w12 w13 := hb
  have HB_13 : Hid (Below w.heap.size w w13) := HB_12.out.trans (hB.mono HB_12.out.size)
  have R0_13 : Hid (Rd w13 ao xs) := R0_12.out.later hB
  have R1_13 : Hid (Rd w13 bo ys) := R1_12.out.later hB
  have R2_13 : Hid (Rd w13 eo zs) := R2_12.out.later hB
  have T_13 : Hid (Tab w13) := T_12.out.keep hB
  have Q0_13 : Hid (Own w13 w4.heap.size (.slice a4 n d4) xs) := Q0_12.out.later hB
  have Q1_13 : Hid (Own w13 w5.heap.size (.slice a5 m d5) ys) := Q1_12.out.later hB
  have Q2_13 : Hid (Own w13 w6.heap.size (.slice a6 r d6) zs) := Q2_12.out.later hB
  have Y2_13 : Hid (Own w13 w12.heap.size (.slice a9 r d9) zs) := ho
  clear hb hB HB_12 R0_12 R1_12 R2_12 T_12 Q0_12 Q1_12 Q2_12
  clear ho
  go_wp2_with fail
  refine (eqIntS_c a6 a9 r r d6 d9 zs zs _ HZ.out HZ.out hr2 hr2 Q2_13.out.rd'.2 Y2_13.out.rd'.2).mono ?_
  rw [decide_eq_true rfl]
  rintro e w14 ⟨rfl, hb⟩
  have hB : Below w13.heap.size w13 w14 := hb
  have HB_14 : Hid (Below w.heap.size w w14) := HB_13.out.trans (hB.mono HB_13.out.size)
  have R0_14 : Hid (Rd w14 ao xs) := R0_13.out.later hB
  have R1_14 : Hid (Rd w14 bo ys) := R1_13.out.later hB
  have R2_14 : Hid (Rd w14 eo zs) := R2_13.out.later hB
  have T_14 : Hid (Tab w14) := T_13.out.keep hB
  have Q0_14 : Hid (Own w14 w4.heap.size (.slice a4 n d4) xs) := Q0_13.out.later hB
  have Q1_14 : Hid (Own w14 w5.heap.size (.slice a5 m d5) ys) := Q1_13.out.later hB
  have Q2_14 : Hid (Own w14 w6.heap.size (.slice a6 r d6) zs) := Q2_13.out.later hB
  clear hb hB HB_13 R0_13 R1_13 R2_13 T_13 Q0_13 Q1_13 Q2_13 Y2_13
  go_wp2
  go_ret
  exact ⟨rfl, HB_14.out⟩

end Go.Proofs.YtobomcmjilcnaaaDoor
