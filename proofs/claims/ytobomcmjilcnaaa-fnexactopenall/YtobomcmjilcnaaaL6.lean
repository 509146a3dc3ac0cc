/- The exact laws of chapter 6 that meet no table, walked: each answers true at every argument and turns nothing that was there. -/
import Derived.Test.YtobomcmjilcnaaaI6O
import Derived.Deep.RegionHeld3
namespace Go.Proofs.Ytobomcmjilcnaaa
set_option linter.unusedVariables false
set_option maxRecDepth 1000000
set_option linter.unusedSimpArgs false
open Go.RowKit

theorem lawLog_c (m most : Int) (w : World) : Calls Try.prog 7 #[.int .i64 m, .int .i64 most] w fun e w' => e = .returned (.bool true) ∧ Below w.heap.size w w' := by
  have hs := fun wx => specLog_c m most wx
  have hi := fun wx => implLog_c m most wx
  generalize logI m most = p at hs hi
  generalize logB m most = b at hs hi
  have e1 : (p != p) = false := by simp
  have e2 : (b != b) = false := by simp
  go_enter Try.func7, Try.ntmps7
  go_wp2_with fail
  refine (hs _).mono ?_
  clear hs
  rintro e w' ⟨rfl, hw⟩
  subst w'
  go_wp2_with fail
  refine (hi _).mono ?_
  clear hi
  rintro e w' ⟨rfl, hw⟩
  subst w'
  go_wp2
  go_ret
  exact ⟨rfl, Below.refl _ _⟩

set_option maxHeartbeats 2000000 in
theorem lawPart_c (s x y : Int) (w : World) : Calls Try.prog 5 #[.int .i64 s, .agg #[.int .i64 x, .int .i64 y]] w fun e w' => e = .returned (.bool true) ∧ Below w.heap.size w w' := by
  have hs := fun wx => specPart_c s x y wx
  have hi := fun wx => implPart_c s x y wx
  generalize partI s x y = p at hs hi
  generalize openB s x y = b at hs hi
  have HS : Hid (∀ wx, Calls Try.prog 24 #[.int .i64 s, .agg #[.int .i64 x, .int .i64 y]] wx fun e w' => e = .returned (.tuple #[.int .i64 p, .bool b]) ∧ Below wx.heap.size wx w') := hs
  have HI : Hid (∀ wx, Calls Try.prog 23 #[.int .i64 s, .agg #[.int .i64 x, .int .i64 y]] wx fun e w' => e = .returned (.tuple #[.int .i64 p, .bool b]) ∧ Below wx.heap.size wx w') := hi
  clear hs hi
  have e1 : (p != p) = false := by simp
  have e2 : (b != b) = false := by simp
  go_enter Try.func5, Try.ntmps5
  have HB_0 : Hid (Below w.heap.size w w) := Below.refl _ _
  go_wp2_with fail
  refine (toSealed_c x y _).mono ?_
  rintro e w1 ⟨rfl, hb⟩
  have hB : Below w.heap.size w w1 := (below_one _ _).trans (hb.mono (by simp))
  have HB_1 : Hid (Below w.heap.size w w1) := HB_0.out.trans (hB.mono HB_0.out.size)
  have X_1 : Hid (C2 w1 (w.heap.size) x y) := (c2_new w x y 50 _ rfl).keep hb
  clear hb hB HB_0
  go_wp2_with fail
  refine (HS.out _).mono ?_
  rintro e w2 ⟨rfl, hb⟩
  have hB : Below w1.heap.size w1 w2 := hb
  have HB_2 : Hid (Below w.heap.size w w2) := HB_1.out.trans (hB.mono HB_1.out.size)
  have X_2 : Hid (C2 w2 (w.heap.size) x y) := X_1.out.keep hB
  clear hb hB HB_1 X_1
  obtain ⟨Xa, Xb, Xc, Xd⟩ := X_2.out
  have Xl := X_2.out.lt
  go_wp2_with fail
  refine (toSealed_c x y _).mono ?_
  clear Xa Xb Xc Xd Xl
  rintro e w3 ⟨rfl, hb⟩
  have hB : Below w2.heap.size w2 w3 := hb
  have HB_3 : Hid (Below w.heap.size w w3) := HB_2.out.trans (hB.mono HB_2.out.size)
  have X_3 : Hid (C2 w3 (w.heap.size) x y) := X_2.out.keep hB
  clear hb hB HB_2 X_2
  go_wp2_with fail
  refine (HI.out _).mono ?_
  rintro e w4 ⟨rfl, hb⟩
  have hB : Below w3.heap.size w3 w4 := hb
  have HB_4 : Hid (Below w.heap.size w w4) := HB_3.out.trans (hB.mono HB_3.out.size)
  have X_4 : Hid (C2 w4 (w.heap.size) x y) := X_3.out.keep hB
  clear hb hB HB_3 X_3
  go_wp2
  go_ret
  exact ⟨rfl, HB_4.out⟩

set_option maxHeartbeats 4000000 in
theorem lawSum_c (x y : Int) (ao : Option Addr) (n c : Nat) (xs : List Int) (most : Int) (w : World) (hx : xs.length = n) (hm : n ≤ 9223372036854775807) (hr : Rd w ao xs) : Calls Try.prog 6 #[.agg #[.int .i64 x, .int .i64 y], .slice ao n c, .int .i64 most] w fun e w' => e = .returned (.bool true) ∧ Below w.heap.size w w' := by
  by_cases hl : 1048576 < n
  · have hi : (1048576 : Int) < (n : Int) := by omega
    go_enter Try.func6, Try.ntmps6
    go_wp2
    go_ret
    exact ⟨rfl, below_one _ _⟩
  have hn2 : n ≤ 17592186044416 := by omega
  have HX : Hid (xs.length = n) := hx
  clear hx
  have hs := fun wx a' c' h => specSum_c x y a' n c' xs most wx HX.out hn2 h
  have hi := fun wx a' c' h => implSum_c x y a' n c' xs most wx HX.out hn2 h
  generalize sumI x y xs most = p at hs hi
  generalize sumB x y xs most = b at hs hi
  have HS : Hid (∀ wx a' c', Rd wx a' xs → Calls Try.prog 15 #[.agg #[.int .i64 x, .int .i64 y], .slice a' n c', .int .i64 most] wx fun e w' => e = .returned (.tuple #[.int .i64 p, .bool b]) ∧ Below wx.heap.size wx w') := hs
  have HI : Hid (∀ wx a' c', Rd wx a' xs → Calls Try.prog 14 #[.agg #[.int .i64 x, .int .i64 y], .slice a' n c', .int .i64 most] wx fun e w' => e = .returned (.tuple #[.int .i64 p, .bool b]) ∧ Below wx.heap.size wx w') := hi
  clear hs hi
  have e1 : (p != p) = false := by simp
  have e2 : (b != b) = false := by simp
  go_enter Try.func6, Try.ntmps6
  have HB_0 : Hid (Below w.heap.size w w) := Below.refl _ _
  have R_0 : Hid (Rd w ao xs) := hr
  clear hr
  go_wp2_with fail
  refine (toSealed_c x y _).mono ?_
  rintro e w1 ⟨rfl, hb⟩
  have hB : Below w.heap.size w w1 := (below_one _ _).trans (hb.mono (by simp))
  have HB_1 : Hid (Below w.heap.size w w1) := HB_0.out.trans (hB.mono HB_0.out.size)
  have R_1 : Hid (Rd w1 ao xs) := R_0.out.later hB
  have X_1 : Hid (C2 w1 (w.heap.size) x y) := (c2_new w x y 50 _ rfl).keep hb
  clear hb hB HB_0 R_0
  go_wp2_with fail
  refine (toIntS_c ao n c xs _ HX.out hn2 R_1.out).mono ?_
  rintro e w2 ⟨a1, d1, rfl, ho, hb⟩
  have hB : Below w1.heap.size w1 w2 := hb
  have HB_2 : Hid (Below w.heap.size w w2) := HB_1.out.trans (hB.mono HB_1.out.size)
  have R_2 : Hid (Rd w2 ao xs) := R_1.out.later hB
  have X_2 : Hid (C2 w2 (w.heap.size) x y) := X_1.out.keep hB
  have P_2 : Hid (Own w2 w1.heap.size (.slice a1 n d1) xs) := ho
  clear hb hB HB_1 R_1 X_1
  clear ho
  go_wp2_with fail
  refine (HS.out _ a1 d1 P_2.out.rd'.2).mono ?_
  rintro e w3 ⟨rfl, hb⟩
  have hB : Below w2.heap.size w2 w3 := hb
  have HB_3 : Hid (Below w.heap.size w w3) := HB_2.out.trans (hB.mono HB_2.out.size)
  have R_3 : Hid (Rd w3 ao xs) := R_2.out.later hB
  have X_3 : Hid (C2 w3 (w.heap.size) x y) := X_2.out.keep hB
  clear hb hB HB_2 R_2 X_2 P_2
  go_wp2_with fail
  refine (toIntS_c ao n c xs _ HX.out hn2 R_3.out).mono ?_
  rintro e w4 ⟨a2, d2, rfl, ho, hb⟩
  have hB : Below w3.heap.size w3 w4 := hb
  have HB_4 : Hid (Below w.heap.size w w4) := HB_3.out.trans (hB.mono HB_3.out.size)
  have R_4 : Hid (Rd w4 ao xs) := R_3.out.later hB
  have X_4 : Hid (C2 w4 (w.heap.size) x y) := X_3.out.keep hB
  have Q_4 : Hid (Own w4 w3.heap.size (.slice a2 n d2) xs) := ho
  clear hb hB HB_3 R_3 X_3
  clear ho
  obtain ⟨Xa, Xb, Xc, Xd⟩ := X_4.out
  have Xl := X_4.out.lt
  go_wp2_with fail
  refine (toSealed_c x y _).mono ?_
  clear Xa Xb Xc Xd Xl
  rintro e w5 ⟨rfl, hb⟩
  have hB : Below w4.heap.size w4 w5 := hb
  have HB_5 : Hid (Below w.heap.size w w5) := HB_4.out.trans (hB.mono HB_4.out.size)
  have R_5 : Hid (Rd w5 ao xs) := R_4.out.later hB
  have X_5 : Hid (C2 w5 (w.heap.size) x y) := X_4.out.keep hB
  have Q_5 : Hid (Own w5 w3.heap.size (.slice a2 n d2) xs) := Q_4.out.later hB
  clear hb hB HB_4 R_4 X_4 Q_4
  go_wp2_with fail
  refine (HI.out _ a2 d2 Q_5.out.rd'.2).mono ?_
  rintro e w6 ⟨rfl, hb⟩
  have hB : Below w5.heap.size w5 w6 := hb
  have HB_6 : Hid (Below w.heap.size w w6) := HB_5.out.trans (hB.mono HB_5.out.size)
  have R_6 : Hid (Rd w6 ao xs) := R_5.out.later hB
  have X_6 : Hid (C2 w6 (w.heap.size) x y) := X_5.out.keep hB
  have Q_6 : Hid (Own w6 w3.heap.size (.slice a2 n d2) xs) := Q_5.out.later hB
  clear hb hB HB_5 R_5 X_5 Q_5
  go_wp2_with fail
  refine (toIntS_c ao n c xs _ HX.out hn2 R_6.out).mono ?_
  rintro e w7 ⟨a3, d3, rfl, ho, hb⟩
  have hB : Below w6.heap.size w6 w7 := hb
  have HB_7 : Hid (Below w.heap.size w w7) := HB_6.out.trans (hB.mono HB_6.out.size)
  have R_7 : Hid (Rd w7 ao xs) := R_6.out.later hB
  have X_7 : Hid (C2 w7 (w.heap.size) x y) := X_6.out.keep hB
  have Q_7 : Hid (Own w7 w3.heap.size (.slice a2 n d2) xs) := Q_6.out.later hB
  have Y_7 : Hid (Own w7 w6.heap.size (.slice a3 n d3) xs) := ho
  clear hb hB HB_6 R_6 X_6 Q_6
  clear ho
  go_wp2_with fail
  refine (eqIntS_c a2 a3 n n d2 d3 xs xs _ HX.out HX.out hn2 hn2 Q_7.out.rd'.2 Y_7.out.rd'.2).mono ?_
  rw [decide_eq_true rfl]
  rintro e w8 ⟨rfl, hb⟩
  have hB : Below w7.heap.size w7 w8 := hb
  have HB_8 : Hid (Below w.heap.size w w8) := HB_7.out.trans (hB.mono HB_7.out.size)
  have R_8 : Hid (Rd w8 ao xs) := R_7.out.later hB
  have X_8 : Hid (C2 w8 (w.heap.size) x y) := X_7.out.keep hB
  have Q_8 : Hid (Own w8 w3.heap.size (.slice a2 n d2) xs) := Q_7.out.later hB
  have Y_8 : Hid (Own w8 w6.heap.size (.slice a3 n d3) xs) := Y_7.out.later hB
  clear hb hB HB_7 R_7 X_7 Q_7 Y_7
  go_wp2
  go_ret
  exact ⟨rfl, HB_8.out⟩

set_option maxHeartbeats 4000000 in
theorem lawVotes_c (ao : Option Addr) (n c : Nat) (xs : List (Int × Int)) (w : World) (hx : xs.length = n) (hm : n ≤ 9223372036854775807) (hr : RdP w ao xs) : Calls Try.prog 4 #[.slice ao n c] w fun e w' => e = .returned (.bool true) ∧ Below w.heap.size w w' := by
  have HX : Hid (xs.length = n) := hx
  clear hx
  have hs := fun (h2 : n ≤ 17592186044416) wx a' c' h => specVotes_c a' n c' xs wx HX.out h2 h
  have hi := fun (h2 : n ≤ 17592186044416) wx a' c' h => implVotes_c a' n c' xs wx HX.out h2 h
  generalize addXI xs = p at hs hi
  generalize addYI xs = q at hs hi
  generalize addB xs = b at hs hi
  have e2 : (b != b) = false := by simp
  go_enter Try.func4, Try.ntmps4
  go_wp2_with fail
  refine (szSealedS_c ao n c 1048576 w hm (by omega)).mono ?_
  rintro e w' ⟨rs, rfl, hw, hr1, hr2⟩
  subst w'
  by_cases hr0 : rs < 0
  · go_wp2
    go_ret
    exact ⟨rfl, Below.refl _ _⟩
  obtain ⟨lq, rfl⟩ : ∃ lq : Nat, rs = (lq : Int) := ⟨rs.toNat, by omega⟩
  have hn1 : n ≤ 1048576 := (hr2 (by omega)).1
  have hlr : ¬ (lq : Int) < 0 := by omega
  clear hr1 hr2 hr0
  have hn2 : n ≤ 8796093022208 := by omega
  have HS : Hid (∀ wx a' c', RdP wx a' xs → Calls Try.prog 21 #[.slice a' n c'] wx fun e w' => e = .returned (.tuple #[.agg #[.int .i64 p, .int .i64 q], .bool b]) ∧ Below wx.heap.size wx w') := hs (by omega)
  have HI : Hid (∀ wx a' c', RdP wx a' xs → Calls Try.prog 20 #[.slice a' n c'] wx fun e w' => e = .returned (.tuple #[.agg #[.int .i64 p, .int .i64 q], .bool b]) ∧ Below wx.heap.size wx w') := hi (by omega)
  clear hs hi
  have HB_0 : Hid (Below w.heap.size w w) := Below.refl _ _
  have R_0 : Hid (RdP w ao xs) := hr
  clear hr
  go_wp2_with fail
  refine (toSealedS_c ao n c xs _ HX.out hn2 R_0.out).mono ?_
  rintro e w1 ⟨a1, d1, rfl, ho, hb⟩
  have hB : Below w.heap.size w w1 := hb
  have HB_1 : Hid (Below w.heap.size w w1) := HB_0.out.trans (hB.mono HB_0.out.size)
  have R_1 : Hid (RdP w1 ao xs) := R_0.out.later hB
  have P_1 : Hid (OwnP w1 w.heap.size (.slice a1 n d1) xs) := ho
  clear hb hB HB_0 R_0
  clear ho
  go_wp2_with fail
  refine (HS.out _ a1 d1 P_1.out.rd'.2).mono ?_
  rintro e w2 ⟨rfl, hb⟩
  have hB : Below w1.heap.size w1 w2 := hb
  have HB_2 : Hid (Below w.heap.size w w2) := HB_1.out.trans (hB.mono HB_1.out.size)
  have R_2 : Hid (RdP w2 ao xs) := R_1.out.later hB
  clear hb hB HB_1 R_1 P_1
  go_wp2_with fail
  refine (toSealedS_c ao n c xs _ HX.out hn2 (R_2.out.later (below_one _ _))).mono ?_
  rintro e w3 ⟨a2, d2, rfl, ho, hb⟩
  have hB : Below w2.heap.size w2 w3 := (below_one _ _).trans (hb.mono (by simp))
  have HB_3 : Hid (Below w.heap.size w w3) := HB_2.out.trans (hB.mono HB_2.out.size)
  have R_3 : Hid (RdP w3 ao xs) := R_2.out.later hB
  have A_3 : Hid (C2 w3 (w2.heap.size) p q) := (c2_new w2 p q 25 _ rfl).keep hb
  have Q_3 : Hid (OwnP w3 w2.heap.size (.slice a2 n d2) xs) := ho.mono (by simp)
  clear hb hB HB_2 R_2
  clear ho
  go_wp2_with fail
  refine (HI.out _ a2 d2 Q_3.out.rd'.2).mono ?_
  rintro e w4 ⟨rfl, hb⟩
  have hB : Below w3.heap.size w3 w4 := hb
  have HB_4 : Hid (Below w.heap.size w w4) := HB_3.out.trans (hB.mono HB_3.out.size)
  have R_4 : Hid (RdP w4 ao xs) := R_3.out.later hB
  have A_4 : Hid (C2 w4 (w2.heap.size) p q) := A_3.out.keep hB
  have Q_4 : Hid (OwnP w4 w2.heap.size (.slice a2 n d2) xs) := Q_3.out.later hB
  clear hb hB HB_3 R_3 A_3 Q_3
  obtain ⟨Aa, Ab, Ac, Ad⟩ := A_4.out
  have Al := A_4.out.lt
  go_wp2_with fail
  refine (eqSealed_c p q _).mono ?_
  clear Aa Ab Ac Ad Al
  rintro e w5 ⟨rfl, hb⟩
  have hB : Below w4.heap.size w4 w5 := (below_one _ _).trans (hb.mono (by simp))
  have HB_5 : Hid (Below w.heap.size w w5) := HB_4.out.trans (hB.mono HB_4.out.size)
  have R_5 : Hid (RdP w5 ao xs) := R_4.out.later hB
  have A_5 : Hid (C2 w5 (w2.heap.size) p q) := A_4.out.keep hB
  have Q_5 : Hid (OwnP w5 w2.heap.size (.slice a2 n d2) xs) := Q_4.out.later hB
  have B_5 : Hid (C2 w5 (w4.heap.size) p q) := (c2_new w4 p q 25 _ rfl).keep hb
  clear hb hB HB_4 R_4 A_4 Q_4
  go_wp2_with fail
  refine (toSealedS_c ao n c xs _ HX.out hn2 R_5.out).mono ?_
  rintro e w6 ⟨a3, d3, rfl, ho, hb⟩
  have hB : Below w5.heap.size w5 w6 := hb
  have HB_6 : Hid (Below w.heap.size w w6) := HB_5.out.trans (hB.mono HB_5.out.size)
  have R_6 : Hid (RdP w6 ao xs) := R_5.out.later hB
  have A_6 : Hid (C2 w6 (w2.heap.size) p q) := A_5.out.keep hB
  have Q_6 : Hid (OwnP w6 w2.heap.size (.slice a2 n d2) xs) := Q_5.out.later hB
  have B_6 : Hid (C2 w6 (w4.heap.size) p q) := B_5.out.keep hB
  have Y_6 : Hid (OwnP w6 w5.heap.size (.slice a3 n d3) xs) := ho
  clear hb hB HB_5 R_5 A_5 Q_5 B_5
  clear ho
  go_wp2_with fail
  refine (eqSealedS_c a2 a3 n n d2 d3 xs xs _ HX.out HX.out (by omega) (by omega) Q_6.out.rd'.2 Y_6.out.rd'.2).mono ?_
  rw [decide_eq_true rfl]
  rintro e w7 ⟨rfl, hb⟩
  have hB : Below w6.heap.size w6 w7 := hb
  have HB_7 : Hid (Below w.heap.size w w7) := HB_6.out.trans (hB.mono HB_6.out.size)
  have R_7 : Hid (RdP w7 ao xs) := R_6.out.later hB
  have A_7 : Hid (C2 w7 (w2.heap.size) p q) := A_6.out.keep hB
  have Q_7 : Hid (OwnP w7 w2.heap.size (.slice a2 n d2) xs) := Q_6.out.later hB
  have B_7 : Hid (C2 w7 (w4.heap.size) p q) := B_6.out.keep hB
  have Y_7 : Hid (OwnP w7 w5.heap.size (.slice a3 n d3) xs) := Y_6.out.later hB
  clear hb hB HB_6 R_6 A_6 Q_6 B_6 Y_6
  go_wp2
  go_ret
  exact ⟨rfl, HB_7.out⟩

set_option maxHeartbeats 8000000 in
theorem lawAll_c (ao : Option Addr) (n c : Nat) (xs : List Int) (x y : Int) (w : World) (hx : xs.length = n) (hm : n ≤ 9223372036854775807) (hr : Rd w ao xs) : Calls Try.prog 8 #[.slice ao n c, .agg #[.int .i64 x, .int .i64 y]] w fun e w' => e = .returned (.bool true) ∧ Below w.heap.size w w' := by
  by_cases hl : 1048576 < n
  · have hi : (1048576 : Int) < (n : Int) := by omega
    go_enter Try.func8, Try.ntmps8
    go_wp2
    go_ret
    exact ⟨rfl, below_one _ _⟩
  have hn2 : n ≤ 17592186044416 := by omega
  have HX : Hid (xs.length = n) := hx
  clear hx
  have hs := fun wx a' c' h => specAll_c a' n c' xs x y wx HX.out hn2 h
  have hi := fun wx a' c' h => implAll_c a' n c' xs x y wx HX.out hn2 h
  generalize allI x y xs = p at hs hi
  generalize allOk x y xs = b at hs hi
  have HS : Hid (∀ wx a' c', Rd wx a' xs → Calls Try.prog 11 #[.slice a' n c', .agg #[.int .i64 x, .int .i64 y]] wx fun e w' => e = .returned (.tuple #[.int .i64 p, .bool b]) ∧ Below wx.heap.size wx w') := hs
  have HI : Hid (∀ wx a' c', Rd wx a' xs → Calls Try.prog 10 #[.slice a' n c', .agg #[.int .i64 x, .int .i64 y]] wx fun e w' => e = .returned (.tuple #[.int .i64 p, .bool b]) ∧ Below wx.heap.size wx w') := hi
  clear hs hi
  have e1 : (p != p) = false := by simp
  have e2 : (b != b) = false := by simp
  go_enter Try.func8, Try.ntmps8
  have HB_0 : Hid (Below w.heap.size w w) := Below.refl _ _
  have R_0 : Hid (Rd w ao xs) := hr
  clear hr
  have X_0 : Hid (C2 (w.alloc (Obj.cells #[Value.int .i64 x, Value.int .i64 y] 50)).drew w.heap.size x y) := c2_new w x y 50 w.heap.size rfl
  have HBd : Hid (Below w.heap.size w (w.alloc (Obj.cells #[Value.int .i64 x, Value.int .i64 y] 50)).drew) := (below_one _ _).drew
  go_wp2_with fail
  go_region_held3 (fun w' => w'.cell? ⟨w.heap.size, 0, none⟩ = some (.int .i64 x) ∧ w'.cell? ⟨w.heap.size, 1, none⟩ = some (.int .i64 y)) (first | exact ⟨y3a, y3b⟩ | exact ⟨y2a, y2b⟩ | exact ⟨y1a, y1b⟩ | go_keep) (first
    | (go_at_call 31; refine (toIntS_c ao n c xs _ HX.out hn2 (R_0.out.later HBd.out)).mono ?_; rintro e w1 ⟨a1, d1, rfl, ho, hb⟩; have HB_1 : Hid (Below w.heap.size w w1) := HBd.out.trans (hb.mono HBd.out.size); have P_1 : Hid (Own w1 w.heap.size (.slice a1 n d1) xs) := ho.mono HBd.out.size; have X_1 : Hid (C2 w1 w.heap.size x y) := X_0.out.keep hb; obtain ⟨y1a, y1b, y1c, y1d⟩ := X_1.out; clear hb ho)
    | (go_at_call 30; refine (toSealed_c x y _).mono ?_; rintro e w2 ⟨rfl, hb⟩; have HB_2 : Hid (Below w.heap.size w w2) := HB_1.out.trans (hb.mono HB_1.out.size); have P_2 : Hid (Own w2 w.heap.size (.slice a1 n d1) xs) := P_1.out.later hb; have X_2 : Hid (C2 w2 w.heap.size x y) := X_1.out.keep hb; obtain ⟨y2a, y2b, y2c, y2d⟩ := X_2.out; clear hb)
    | (go_at_call 11; refine (HS.out _ a1 d1 P_2.out.rd'.2).mono ?_; rintro e w3 ⟨rfl, hb⟩; have HB_3 : Hid (Below w.heap.size w w3) := HB_2.out.trans (hb.mono HB_2.out.size); have X_3 : Hid (C2 w3 w.heap.size x y) := X_2.out.keep hb; obtain ⟨y3a, y3b, y3c, y3d⟩ := X_3.out; clear hb))
  all_goals clear P_1 P_2 X_0 X_1 X_2 HBd HB_1 HB_2 y1a y1b y1c y1d y2a y2b y2c y2d y3a y3b y3c y3d
  all_goals have R_3 : Hid (Rd w3 ao xs) := R_0.out.later HB_3.out
  all_goals clear R_0 HB_0
  all_goals (
    go_wp2_with fail
    refine (toIntS_c ao n c xs _ HX.out hn2 R_3.out).mono ?_
    rintro e w4 ⟨a2, d2, rfl, ho, hb⟩
    have hB : Below w3.heap.size w3 w4 := hb
    have HB_4 : Hid (Below w.heap.size w w4) := HB_3.out.trans (hB.mono HB_3.out.size)
    have R_4 : Hid (Rd w4 ao xs) := R_3.out.later hB
    have X_4 : Hid (C2 w4 w.heap.size x y) := X_3.out.keep hB
    have Q_4 : Hid (Own w4 w3.heap.size (.slice a2 n d2) xs) := ho
    clear hb hB HB_3 R_3 X_3
    clear ho
    obtain ⟨Xa, Xb, Xc, Xd⟩ := X_4.out
    have Xl := X_4.out.lt
    go_wp2_with fail
    refine (toSealed_c x y _).mono ?_
    clear Xa Xb Xc Xd Xl
    rintro e w5 ⟨rfl, hb⟩
    have hB : Below w4.heap.size w4 w5 := hb
    have HB_5 : Hid (Below w.heap.size w w5) := HB_4.out.trans (hB.mono HB_4.out.size)
    have R_5 : Hid (Rd w5 ao xs) := R_4.out.later hB
    have X_5 : Hid (C2 w5 w.heap.size x y) := X_4.out.keep hB
    have Q_5 : Hid (Own w5 w3.heap.size (.slice a2 n d2) xs) := Q_4.out.later hB
    clear hb hB HB_4 R_4 X_4 Q_4
    go_wp2_with fail
    refine (HI.out _ a2 d2 Q_5.out.rd'.2).mono ?_
    rintro e w6 ⟨rfl, hb⟩
    have hB : Below w5.heap.size w5 w6 := hb
    have HB_6 : Hid (Below w.heap.size w w6) := HB_5.out.trans (hB.mono HB_5.out.size)
    have R_6 : Hid (Rd w6 ao xs) := R_5.out.later hB
    have X_6 : Hid (C2 w6 w.heap.size x y) := X_5.out.keep hB
    have Q_6 : Hid (Own w6 w3.heap.size (.slice a2 n d2) xs) := Q_5.out.later hB
    clear hb hB HB_5 R_5 X_5 Q_5
    go_wp2_with fail
    refine (toIntS_c ao n c xs _ HX.out hn2 R_6.out).mono ?_
    rintro e w7 ⟨a3, d3, rfl, ho, hb⟩
    have hB : Below w6.heap.size w6 w7 := hb
    have HB_7 : Hid (Below w.heap.size w w7) := HB_6.out.trans (hB.mono HB_6.out.size)
    have R_7 : Hid (Rd w7 ao xs) := R_6.out.later hB
    have X_7 : Hid (C2 w7 w.heap.size x y) := X_6.out.keep hB
    have Q_7 : Hid (Own w7 w3.heap.size (.slice a2 n d2) xs) := Q_6.out.later hB
    have Y_7 : Hid (Own w7 w6.heap.size (.slice a3 n d3) xs) := ho
    clear hb hB HB_6 R_6 X_6 Q_6
    clear ho
    go_wp2_with fail
    refine (eqIntS_c a2 a3 n n d2 d3 xs xs _ HX.out HX.out hn2 hn2 Q_7.out.rd'.2 Y_7.out.rd'.2).mono ?_
    rw [decide_eq_true rfl]
    rintro e w8 ⟨rfl, hb⟩
    have hB : Below w7.heap.size w7 w8 := hb
    have HB_8 : Hid (Below w.heap.size w w8) := HB_7.out.trans (hB.mono HB_7.out.size)
    have R_8 : Hid (Rd w8 ao xs) := R_7.out.later hB
    have X_8 : Hid (C2 w8 w.heap.size x y) := X_7.out.keep hB
    have Q_8 : Hid (Own w8 w3.heap.size (.slice a2 n d2) xs) := Q_7.out.later hB
    have Y_8 : Hid (Own w8 w6.heap.size (.slice a3 n d3) xs) := Y_7.out.later hB
    clear hb hB HB_7 R_7 X_7 Q_7 Y_7
    go_wp2
    go_ret
    exact ⟨rfl, HB_8.out⟩
  )

end Go.Proofs.Ytobomcmjilcnaaa
