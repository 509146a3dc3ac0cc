/- Chapter 16: the law that the few bits tell what one who remembers all would. -/
import Derived.Test.YtjpegbodhpnflaaDoorDX16
import Derived.Test.YtjpegbodhpnflaaDoorHA16
import Derived.Test.YtjpegbodhpnflaaDoorP16B
import Derived.Test.YtjpegbodhpnflaaDoorLT16
import Derived.Deep.RegionHeld3
import Derived.Deep.DrawnRows
import Derived.Deep.Light
namespace Go.Proofs.YtjpegbodhpnflaaDoor
set_option linter.unusedVariables false
set_option maxRecDepth 1000000
set_option linter.unusedSimpArgs false
open Go.RowKit

set_option maxHeartbeats 8000000 in
theorem lawFnTaken_c (ao : Option Addr) (n c : Nat) (bo : Option Addr) (m d : Nat) (w : World) (hn : n ≤ 9223372036854775807) (h1 : CodeOk w w.heap.size ao n) (hm : m ≤ 9223372036854775807) (h2 : CodeOk w w.heap.size bo m) (ht : Tb w) :
    Calls Tryd.prog 3 #[.slice ao n c, .slice bo m d] w fun e w' => e = .returned (.bool true) ∧ Below w.heap.size w w' := by
  by_cases hl : 1048576 < wrap64 ((n : Int) + (m : Int))
  · clear h1 h2 ht
    go_enter Tryd.func3, Tryd.ntmps3
    go_wp2
    go_ret
    exact ⟨rfl, Below.refl _ _⟩
  have HN : Hid (CodeOk w w.heap.size ao n) := h1
  have HM : Hid (CodeOk w w.heap.size bo m) := h2
  have HT0 : Hid (Tb w) := ht
  clear h1 h2 ht
  have B_0 : Hid (Below w.heap.size w w) := Below.refl _ _
  go_enter Tryd.func3, Tryd.ntmps3
  go_wp2_with fail
  refine (drawNums_c ao n c _ hn HN.out).mono ?_
  rintro e w1 ⟨l, la, lc, rfl, hll, ho, hb⟩
  have z0 : w.heap.size ≤ w1.heap.size := hb.size
  have B_1 : Hid (Below w.heap.size w w1) := B_0.out.trans (hb.mono B_0.out.size)
  have L_1 : Hid (Rd w1 la l) := ho.rd'.2
  clear B_0 hb
  clear ho
  have hll0 := hll
  cases hok : playOk l
  · have hC0 : codesV l = [] := by unfold codesV; rw [if_neg (by rw [hok]; decide)]
    have hA0 : allV l = [] := by unfold allV; rw [if_neg (by rw [hok]; decide)]
    obtain ⟨P0, hT⟩ : ∃ P0, (winV l).1 = P0 := ⟨_, rfl⟩
    obtain ⟨Q0, hX⟩ : ∃ Q0, (winV l).2 = Q0 := ⟨_, rfl⟩
    obtain ⟨n0, hn0⟩ : ∃ n0, l.length = n0 := ⟨_, rfl⟩
    have QIN : Hid (∀ p k wx, Rd wx p l → Below w.heap.size w wx → Calls Tryd.prog 12 #[.slice p n0 k] wx fun e w' => ∃ a' c', e = .returned (.tuple #[.slice a' 0 c', .agg #[.int .i64 P0, .int .i64 Q0], .bool false]) ∧ Own w' wx.heap.size (.slice a' 0 c') [] ∧ Below wx.heap.size wx w') := fun p k wx h h2 => by
      have q := implNums_c p n0 k l wx hn0 (by omega) h (HT0.out.later h2)
      rw [hC0, hT, hX, hok] at q
      exact q
    have QSN : Hid (∀ p k wx, Rd wx p l → Calls Tryd.prog 13 #[.slice p n0 k] wx fun e w' => ∃ a' c', e = .returned (.tuple #[.slice a' 0 c', .agg #[.int .i64 P0, .int .i64 Q0], .bool false]) ∧ Own w' wx.heap.size (.slice a' 0 c') [] ∧ Below wx.heap.size wx w') := fun p k wx h => by
      have q := specNums_c p n0 k l wx hn0 (by omega) h
      rw [hC0, hT, hX, hok] at q
      exact q
    have QIA : Hid (∀ p k wx, Rd wx p l → Calls Tryd.prog 14 #[.slice p n0 k] wx fun e w' => ∃ a' c', e = .returned (.tuple #[.slice a' 0 c', .bool false]) ∧ Own w' wx.heap.size (.slice a' 0 c') [] ∧ Below wx.heap.size wx w') := fun p k wx h => by
      have q := implAll_c p n0 k l wx hn0 (by omega) h
      rw [hA0, hok] at q
      exact q
    have QSA : Hid (∀ p k wx, Rd wx p l → Calls Tryd.prog 15 #[.slice p n0 k] wx fun e w' => ∃ a' c', e = .returned (.tuple #[.slice a' 0 c', .bool false]) ∧ Own w' wx.heap.size (.slice a' 0 c') [] ∧ Below wx.heap.size wx w') := fun p k wx h => by
      have q := specAll_c p n0 k l wx hn0 (by omega) h
      rw [hA0, hok] at q
      exact q
    clear hC0 hA0 hT hX hok hll
    have HCl : Hid (([] : List Int).length = 0) := rfl
    have HAl : Hid (([] : List Int).length = 0) := rfl
    rw [hn0]
    clear hn0
    have heq := fun wx => run_neq_win P0 Q0 wx
    go_wp2_with fail
    refine (QIN.out la lc _ L_1.out B_1.out).mono ?_
    rintro e w2 ⟨a1, c1, rfl, ho, hb⟩
    have z1 : w1.heap.size ≤ w2.heap.size := hb.size
    have B_2 : Hid (Below w.heap.size w w2) := B_1.out.trans (hb.mono B_1.out.size)
    have L_2 : Hid (Rd w2 la l) := L_1.out.later hb
    have C1_2 : Hid (Rd w2 a1 []) := ho.rd'.2
    clear B_1 L_1 hb
    clear ho
    obtain ⟨w3, hA2⟩ : ∃ X, w2.alloc (.cells #[.int .i64 P0, .int .i64 Q0] 26) = X := ⟨_, rfl⟩
    have hb : Below w2.heap.size w2 w3 := by rw [← hA2]; exact balloc w2 _
    have z2 : w2.heap.size < w3.heap.size := by rw [← hA2]; simp
    have B_3 : Hid (Below w.heap.size w w3) := B_2.out.trans (hb.mono B_2.out.size)
    have L_3 : Hid (Rd w3 la l) := L_2.out.later hb
    have C1_3 : Hid (Rd w3 a1 []) := C1_2.out.later hb
    have X7_3 : Hid (Bx w3 w2.heap.size P0 Q0) := by rw [← hA2]; exact bx_new w2 P0 Q0 26
    clear B_2 L_2 C1_2 hb
    go_wp2_with fail
    clear hA2
    refine (QSN.out la lc _ L_3.out).mono ?_
    rintro e w4 ⟨a2, c2, rfl, ho, hb⟩
    have z3 : w3.heap.size ≤ w4.heap.size := hb.size
    have B_4 : Hid (Below w.heap.size w w4) := B_3.out.trans (hb.mono B_3.out.size)
    have L_4 : Hid (Rd w4 la l) := L_3.out.later hb
    have C1_4 : Hid (Rd w4 a1 []) := C1_3.out.later hb
    have X7_4 : Hid (Bx w4 w2.heap.size P0 Q0) := X7_3.out.later hb
    have C2_4 : Hid (Rd w4 a2 []) := ho.rd'.2
    clear B_3 L_3 C1_3 X7_3 hb
    clear ho
    obtain ⟨w5, hA4⟩ : ∃ X, w4.alloc (.cells #[.int .i64 P0, .int .i64 Q0] 26) = X := ⟨_, rfl⟩
    have hb : Below w4.heap.size w4 w5 := by rw [← hA4]; exact balloc w4 _
    have z4 : w4.heap.size < w5.heap.size := by rw [← hA4]; simp
    have B_5 : Hid (Below w.heap.size w w5) := B_4.out.trans (hb.mono B_4.out.size)
    have L_5 : Hid (Rd w5 la l) := L_4.out.later hb
    have C1_5 : Hid (Rd w5 a1 []) := C1_4.out.later hb
    have X7_5 : Hid (Bx w5 w2.heap.size P0 Q0) := X7_4.out.later hb
    have C2_5 : Hid (Rd w5 a2 []) := C2_4.out.later hb
    have Y7_5 : Hid (Bx w5 w4.heap.size P0 Q0) := by rw [← hA4]; exact bx_new w4 P0 Q0 26
    clear B_4 L_4 C1_4 X7_4 C2_4 hb
    go_wp2_with fail
    clear hA4
    refine (QIA.out la lc _ L_5.out).mono ?_
    rintro e w6 ⟨a3, c3, rfl, ho, hb⟩
    have z5 : w5.heap.size ≤ w6.heap.size := hb.size
    have B_6 : Hid (Below w.heap.size w w6) := B_5.out.trans (hb.mono B_5.out.size)
    have L_6 : Hid (Rd w6 la l) := L_5.out.later hb
    have C1_6 : Hid (Rd w6 a1 []) := C1_5.out.later hb
    have X7_6 : Hid (Bx w6 w2.heap.size P0 Q0) := X7_5.out.later hb
    have C2_6 : Hid (Rd w6 a2 []) := C2_5.out.later hb
    have Y7_6 : Hid (Bx w6 w4.heap.size P0 Q0) := Y7_5.out.later hb
    have A3_6 : Hid (Rd w6 a3 []) := ho.rd'.2
    clear B_5 L_5 C1_5 X7_5 C2_5 Y7_5 hb
    clear ho
    go_wp2_with fail
    refine (QSA.out la lc _ L_6.out).mono ?_
    rintro e w7 ⟨a4, c4, rfl, ho, hb⟩
    have z6 : w6.heap.size ≤ w7.heap.size := hb.size
    have B_7 : Hid (Below w.heap.size w w7) := B_6.out.trans (hb.mono B_6.out.size)
    have L_7 : Hid (Rd w7 la l) := L_6.out.later hb
    have C1_7 : Hid (Rd w7 a1 []) := C1_6.out.later hb
    have X7_7 : Hid (Bx w7 w2.heap.size P0 Q0) := X7_6.out.later hb
    have C2_7 : Hid (Rd w7 a2 []) := C2_6.out.later hb
    have Y7_7 : Hid (Bx w7 w4.heap.size P0 Q0) := Y7_6.out.later hb
    have A3_7 : Hid (Rd w7 a3 []) := A3_6.out.later hb
    have A4_7 : Hid (Rd w7 a4 []) := ho.rd'.2
    clear B_6 L_6 C1_6 X7_6 C2_6 Y7_6 A3_6 hb
    clear ho
    go_wp2_with fail
    refine (sameInts_c a1 a2 0 0 c1 c2 [] [] _ HCl.out HCl.out (by omega) (by omega) C1_7.out C2_7.out).mono ?_
    rw [decide_eq_true rfl]
    rintro e w8 ⟨rfl, hb⟩
    have z7 : w7.heap.size ≤ w8.heap.size := hb.size
    have B_8 : Hid (Below w.heap.size w w8) := B_7.out.trans (hb.mono B_7.out.size)
    have L_8 : Hid (Rd w8 la l) := L_7.out.later hb
    have C1_8 : Hid (Rd w8 a1 []) := C1_7.out.later hb
    have X7_8 : Hid (Bx w8 w2.heap.size P0 Q0) := X7_7.out.later hb
    have Y7_8 : Hid (Bx w8 w4.heap.size P0 Q0) := Y7_7.out.later hb
    have A3_8 : Hid (Rd w8 a3 []) := A3_7.out.later hb
    have A4_8 : Hid (Rd w8 a4 []) := A4_7.out.later hb
    clear B_7 L_7 C1_7 X7_7 C2_7 Y7_7 A3_7 A4_7 hb
    obtain ⟨uX70, uX71, uX72⟩ := id X7_8.out
    obtain ⟨uY70, uY71, uY72⟩ := id Y7_8.out
    go_wp2_with fail
    clear uX70 uX71 uX72
    clear uY70 uY71 uY72
    refine (sameInts_c a3 a4 0 0 c3 c4 [] [] _ HAl.out HAl.out (by omega) (by omega) A3_8.out A4_8.out).mono ?_
    rw [decide_eq_true rfl]
    rintro e w9 ⟨rfl, hb⟩
    have z8 : w8.heap.size ≤ w9.heap.size := hb.size
    have B_9 : Hid (Below w.heap.size w w9) := B_8.out.trans (hb.mono B_8.out.size)
    have L_9 : Hid (Rd w9 la l) := L_8.out.later hb
    have C1_9 : Hid (Rd w9 a1 []) := C1_8.out.later hb
    have X7_9 : Hid (Bx w9 w2.heap.size P0 Q0) := X7_8.out.later hb
    have Y7_9 : Hid (Bx w9 w4.heap.size P0 Q0) := Y7_8.out.later hb
    have A3_9 : Hid (Rd w9 a3 []) := A3_8.out.later hb
    clear B_8 L_8 C1_8 X7_8 Y7_8 A3_8 A4_8 hb
    clear Y7_9
    clear C1_9
    clear A3_9
    clear L_9
    clear X7_9
    go_wp2_with fail
    refine (drawTake_c bo m d _ hm (HM.out.later B_9.out B_9.out.size)).mono ?_
    rintro e w10 ⟨t, x, y, rfl, htb, hxb, hb⟩
    have z9 : w9.heap.size ≤ w10.heap.size := hb.size
    have B_10 : Hid (Below w.heap.size w w10) := B_9.out.trans (hb.mono B_9.out.size)
    clear B_9 hb
    have htw := fun h => take_twice (t := t) (x := x) (n := y) h
    obtain ⟨P, hP⟩ : ∃ P, (takeT t x y).1.1 = P := ⟨_, rfl⟩
    obtain ⟨Q, hQ⟩ : ∃ Q, (takeT t x y).1.2 = Q := ⟨_, rfl⟩
    obtain ⟨R, hR⟩ : ∃ R, (takeT t x y).2 = R := ⟨_, rfl⟩
    obtain ⟨tk, htk⟩ : ∃ tk, takeOk t x y = tk := ⟨_, rfl⟩
    obtain ⟨gw, hgw⟩ : ∃ gw, goodWn t x = gw := ⟨_, rfl⟩
    have hpq : (takeT t x y).1 = (P, Q) := by rw [← hP, ← hQ]
    have h64 : -9223372036854775808 ≤ Q ∧ Q ≤ 9223372036854775807 := by
      rw [← hQ]
      cases h9 : takeOk t x y
      · rw [takeT_bad h9]; decide
      · have h8 := (goodWn_of (take_twice h9).1)
        have := h8.2.2.2.1
        omega
    have QTI : Hid (∀ wx, Below w.heap.size w wx → Calls Tryd.prog 19 #[.agg #[.int .i64 t, .int .i64 x], .int .i64 y] wx fun e w' => e = .returned (.tuple #[.agg #[.int .i64 P, .int .i64 Q], .int .i64 R, .bool tk]) ∧ Below wx.heap.size wx w') := fun wx h => by
      have q := implTake_c t x y wx (HT0.out.later h) (by omega)
      rw [hP, hQ, hR, htk] at q
      exact q
    have QTS : Hid (∀ wx, Calls Tryd.prog 20 #[.agg #[.int .i64 t, .int .i64 x], .int .i64 y] wx fun e w' => e = .returned (.tuple #[.agg #[.int .i64 P, .int .i64 Q], .int .i64 R, .bool tk]) ∧ Below wx.heap.size wx w') := fun wx => by
      have q := specTake_c t x y wx (by omega) (by omega)
      rw [hP, hQ, hR, htk] at q
      exact q
    have QGI : Hid (∀ wx, Below w.heap.size w wx → Calls Tryd.prog 17 #[.agg #[.int .i64 t, .int .i64 x]] wx fun e w' => e = .returned (.bool gw) ∧ Below wx.heap.size wx w') := fun wx h => by
      have q := goodWindow_c t x wx (HT0.out.later h) (by omega)
      rw [hgw] at q
      exact q
    have QGS : Hid (∀ wx, Calls Tryd.prog 21 #[.agg #[.int .i64 t, .int .i64 x]] wx fun e w' => e = .returned (.bool gw) ∧ Below wx.heap.size wx w') := fun wx => by
      have q := specGood_c t x wx (by omega) (by omega)
      rw [hgw] at q
      exact q
    rw [htk, hpq] at htw
    have HTW : Hid (tk = true → goodWn P Q = true ∧ takeOk P Q y = true ∧ 0 < (takeT P Q y).2 ∧ (takeT P Q y).1 = (P, Q) ∧ t ≤ P) := htw
    clear htw hP hQ hR htk hgw hpq
    obtain ⟨w11, hA10⟩ : ∃ X, w10.alloc (.cells #[.int .i64 t, .int .i64 x] 26) = X := ⟨_, rfl⟩
    have hb : Below w10.heap.size w10 w11 := by rw [← hA10]; exact balloc w10 _
    have z10 : w10.heap.size < w11.heap.size := by rw [← hA10]; simp
    have B_11 : Hid (Below w.heap.size w w11) := B_10.out.trans (hb.mono B_10.out.size)
    have X19_11 : Hid (Bx w11 w10.heap.size t x) := by rw [← hA10]; exact bx_new w10 t x 26
    clear B_10 hb
    obtain ⟨uX190, uX191, uX192⟩ := id X19_11.out
    go_wp2_with fail
    clear uX190 uX191 uX192
    clear hA10
    refine (QTI.out _ B_11.out).mono ?_
    rintro e w12 ⟨rfl, hb⟩
    have z11 : w11.heap.size ≤ w12.heap.size := hb.size
    have B_12 : Hid (Below w.heap.size w w12) := B_11.out.trans (hb.mono B_11.out.size)
    have X19_12 : Hid (Bx w12 w10.heap.size t x) := X19_11.out.later hb
    clear B_11 X19_11 hb
    obtain ⟨w13, hA12⟩ : ∃ X, w12.alloc (.cells #[.int .i64 P, .int .i64 Q] 26) = X := ⟨_, rfl⟩
    have hb : Below w12.heap.size w12 w13 := by rw [← hA12]; exact balloc w12 _
    have z12 : w12.heap.size < w13.heap.size := by rw [← hA12]; simp
    have B_13 : Hid (Below w.heap.size w w13) := B_12.out.trans (hb.mono B_12.out.size)
    have X19_13 : Hid (Bx w13 w10.heap.size t x) := X19_12.out.later hb
    have X21_13 : Hid (Bx w13 w12.heap.size P Q) := by rw [← hA12]; exact bx_new w12 P Q 26
    clear B_12 X19_12 hb
    obtain ⟨uX190, uX191, uX192⟩ := id X19_13.out
    go_wp2_with fail
    clear uX190 uX191 uX192
    clear hA12
    refine (QTS.out _).mono ?_
    rintro e w14 ⟨rfl, hb⟩
    have z13 : w13.heap.size ≤ w14.heap.size := hb.size
    have B_14 : Hid (Below w.heap.size w w14) := B_13.out.trans (hb.mono B_13.out.size)
    have X19_14 : Hid (Bx w14 w10.heap.size t x) := X19_13.out.later hb
    have X21_14 : Hid (Bx w14 w12.heap.size P Q) := X21_13.out.later hb
    clear B_13 X19_13 X21_13 hb
    obtain ⟨w15, hA14⟩ : ∃ X, w14.alloc (.cells #[.int .i64 P, .int .i64 Q] 26) = X := ⟨_, rfl⟩
    have hb : Below w14.heap.size w14 w15 := by rw [← hA14]; exact balloc w14 _
    have z14 : w14.heap.size < w15.heap.size := by rw [← hA14]; simp
    have B_15 : Hid (Below w.heap.size w w15) := B_14.out.trans (hb.mono B_14.out.size)
    have X19_15 : Hid (Bx w15 w10.heap.size t x) := X19_14.out.later hb
    have X21_15 : Hid (Bx w15 w12.heap.size P Q) := X21_14.out.later hb
    have X24_15 : Hid (Bx w15 w14.heap.size P Q) := by rw [← hA14]; exact bx_new w14 P Q 26
    clear B_14 X19_14 X21_14 hb
    have heq2 := fun wx => run_neq_win P Q wx
    have heq3 := fun wx => run_eql_win P Q wx
    go_wp2_with fail
    clear hA14
    refine wp_region_held_drew (S := (fun Z => (Z.cell? ⟨w10.heap.size, 0, none⟩ = some (.int .i64 t) ∧ Z.cell? ⟨w10.heap.size, 1, none⟩ = some (.int .i64 x)) ∧ (Z.cell? ⟨w12.heap.size, 0, none⟩ = some (.int .i64 P) ∧ Z.cell? ⟨w12.heap.size, 1, none⟩ = some (.int .i64 Q)) ∧ (Z.cell? ⟨w14.heap.size, 0, none⟩ = some (.int .i64 P) ∧ Z.cell? ⟨w14.heap.size, 1, none⟩ = some (.int .i64 Q)))) (by kernel_rfl) ?_ (fun hHeld => ?_)
    · exact ⟨X19_15.out.2, X21_15.out.2, X24_15.out.2⟩
    obtain ⟨v0, hv0⟩ : ∃ D, w15.drew = D := ⟨_, rfl⟩
    have hb0 : Below w15.heap.size w15 v0 := by rw [← hv0]; exact (Below.refl _ _).drew
    rw [hv0] at hHeld ⊢
    have B_16 : Hid (Below w.heap.size w v0) := B_15.out.trans (hb0.mono B_15.out.size)
    have X19_16 : Hid (Bx v0 w10.heap.size t x) := X19_15.out.later hb0
    have X21_16 : Hid (Bx v0 w12.heap.size P Q) := X21_15.out.later hb0
    have X24_16 : Hid (Bx v0 w14.heap.size P Q) := X24_15.out.later hb0
    have z15 : w15.heap.size ≤ v0.heap.size := hb0.size
    clear B_15 X19_15 X21_15 X24_15
    clear hb0 hv0
    refine takeJE16 (i := 0) (oi := _) (v := ?_) (d := some 176) rfl (by kernel_rfl) (by kernel_rfl) (by kernel_rfl) (by kernel_rfl) (fun _ _ _ h => h) (Or.inl ⟨by rfl, ?_⟩) (by assumption) ?_
    rotate_left
    · (intro w hSw; (try dsimp only at hSw); go_simp <;> with_reducible rfl)
    try simp only [Act.put, List.setIfInBounds_toArray, List.set_cons_zero, List.set_cons_succ]
    refine takeJE16 (i := 1) (oi := _) (v := ?_) (d := some 177) rfl (by kernel_rfl) (by kernel_rfl) (by kernel_rfl) (by kernel_rfl) (fun _ _ _ h => h) (Or.inl ⟨by rfl, ?_⟩) (by assumption) ?_
    rotate_left
    · (intro w hSw; (try dsimp only at hSw); go_simp <;> with_reducible rfl)
    try simp only [Act.put, List.setIfInBounds_toArray, List.set_cons_zero, List.set_cons_succ]
    refine takeJE16 (i := 2) (oi := _) (v := ?_) (d := some 178) rfl (by kernel_rfl) (by kernel_rfl) (by kernel_rfl) (by kernel_rfl) (fun _ _ _ h => h) (Or.inl ⟨by rfl, ?_⟩) (by assumption) ?_
    rotate_left
    · (intro w hSw; (try dsimp only at hSw); go_simp <;> with_reducible rfl)
    try simp only [Act.put, List.setIfInBounds_toArray, List.set_cons_zero, List.set_cons_succ]
    refine takeJE16 (i := 3) (oi := _) (v := ?_) (d := some 179) rfl (by kernel_rfl) (by kernel_rfl) (by kernel_rfl) (by kernel_rfl) (fun _ _ _ h => h) (Or.inl ⟨by rfl, ?_⟩) (by assumption) ?_
    rotate_left
    · (intro w hSw; (try dsimp only at hSw); go_simp <;> with_reducible rfl)
    try simp only [Act.put, List.setIfInBounds_toArray, List.set_cons_zero, List.set_cons_succ]
    refine takeJE16 (i := 4) (oi := _) (v := ?_) (d := some 180) rfl (by kernel_rfl) (by kernel_rfl) (by kernel_rfl) (by kernel_rfl) (fun _ _ _ h => h) (Or.inl ⟨by rfl, ?_⟩) (by assumption) ?_
    rotate_left
    · (intro w hSw; (try dsimp only at hSw); go_simp <;> with_reducible rfl)
    try simp only [Act.put, List.setIfInBounds_toArray, List.set_cons_zero, List.set_cons_succ]
    refine takeJE16 (i := 5) (oi := _) (v := ?_) (d := some 181) rfl (by kernel_rfl) (by kernel_rfl) (by kernel_rfl) (by kernel_rfl) (fun _ _ _ h => h) (Or.inl ⟨by rfl, ?_⟩) (by assumption) ?_
    rotate_left
    · (intro w hSw; (try dsimp only at hSw); go_simp <;> with_reducible rfl)
    try simp only [Act.put, List.setIfInBounds_toArray, List.set_cons_zero, List.set_cons_succ]
    refine takeJE16 (i := 6) (oi := _) (v := ?_) (d := some 182) rfl (by kernel_rfl) (by kernel_rfl) (by kernel_rfl) (by kernel_rfl) (fun _ _ _ h => h) (Or.inl ⟨by rfl, ?_⟩) (by assumption) ?_
    rotate_left
    · (intro w hSw; (try dsimp only at hSw); go_simp <;> with_reducible rfl)
    try simp only [Act.put, List.setIfInBounds_toArray, List.set_cons_zero, List.set_cons_succ]
    refine takeJE16 (i := 7) (oi := _) (v := ?_) (d := some 183) rfl (by kernel_rfl) (by kernel_rfl) (by kernel_rfl) (by kernel_rfl) (fun _ _ _ h => h) (Or.inl ⟨by rfl, ?_⟩) (by assumption) ?_
    rotate_left
    · (intro w hSw; (try dsimp only at hSw); go_simp <;> with_reducible rfl)
    try simp only [Act.put, List.setIfInBounds_toArray, List.set_cons_zero, List.set_cons_succ]
    refine takeJE16 (i := 8) (oi := _) (v := ?_) (d := some 184) rfl (by kernel_rfl) (by kernel_rfl) (by kernel_rfl) (by kernel_rfl) (fun _ _ _ h => h) (Or.inl ⟨by rfl, ?_⟩) (by assumption) ?_
    rotate_left
    · (intro w hSw; (try dsimp only at hSw); go_simp <;> with_reducible rfl)
    try simp only [Act.put, List.setIfInBounds_toArray, List.set_cons_zero, List.set_cons_succ]
    refine takeJE16 (i := 9) (oi := _) (v := ?_) (d := some 185) rfl (by kernel_rfl) (by kernel_rfl) (by kernel_rfl) (by kernel_rfl) (fun _ _ _ h => h) (Or.inl ⟨by rfl, ?_⟩) (by assumption) ?_
    rotate_left
    · (intro w hSw; (try dsimp only at hSw); go_simp <;> with_reducible rfl)
    try simp only [Act.put, List.setIfInBounds_toArray, List.set_cons_zero, List.set_cons_succ]
    refine takeJE16 (i := 10) (oi := _) (v := ?_) (d := some 186) rfl (by kernel_rfl) (by kernel_rfl) (by kernel_rfl) (by kernel_rfl) (fun _ _ _ h => h) (Or.inl ⟨by rfl, ?_⟩) (by assumption) ?_
    rotate_left
    · (intro w hSw; (try dsimp only at hSw); go_simp <;> with_reducible rfl)
    try simp only [Act.put, List.setIfInBounds_toArray, List.set_cons_zero, List.set_cons_succ]
    refine takeJE16 (i := 11) (oi := _) (v := ?_) (d := some 187) rfl (by kernel_rfl) (by kernel_rfl) (by kernel_rfl) (by kernel_rfl) (fun _ _ _ h => h) (Or.inl ⟨by rfl, ?_⟩) (by assumption) ?_
    rotate_left
    · (intro w hSw; (try dsimp only at hSw); go_simp <;> with_reducible rfl)
    try simp only [Act.put, List.setIfInBounds_toArray, List.set_cons_zero, List.set_cons_succ]
    refine takeJE16 (i := 12) (oi := _) (v := ?_) (d := some 188) rfl (by kernel_rfl) (by kernel_rfl) (by kernel_rfl) (by kernel_rfl) (fun _ _ _ h => h) (Or.inl ⟨by rfl, ?_⟩) (by assumption) ?_
    rotate_left
    · (intro w hSw; (try dsimp only at hSw); go_simp <;> with_reducible rfl)
    try simp only [Act.put, List.setIfInBounds_toArray, List.set_cons_zero, List.set_cons_succ]
    refine takeJE16 (i := 13) (oi := _) (v := ?_) (d := some 189) rfl (by kernel_rfl) (by kernel_rfl) (by kernel_rfl) (by kernel_rfl) (fun _ _ _ h => h) (Or.inl ⟨by rfl, ?_⟩) (by assumption) ?_
    rotate_left
    · (intro w hSw; (try dsimp only at hSw); go_simp <;> with_reducible rfl)
    try simp only [Act.put, List.setIfInBounds_toArray, List.set_cons_zero, List.set_cons_succ]
    refine takeJE16 (i := 14) (oi := _) (v := ?_) (d := some 190) rfl (by kernel_rfl) (by kernel_rfl) (by kernel_rfl) (by kernel_rfl) (fun _ _ _ h => h) (Or.inl ⟨by rfl, ?_⟩) (by assumption) ?_
    rotate_left
    · (intro w hSw; (try dsimp only at hSw); go_simp <;> with_reducible rfl)
    try simp only [Act.put, List.setIfInBounds_toArray, List.set_cons_zero, List.set_cons_succ]
    refine takeJE16 (i := 16) (oi := _) (v := ?_) (d := some 192) rfl (by kernel_rfl) (by kernel_rfl) (by kernel_rfl) (by kernel_rfl) (fun _ _ _ h => h) (Or.inl ⟨by rfl, ?_⟩) (by assumption) ?_
    rotate_left
    · (intro w hSw; (try dsimp only at hSw); go_simp <;> with_reducible rfl)
    try simp only [Act.put, List.setIfInBounds_toArray, List.set_cons_zero, List.set_cons_succ]
    refine wpAnyH_ready (rs := [15]) (by kernel_rfl) (by simp) ?_
    refine AllReadyH.cons (o := _) rfl (fun K hK => ?_) AllReadyH.nil
    go_simp
    refine (QGI.out _ B_16.out).mono ?_
    rintro e v1 ⟨rfl, hb⟩
    have B_17 : Hid (Below w.heap.size w v1) := B_16.out.trans (hb.mono B_16.out.size)
    have X19_17 : Hid (Bx v1 w10.heap.size t x) := X19_16.out.later hb
    have X21_17 : Hid (Bx v1 w12.heap.size P Q) := X21_16.out.later hb
    have X24_17 : Hid (Bx v1 w14.heap.size P Q) := X24_16.out.later hb
    have z16 : v0.heap.size ≤ v1.heap.size := hb.size
    clear B_16 X19_16 X21_16 X24_16
    clear hb
    refine hK.out _ _ ?_ (fun hHeld => ?_)
    · exact ⟨X19_17.out.2, X21_17.out.2, X24_17.out.2⟩
    clear hK K
    try simp only [Act.put, List.setIfInBounds_toArray, List.set_cons_zero, List.set_cons_succ]
    refine wpAnyH_ready (rs := [17]) (by kernel_rfl) (by simp) ?_
    refine AllReadyH.cons (o := _) rfl (fun K hK => ?_) AllReadyH.nil
    go_simp
    refine (QGS.out _).mono ?_
    rintro e v2 ⟨rfl, hb⟩
    have B_18 : Hid (Below w.heap.size w v2) := B_17.out.trans (hb.mono B_17.out.size)
    have X19_18 : Hid (Bx v2 w10.heap.size t x) := X19_17.out.later hb
    have X21_18 : Hid (Bx v2 w12.heap.size P Q) := X21_17.out.later hb
    have X24_18 : Hid (Bx v2 w14.heap.size P Q) := X24_17.out.later hb
    have z17 : v1.heap.size ≤ v2.heap.size := hb.size
    clear B_17 X19_17 X21_17 X24_17
    clear hb
    refine hK.out _ _ ?_ (fun hHeld => ?_)
    · exact ⟨X19_18.out.2, X21_18.out.2, X24_18.out.2⟩
    clear hK K
    try simp only [Act.put, List.setIfInBounds_toArray, List.set_cons_zero, List.set_cons_succ]
    refine takeJE16 (i := 18) (oi := _) (v := ?_) (d := some 194) rfl (by kernel_rfl) (by kernel_rfl) (by kernel_rfl) (by kernel_rfl) (fun _ _ _ h => h) (Or.inl ⟨by rfl, ?_⟩) (by assumption) ?_
    rotate_left
    · (intro w hSw; (try dsimp only at hSw); go_simp <;> with_reducible rfl)
    try simp only [Act.put, List.setIfInBounds_toArray, List.set_cons_zero, List.set_cons_succ]
    refine takeJE16 (i := 19) (oi := _) (v := ?_) (d := some 195) rfl (by kernel_rfl) (by kernel_rfl) (by kernel_rfl) (by kernel_rfl) (fun _ _ _ h => h) (Or.inl ⟨by rfl, ?_⟩) (by assumption) ?_
    rotate_left
    · (intro w hSw; (try dsimp only at hSw); go_simp <;> with_reducible rfl)
    try simp only [Act.put, List.setIfInBounds_toArray, List.set_cons_zero, List.set_cons_succ]
    refine wpAnyH_done (by kernel_rfl) ?_ _
    clear hHeld
    cases tk
    · clear HTW
      go_wp2
      go_ret
      exact ⟨rfl, B_18.out⟩
    · obtain ⟨y1, y2, y3, y4, y5⟩ := HTW.out rfl
      clear HTW QTI QTS QGI QGS
      obtain ⟨R2, hR2⟩ : ∃ R2, (takeT P Q y).2 = R2 := ⟨_, rfl⟩
      rw [hR2] at y3
      have QT2 : Hid (∀ wx, Below w.heap.size w wx → Calls Tryd.prog 19 #[.agg #[.int .i64 P, .int .i64 Q], .int .i64 y] wx fun e w' => e = .returned (.tuple #[.agg #[.int .i64 P, .int .i64 Q], .int .i64 R2, .bool true]) ∧ Below wx.heap.size wx w') := fun wx h => by
        have q := implTake_c P Q y wx (HT0.out.later h) h64
        rw [y4, hR2, y2] at q
        exact q
      have QG2 : Hid (∀ wx, Below w.heap.size w wx → Calls Tryd.prog 17 #[.agg #[.int .i64 P, .int .i64 Q]] wx fun e w' => e = .returned (.bool true) ∧ Below wx.heap.size wx w') := fun wx h => by
        have q := goodWindow_c P Q wx (HT0.out.later h) h64
        rw [y1] at q
        exact q
      clear y1 y2 y4 hR2
      obtain ⟨uX210, uX211, uX212⟩ := id X21_18.out
      go_wp2_with fail
      clear uX210 uX211 uX212
      refine (QT2.out _ B_18.out).mono ?_
      rintro e w19 ⟨rfl, hb⟩
      have z18 : v2.heap.size ≤ w19.heap.size := hb.size
      have B_19 : Hid (Below w.heap.size w w19) := B_18.out.trans (hb.mono B_18.out.size)
      have X19_19 : Hid (Bx w19 w10.heap.size t x) := X19_18.out.later hb
      have X21_19 : Hid (Bx w19 w12.heap.size P Q) := X21_18.out.later hb
      have X24_19 : Hid (Bx w19 w14.heap.size P Q) := X24_18.out.later hb
      clear B_18 X19_18 X21_18 X24_18 hb
      obtain ⟨w20, hA19⟩ : ∃ X, w19.alloc (.cells #[.int .i64 P, .int .i64 Q] 26) = X := ⟨_, rfl⟩
      have hb : Below w19.heap.size w19 w20 := by rw [← hA19]; exact balloc w19 _
      have z19 : w19.heap.size < w20.heap.size := by rw [← hA19]; simp
      have B_20 : Hid (Below w.heap.size w w20) := B_19.out.trans (hb.mono B_19.out.size)
      have X19_20 : Hid (Bx w20 w10.heap.size t x) := X19_19.out.later hb
      have X21_20 : Hid (Bx w20 w12.heap.size P Q) := X21_19.out.later hb
      have X24_20 : Hid (Bx w20 w14.heap.size P Q) := X24_19.out.later hb
      have X27_20 : Hid (Bx w20 w19.heap.size P Q) := by rw [← hA19]; exact bx_new w19 P Q 26
      clear B_19 X19_19 X21_19 X24_19 hb
      obtain ⟨uX210, uX211, uX212⟩ := id X21_20.out
      go_wp2_with fail
      clear uX210 uX211 uX212
      clear hA19
      refine (QG2.out _ B_20.out).mono ?_
      rintro e w21 ⟨rfl, hb⟩
      have z20 : w20.heap.size ≤ w21.heap.size := hb.size
      have B_21 : Hid (Below w.heap.size w w21) := B_20.out.trans (hb.mono B_20.out.size)
      have X19_21 : Hid (Bx w21 w10.heap.size t x) := X19_20.out.later hb
      have X21_21 : Hid (Bx w21 w12.heap.size P Q) := X21_20.out.later hb
      have X24_21 : Hid (Bx w21 w14.heap.size P Q) := X24_20.out.later hb
      have X27_21 : Hid (Bx w21 w19.heap.size P Q) := X27_20.out.later hb
      clear B_20 X19_20 X21_20 X24_20 X27_20 hb
      obtain ⟨uX190, uX191, uX192⟩ := id X19_21.out
      obtain ⟨uX210, uX211, uX212⟩ := id X21_21.out
      obtain ⟨uX270, uX271, uX272⟩ := id X27_21.out
      go_wp2
      go_ret
      exact ⟨rfl, B_21.out⟩
  · obtain ⟨hCl, hAl, hco, hzz⟩ := codes_told hok
    have hbd := winV_bd l
    have hgw : goodWn (winV l).1 (winV l).2 = true := by
      unfold winV
      rw [if_pos hok]
      exact goodWn_at (foldN_good l ((0, 0), []) good_zero (playOk_all hok).2)
    obtain ⟨C, hC⟩ : ∃ C, codesV l = C := ⟨_, rfl⟩
    obtain ⟨A, hA⟩ : ∃ A, allV l = A := ⟨_, rfl⟩
    obtain ⟨P0, hT⟩ : ∃ P0, (winV l).1 = P0 := ⟨_, rfl⟩
    obtain ⟨Q0, hX⟩ : ∃ Q0, (winV l).2 = Q0 := ⟨_, rfl⟩
    obtain ⟨n0, hn0⟩ : ∃ n0, l.length = n0 := ⟨_, rfl⟩
    rw [hC, hn0] at hCl
    rw [hA, hn0] at hAl
    rw [hC, hA, hn0] at hco
    rw [hC, hn0] at hzz
    rw [hT, hX] at hgw hbd
    have QIN : Hid (∀ p k wx, Rd wx p l → Below w.heap.size w wx → Calls Tryd.prog 12 #[.slice p n0 k] wx fun e w' => ∃ a' c', e = .returned (.tuple #[.slice a' n0 c', .agg #[.int .i64 P0, .int .i64 Q0], .bool true]) ∧ Own w' wx.heap.size (.slice a' n0 c') C ∧ Below wx.heap.size wx w') := fun p k wx h h2 => by
      have q := implNums_c p n0 k l wx hn0 (by omega) h (HT0.out.later h2)
      rw [hC, hT, hX, hCl, hok] at q
      exact q
    have QSN : Hid (∀ p k wx, Rd wx p l → Calls Tryd.prog 13 #[.slice p n0 k] wx fun e w' => ∃ a' c', e = .returned (.tuple #[.slice a' n0 c', .agg #[.int .i64 P0, .int .i64 Q0], .bool true]) ∧ Own w' wx.heap.size (.slice a' n0 c') C ∧ Below wx.heap.size wx w') := fun p k wx h => by
      have q := specNums_c p n0 k l wx hn0 (by omega) h
      rw [hC, hT, hX, hCl, hok] at q
      exact q
    have QIA : Hid (∀ p k wx, Rd wx p l → Calls Tryd.prog 14 #[.slice p n0 k] wx fun e w' => ∃ a' c', e = .returned (.tuple #[.slice a' n0 c', .bool true]) ∧ Own w' wx.heap.size (.slice a' n0 c') A ∧ Below wx.heap.size wx w') := fun p k wx h => by
      have q := implAll_c p n0 k l wx hn0 (by omega) h
      rw [hA, hAl, hok] at q
      exact q
    have QSA : Hid (∀ p k wx, Rd wx p l → Calls Tryd.prog 15 #[.slice p n0 k] wx fun e w' => ∃ a' c', e = .returned (.tuple #[.slice a' n0 c', .bool true]) ∧ Own w' wx.heap.size (.slice a' n0 c') A ∧ Below wx.heap.size wx w') := fun p k wx h => by
      have q := specAll_c p n0 k l wx hn0 (by omega) h
      rw [hA, hAl, hok] at q
      exact q
    have HCl : Hid (C.length = n0) := hCl
    have HAl : Hid (A.length = n0) := hAl
    have HLl : Hid (l.length = n0) := hn0
    have hn61 : n0 ≤ 61 := by omega
    have HCO : Hid (∀ i, i < n0 → C.getD i 0 = A.getD i 0 ∨ (A.getD i 0 = 1 ∧ C.getD i 0 = 2)) := hco
    have HZZ : Hid (∀ i k, k < i → i < n0 → l.getD k 0 = l.getD i 0 → C.getD k 0 = 0 → C.getD i 0 ≠ 0) := hzz
    have HGW : Hid (∀ wx, Below w.heap.size w wx → Calls Tryd.prog 17 #[.agg #[.int .i64 P0, .int .i64 Q0]] wx fun e w' => e = .returned (.bool true) ∧ Below wx.heap.size wx w') := fun wx h => by
      have q := goodWindow_c P0 Q0 wx (HT0.out.later h) (by omega)
      rw [hgw] at q
      exact q
    clear hco hzz hCl hAl hC hA hT hX hgw hbd hok hll
    rw [hn0]
    clear hn0 hll0
    have heq := fun wx => run_neq_win P0 Q0 wx
    go_wp2_with fail
    refine (QIN.out la lc _ L_1.out B_1.out).mono ?_
    rintro e w2 ⟨a1, c1, rfl, ho, hb⟩
    have z1 : w1.heap.size ≤ w2.heap.size := hb.size
    have B_2 : Hid (Below w.heap.size w w2) := B_1.out.trans (hb.mono B_1.out.size)
    have L_2 : Hid (Rd w2 la l) := L_1.out.later hb
    have C1_2 : Hid (Rd w2 a1 C) := ho.rd'.2
    clear B_1 L_1 hb
    clear ho
    obtain ⟨w3, hA2⟩ : ∃ X, w2.alloc (.cells #[.int .i64 P0, .int .i64 Q0] 26) = X := ⟨_, rfl⟩
    have hb : Below w2.heap.size w2 w3 := by rw [← hA2]; exact balloc w2 _
    have z2 : w2.heap.size < w3.heap.size := by rw [← hA2]; simp
    have B_3 : Hid (Below w.heap.size w w3) := B_2.out.trans (hb.mono B_2.out.size)
    have L_3 : Hid (Rd w3 la l) := L_2.out.later hb
    have C1_3 : Hid (Rd w3 a1 C) := C1_2.out.later hb
    have X7_3 : Hid (Bx w3 w2.heap.size P0 Q0) := by rw [← hA2]; exact bx_new w2 P0 Q0 26
    clear B_2 L_2 C1_2 hb
    go_wp2_with fail
    clear hA2
    refine (QSN.out la lc _ L_3.out).mono ?_
    rintro e w4 ⟨a2, c2, rfl, ho, hb⟩
    have z3 : w3.heap.size ≤ w4.heap.size := hb.size
    have B_4 : Hid (Below w.heap.size w w4) := B_3.out.trans (hb.mono B_3.out.size)
    have L_4 : Hid (Rd w4 la l) := L_3.out.later hb
    have C1_4 : Hid (Rd w4 a1 C) := C1_3.out.later hb
    have X7_4 : Hid (Bx w4 w2.heap.size P0 Q0) := X7_3.out.later hb
    have C2_4 : Hid (Rd w4 a2 C) := ho.rd'.2
    clear B_3 L_3 C1_3 X7_3 hb
    clear ho
    obtain ⟨w5, hA4⟩ : ∃ X, w4.alloc (.cells #[.int .i64 P0, .int .i64 Q0] 26) = X := ⟨_, rfl⟩
    have hb : Below w4.heap.size w4 w5 := by rw [← hA4]; exact balloc w4 _
    have z4 : w4.heap.size < w5.heap.size := by rw [← hA4]; simp
    have B_5 : Hid (Below w.heap.size w w5) := B_4.out.trans (hb.mono B_4.out.size)
    have L_5 : Hid (Rd w5 la l) := L_4.out.later hb
    have C1_5 : Hid (Rd w5 a1 C) := C1_4.out.later hb
    have X7_5 : Hid (Bx w5 w2.heap.size P0 Q0) := X7_4.out.later hb
    have C2_5 : Hid (Rd w5 a2 C) := C2_4.out.later hb
    have Y7_5 : Hid (Bx w5 w4.heap.size P0 Q0) := by rw [← hA4]; exact bx_new w4 P0 Q0 26
    clear B_4 L_4 C1_4 X7_4 C2_4 hb
    go_wp2_with fail
    clear hA4
    refine (QIA.out la lc _ L_5.out).mono ?_
    rintro e w6 ⟨a3, c3, rfl, ho, hb⟩
    have z5 : w5.heap.size ≤ w6.heap.size := hb.size
    have B_6 : Hid (Below w.heap.size w w6) := B_5.out.trans (hb.mono B_5.out.size)
    have L_6 : Hid (Rd w6 la l) := L_5.out.later hb
    have C1_6 : Hid (Rd w6 a1 C) := C1_5.out.later hb
    have X7_6 : Hid (Bx w6 w2.heap.size P0 Q0) := X7_5.out.later hb
    have C2_6 : Hid (Rd w6 a2 C) := C2_5.out.later hb
    have Y7_6 : Hid (Bx w6 w4.heap.size P0 Q0) := Y7_5.out.later hb
    have A3_6 : Hid (Rd w6 a3 A) := ho.rd'.2
    clear B_5 L_5 C1_5 X7_5 C2_5 Y7_5 hb
    clear ho
    go_wp2_with fail
    refine (QSA.out la lc _ L_6.out).mono ?_
    rintro e w7 ⟨a4, c4, rfl, ho, hb⟩
    have z6 : w6.heap.size ≤ w7.heap.size := hb.size
    have B_7 : Hid (Below w.heap.size w w7) := B_6.out.trans (hb.mono B_6.out.size)
    have L_7 : Hid (Rd w7 la l) := L_6.out.later hb
    have C1_7 : Hid (Rd w7 a1 C) := C1_6.out.later hb
    have X7_7 : Hid (Bx w7 w2.heap.size P0 Q0) := X7_6.out.later hb
    have C2_7 : Hid (Rd w7 a2 C) := C2_6.out.later hb
    have Y7_7 : Hid (Bx w7 w4.heap.size P0 Q0) := Y7_6.out.later hb
    have A3_7 : Hid (Rd w7 a3 A) := A3_6.out.later hb
    have A4_7 : Hid (Rd w7 a4 A) := ho.rd'.2
    clear B_6 L_6 C1_6 X7_6 C2_6 Y7_6 A3_6 hb
    clear ho
    go_wp2_with fail
    refine (sameInts_c a1 a2 n0 n0 c1 c2 C C _ HCl.out HCl.out (by omega) (by omega) C1_7.out C2_7.out).mono ?_
    rw [decide_eq_true rfl]
    rintro e w8 ⟨rfl, hb⟩
    have z7 : w7.heap.size ≤ w8.heap.size := hb.size
    have B_8 : Hid (Below w.heap.size w w8) := B_7.out.trans (hb.mono B_7.out.size)
    have L_8 : Hid (Rd w8 la l) := L_7.out.later hb
    have C1_8 : Hid (Rd w8 a1 C) := C1_7.out.later hb
    have X7_8 : Hid (Bx w8 w2.heap.size P0 Q0) := X7_7.out.later hb
    have Y7_8 : Hid (Bx w8 w4.heap.size P0 Q0) := Y7_7.out.later hb
    have A3_8 : Hid (Rd w8 a3 A) := A3_7.out.later hb
    have A4_8 : Hid (Rd w8 a4 A) := A4_7.out.later hb
    clear B_7 L_7 C1_7 X7_7 C2_7 Y7_7 A3_7 A4_7 hb
    obtain ⟨uX70, uX71, uX72⟩ := id X7_8.out
    obtain ⟨uY70, uY71, uY72⟩ := id Y7_8.out
    go_wp2_with fail
    clear uX70 uX71 uX72
    clear uY70 uY71 uY72
    refine (sameInts_c a3 a4 n0 n0 c3 c4 A A _ HAl.out HAl.out (by omega) (by omega) A3_8.out A4_8.out).mono ?_
    rw [decide_eq_true rfl]
    rintro e w9 ⟨rfl, hb⟩
    have z8 : w8.heap.size ≤ w9.heap.size := hb.size
    have B_9 : Hid (Below w.heap.size w w9) := B_8.out.trans (hb.mono B_8.out.size)
    have L_9 : Hid (Rd w9 la l) := L_8.out.later hb
    have C1_9 : Hid (Rd w9 a1 C) := C1_8.out.later hb
    have X7_9 : Hid (Bx w9 w2.heap.size P0 Q0) := X7_8.out.later hb
    have Y7_9 : Hid (Bx w9 w4.heap.size P0 Q0) := Y7_8.out.later hb
    have A3_9 : Hid (Rd w9 a3 A) := A3_8.out.later hb
    clear B_8 L_8 C1_8 X7_8 Y7_8 A3_8 A4_8 hb
    clear Y7_9
    obtain ⟨uX70, uX71, uX72⟩ := id X7_9.out
    go_wp2_with fail
    clear uX70 uX71 uX72
    refine (HGW.out _ B_9.out).mono ?_
    rintro e w10 ⟨rfl, hb⟩
    have z9 : w9.heap.size ≤ w10.heap.size := hb.size
    have B_10 : Hid (Below w.heap.size w w10) := B_9.out.trans (hb.mono B_9.out.size)
    have L_10 : Hid (Rd w10 la l) := L_9.out.later hb
    have C1_10 : Hid (Rd w10 a1 C) := C1_9.out.later hb
    have X7_10 : Hid (Bx w10 w2.heap.size P0 Q0) := X7_9.out.later hb
    have A3_10 : Hid (Rd w10 a3 A) := A3_9.out.later hb
    clear B_9 L_9 C1_9 X7_9 A3_9 hb
    clear X7_10
    go_wp2
    go_loopw [102] (fun iv wr => ∃ k : Nat, k ≤ n0 ∧ iv = .int .i64 k ∧ Hid (Below w10.heap.size w10 wr)) (fun iv _ => n0 - (intOf iv).toNat)
    case atStart => exact ⟨0, Nat.zero_le _, rfl, Below.refl _ _⟩
    case round =>
      obtain ⟨k, hk, rfl, HBL⟩ := hrel
      by_cases hlt : k < n0
      · have h0 : (0 : Int) ≤ (k : Int) := by omega
        have hl : (k : Int) < (n0 : Int) := by omega
        have HRL : Hid (Rd wr la l) := L_10.out.later HBL.out
        have HRC : Hid (Rd wr a1 C) := C1_10.out.later HBL.out
        have HRA : Hid (Rd wr a3 A) := A3_10.out.later HBL.out
        obtain ⟨b1, o1, rfl, g1⟩ := HRL.out.get (k := k) (by rw [HLl.out]; exact hlt)
        obtain ⟨b2, o2, rfl, g2⟩ := HRC.out.get (k := k) (by rw [HCl.out]; exact hlt)
        obtain ⟨b3, o3, rfl, g3⟩ := HRA.out.get (k := k) (by rw [HAl.out]; exact hlt)
        have hco := HCO.out k hlt
        have HZK : Hid (∀ j, j < k → l.getD j 0 = l.getD k 0 → C.getD j 0 = 0 → C.getD k 0 ≠ 0) := fun j hj => HZZ.out k j hj hlt
        generalize l.getD k 0 = v at g1 HZK
        generalize C.getD k 0 = cv at g2 hco HZK
        generalize A.getD k 0 = av at g3 hco
        rcases hco with hco | hco
        · have hcv : (cv != av) = false := by simp [hco]
          clear hco
          go_wp2
          go_quiet (fail)
          go_wp2
          go_loop [18] (fun jv => ∃ j : Nat, j ≤ k ∧ jv = .int .i64 j) (fun jv => k - (intOf jv).toNat)
          case atStart => exact ⟨0, Nat.zero_le _, rfl⟩
          case round =>
            obtain ⟨j, hj, rfl⟩ := hrel
            by_cases hjl : j < k
            · have hj0 : (0 : Int) ≤ (j : Int) := by omega
              have hjn : (j : Int) < (n0 : Int) := by omega
              have hjk : (j : Int) < (k : Int) := by omega
              have hz := HZK.out j hjl
              obtain ⟨b4, o4, e4, g4⟩ := HRL.out.get (k := j) (by rw [HLl.out]; omega)
              injection e4 with e4
              injection e4 with e41 e42
              subst e41 e42
              obtain ⟨b5, o5, e5, g5⟩ := HRC.out.get (k := j) (by rw [HCl.out]; omega)
              injection e5 with e5
              injection e5 with e51 e52
              subst e51 e52
              generalize l.getD j 0 = lv at g4 hz
              generalize C.getD j 0 = cj at g5 hz
              by_cases e1 : lv = v
              · have x1 : (lv == v) = true := by simpa using e1
                by_cases e2 : cj = 0
                · have e3 : cv ≠ 0 := hz e1 e2
                  have x2 : (cj == 0) = true := by simpa using e2
                  have x3 : (cv == 0) = false := by simpa using e3
                  clear e1 e2 hz e3
                  go_wp2
                  go_round
                  case rel => exact ⟨j + 1, by omega, by go_num⟩
                  case measure => simp [intOf]; omega
                · have x2 : (cj == 0) = false := by simpa using e2
                  clear e1 e2 hz
                  go_wp2
                  go_round
                  case rel => exact ⟨j + 1, by omega, by go_num⟩
                  case measure => simp [intOf]; omega
              · have x1 : (lv == v) = false := by simpa using e1
                clear e1 hz
                go_wp2
                go_round
                case rel => exact ⟨j + 1, by omega, by go_num⟩
                case measure => simp [intOf]; omega
            · obtain rfl : j = k := by omega
              have hjk : ¬ (j : Int) < (j : Int) := by omega
              go_wp2
              go_roundw
              case rel => exact ⟨j + 1, by omega, by go_num, below_drewN HBL.out _⟩
              case measure => simp [intOf]; omega
        · obtain ⟨rfl, rfl⟩ := hco
          go_wp2
          go_quiet (fail)
          go_wp2
          go_loop [18] (fun jv => ∃ j : Nat, j ≤ k ∧ jv = .int .i64 j) (fun jv => k - (intOf jv).toNat)
          case atStart => exact ⟨0, Nat.zero_le _, rfl⟩
          case round =>
            obtain ⟨j, hj, rfl⟩ := hrel
            by_cases hjl : j < k
            · have hj0 : (0 : Int) ≤ (j : Int) := by omega
              have hjn : (j : Int) < (n0 : Int) := by omega
              have hjk : (j : Int) < (k : Int) := by omega
              have hz := HZK.out j hjl
              obtain ⟨b4, o4, e4, g4⟩ := HRL.out.get (k := j) (by rw [HLl.out]; omega)
              injection e4 with e4
              injection e4 with e41 e42
              subst e41 e42
              obtain ⟨b5, o5, e5, g5⟩ := HRC.out.get (k := j) (by rw [HCl.out]; omega)
              injection e5 with e5
              injection e5 with e51 e52
              subst e51 e52
              generalize l.getD j 0 = lv at g4 hz
              generalize C.getD j 0 = cj at g5 hz
              by_cases e1 : lv = v
              · have x1 : (lv == v) = true := by simpa using e1
                by_cases e2 : cj = 0
                · have e3 : (2 : Int) ≠ 0 := hz e1 e2
                  have x2 : (cj == 0) = true := by simpa using e2
                  have x3 : ((2 : Int) == 0) = false := by decide
                  clear e1 e2 hz e3
                  go_wp2
                  go_round
                  case rel => exact ⟨j + 1, by omega, by go_num⟩
                  case measure => simp [intOf]; omega
                · have x2 : (cj == 0) = false := by simpa using e2
                  clear e1 e2 hz
                  go_wp2
                  go_round
                  case rel => exact ⟨j + 1, by omega, by go_num⟩
                  case measure => simp [intOf]; omega
              · have x1 : (lv == v) = false := by simpa using e1
                clear e1 hz
                go_wp2
                go_round
                case rel => exact ⟨j + 1, by omega, by go_num⟩
                case measure => simp [intOf]; omega
            · obtain rfl : j = k := by omega
              have hjk : ¬ (j : Int) < (j : Int) := by omega
              go_wp2
              go_roundw
              case rel => exact ⟨j + 1, by omega, by go_num, below_drewN HBL.out _⟩
              case measure => simp [intOf]; omega
      · obtain rfl : k = n0 := by omega
        have hkk : ¬ (k : Int) < (k : Int) := by omega
        clear C1_10
        clear A3_10
        clear L_10
        have B_11 : Hid (Below w.heap.size w wr) := B_10.out.trans (HBL.out.mono B_10.out.size)
        have z10 : w10.heap.size ≤ wr.heap.size := HBL.out.size
        clear B_10
        clear HBL
        go_wp2_with fail
        refine (drawTake_c bo m d _ hm (HM.out.later B_11.out B_11.out.size)).mono ?_
        rintro e w12 ⟨t, x, y, rfl, htb, hxb, hb⟩
        have z11 : wr.heap.size ≤ w12.heap.size := hb.size
        have B_12 : Hid (Below w.heap.size w w12) := B_11.out.trans (hb.mono B_11.out.size)
        clear B_11 hb
        have htw := fun h => take_twice (t := t) (x := x) (n := y) h
        obtain ⟨P, hP⟩ : ∃ P, (takeT t x y).1.1 = P := ⟨_, rfl⟩
        obtain ⟨Q, hQ⟩ : ∃ Q, (takeT t x y).1.2 = Q := ⟨_, rfl⟩
        obtain ⟨R, hR⟩ : ∃ R, (takeT t x y).2 = R := ⟨_, rfl⟩
        obtain ⟨tk, htk⟩ : ∃ tk, takeOk t x y = tk := ⟨_, rfl⟩
        obtain ⟨gw, hgw⟩ : ∃ gw, goodWn t x = gw := ⟨_, rfl⟩
        have hpq : (takeT t x y).1 = (P, Q) := by rw [← hP, ← hQ]
        have h64 : -9223372036854775808 ≤ Q ∧ Q ≤ 9223372036854775807 := by
          rw [← hQ]
          cases h9 : takeOk t x y
          · rw [takeT_bad h9]; decide
          · have h8 := (goodWn_of (take_twice h9).1)
            have := h8.2.2.2.1
            omega
        have QTI : Hid (∀ wx, Below w.heap.size w wx → Calls Tryd.prog 19 #[.agg #[.int .i64 t, .int .i64 x], .int .i64 y] wx fun e w' => e = .returned (.tuple #[.agg #[.int .i64 P, .int .i64 Q], .int .i64 R, .bool tk]) ∧ Below wx.heap.size wx w') := fun wx h => by
          have q := implTake_c t x y wx (HT0.out.later h) (by omega)
          rw [hP, hQ, hR, htk] at q
          exact q
        have QTS : Hid (∀ wx, Calls Tryd.prog 20 #[.agg #[.int .i64 t, .int .i64 x], .int .i64 y] wx fun e w' => e = .returned (.tuple #[.agg #[.int .i64 P, .int .i64 Q], .int .i64 R, .bool tk]) ∧ Below wx.heap.size wx w') := fun wx => by
          have q := specTake_c t x y wx (by omega) (by omega)
          rw [hP, hQ, hR, htk] at q
          exact q
        have QGI : Hid (∀ wx, Below w.heap.size w wx → Calls Tryd.prog 17 #[.agg #[.int .i64 t, .int .i64 x]] wx fun e w' => e = .returned (.bool gw) ∧ Below wx.heap.size wx w') := fun wx h => by
          have q := goodWindow_c t x wx (HT0.out.later h) (by omega)
          rw [hgw] at q
          exact q
        have QGS : Hid (∀ wx, Calls Tryd.prog 21 #[.agg #[.int .i64 t, .int .i64 x]] wx fun e w' => e = .returned (.bool gw) ∧ Below wx.heap.size wx w') := fun wx => by
          have q := specGood_c t x wx (by omega) (by omega)
          rw [hgw] at q
          exact q
        rw [htk, hpq] at htw
        have HTW : Hid (tk = true → goodWn P Q = true ∧ takeOk P Q y = true ∧ 0 < (takeT P Q y).2 ∧ (takeT P Q y).1 = (P, Q) ∧ t ≤ P) := htw
        clear htw hP hQ hR htk hgw hpq
        obtain ⟨w13, hA12⟩ : ∃ X, w12.alloc (.cells #[.int .i64 t, .int .i64 x] 26) = X := ⟨_, rfl⟩
        have hb : Below w12.heap.size w12 w13 := by rw [← hA12]; exact balloc w12 _
        have z12 : w12.heap.size < w13.heap.size := by rw [← hA12]; simp
        have B_13 : Hid (Below w.heap.size w w13) := B_12.out.trans (hb.mono B_12.out.size)
        have X19_13 : Hid (Bx w13 w12.heap.size t x) := by rw [← hA12]; exact bx_new w12 t x 26
        clear B_12 hb
        obtain ⟨uX190, uX191, uX192⟩ := id X19_13.out
        go_wp2_with fail
        clear uX190 uX191 uX192
        clear hA12
        refine (QTI.out _ B_13.out).mono ?_
        rintro e w14 ⟨rfl, hb⟩
        have z13 : w13.heap.size ≤ w14.heap.size := hb.size
        have B_14 : Hid (Below w.heap.size w w14) := B_13.out.trans (hb.mono B_13.out.size)
        have X19_14 : Hid (Bx w14 w12.heap.size t x) := X19_13.out.later hb
        clear B_13 X19_13 hb
        obtain ⟨w15, hA14⟩ : ∃ X, w14.alloc (.cells #[.int .i64 P, .int .i64 Q] 26) = X := ⟨_, rfl⟩
        have hb : Below w14.heap.size w14 w15 := by rw [← hA14]; exact balloc w14 _
        have z14 : w14.heap.size < w15.heap.size := by rw [← hA14]; simp
        have B_15 : Hid (Below w.heap.size w w15) := B_14.out.trans (hb.mono B_14.out.size)
        have X19_15 : Hid (Bx w15 w12.heap.size t x) := X19_14.out.later hb
        have X21_15 : Hid (Bx w15 w14.heap.size P Q) := by rw [← hA14]; exact bx_new w14 P Q 26
        clear B_14 X19_14 hb
        obtain ⟨uX190, uX191, uX192⟩ := id X19_15.out
        go_wp2_with fail
        clear uX190 uX191 uX192
        clear hA14
        refine (QTS.out _).mono ?_
        rintro e w16 ⟨rfl, hb⟩
        have z15 : w15.heap.size ≤ w16.heap.size := hb.size
        have B_16 : Hid (Below w.heap.size w w16) := B_15.out.trans (hb.mono B_15.out.size)
        have X19_16 : Hid (Bx w16 w12.heap.size t x) := X19_15.out.later hb
        have X21_16 : Hid (Bx w16 w14.heap.size P Q) := X21_15.out.later hb
        clear B_15 X19_15 X21_15 hb
        obtain ⟨w17, hA16⟩ : ∃ X, w16.alloc (.cells #[.int .i64 P, .int .i64 Q] 26) = X := ⟨_, rfl⟩
        have hb : Below w16.heap.size w16 w17 := by rw [← hA16]; exact balloc w16 _
        have z16 : w16.heap.size < w17.heap.size := by rw [← hA16]; simp
        have B_17 : Hid (Below w.heap.size w w17) := B_16.out.trans (hb.mono B_16.out.size)
        have X19_17 : Hid (Bx w17 w12.heap.size t x) := X19_16.out.later hb
        have X21_17 : Hid (Bx w17 w14.heap.size P Q) := X21_16.out.later hb
        have X24_17 : Hid (Bx w17 w16.heap.size P Q) := by rw [← hA16]; exact bx_new w16 P Q 26
        clear B_16 X19_16 X21_16 hb
        have heq2 := fun wx => run_neq_win P Q wx
        have heq3 := fun wx => run_eql_win P Q wx
        go_wp2_with fail
        clear hA16
        refine wp_region_held_drew (S := (fun Z => (Z.cell? ⟨w12.heap.size, 0, none⟩ = some (.int .i64 t) ∧ Z.cell? ⟨w12.heap.size, 1, none⟩ = some (.int .i64 x)) ∧ (Z.cell? ⟨w14.heap.size, 0, none⟩ = some (.int .i64 P) ∧ Z.cell? ⟨w14.heap.size, 1, none⟩ = some (.int .i64 Q)) ∧ (Z.cell? ⟨w16.heap.size, 0, none⟩ = some (.int .i64 P) ∧ Z.cell? ⟨w16.heap.size, 1, none⟩ = some (.int .i64 Q)))) (by kernel_rfl) ?_ (fun hHeld => ?_)
        · exact ⟨X19_17.out.2, X21_17.out.2, X24_17.out.2⟩
        obtain ⟨v0, hv0⟩ : ∃ D, w17.drew = D := ⟨_, rfl⟩
        have hb0 : Below w17.heap.size w17 v0 := by rw [← hv0]; exact (Below.refl _ _).drew
        rw [hv0] at hHeld ⊢
        have B_18 : Hid (Below w.heap.size w v0) := B_17.out.trans (hb0.mono B_17.out.size)
        have X19_18 : Hid (Bx v0 w12.heap.size t x) := X19_17.out.later hb0
        have X21_18 : Hid (Bx v0 w14.heap.size P Q) := X21_17.out.later hb0
        have X24_18 : Hid (Bx v0 w16.heap.size P Q) := X24_17.out.later hb0
        have z17 : w17.heap.size ≤ v0.heap.size := hb0.size
        clear B_17 X19_17 X21_17 X24_17
        clear hb0 hv0
        refine takeJE16 (i := 0) (oi := _) (v := ?_) (d := some 176) rfl (by kernel_rfl) (by kernel_rfl) (by kernel_rfl) (by kernel_rfl) (fun _ _ _ h => h) (Or.inl ⟨by rfl, ?_⟩) (by assumption) ?_
        rotate_left
        · (intro w hSw; (try dsimp only at hSw); go_simp <;> with_reducible rfl)
        try simp only [Act.put, List.setIfInBounds_toArray, List.set_cons_zero, List.set_cons_succ]
        refine takeJE16 (i := 1) (oi := _) (v := ?_) (d := some 177) rfl (by kernel_rfl) (by kernel_rfl) (by kernel_rfl) (by kernel_rfl) (fun _ _ _ h => h) (Or.inl ⟨by rfl, ?_⟩) (by assumption) ?_
        rotate_left
        · (intro w hSw; (try dsimp only at hSw); go_simp <;> with_reducible rfl)
        try simp only [Act.put, List.setIfInBounds_toArray, List.set_cons_zero, List.set_cons_succ]
        refine takeJE16 (i := 2) (oi := _) (v := ?_) (d := some 178) rfl (by kernel_rfl) (by kernel_rfl) (by kernel_rfl) (by kernel_rfl) (fun _ _ _ h => h) (Or.inl ⟨by rfl, ?_⟩) (by assumption) ?_
        rotate_left
        · (intro w hSw; (try dsimp only at hSw); go_simp <;> with_reducible rfl)
        try simp only [Act.put, List.setIfInBounds_toArray, List.set_cons_zero, List.set_cons_succ]
        refine takeJE16 (i := 3) (oi := _) (v := ?_) (d := some 179) rfl (by kernel_rfl) (by kernel_rfl) (by kernel_rfl) (by kernel_rfl) (fun _ _ _ h => h) (Or.inl ⟨by rfl, ?_⟩) (by assumption) ?_
        rotate_left
        · (intro w hSw; (try dsimp only at hSw); go_simp <;> with_reducible rfl)
        try simp only [Act.put, List.setIfInBounds_toArray, List.set_cons_zero, List.set_cons_succ]
        refine takeJE16 (i := 4) (oi := _) (v := ?_) (d := some 180) rfl (by kernel_rfl) (by kernel_rfl) (by kernel_rfl) (by kernel_rfl) (fun _ _ _ h => h) (Or.inl ⟨by rfl, ?_⟩) (by assumption) ?_
        rotate_left
        · (intro w hSw; (try dsimp only at hSw); go_simp <;> with_reducible rfl)
        try simp only [Act.put, List.setIfInBounds_toArray, List.set_cons_zero, List.set_cons_succ]
        refine takeJE16 (i := 5) (oi := _) (v := ?_) (d := some 181) rfl (by kernel_rfl) (by kernel_rfl) (by kernel_rfl) (by kernel_rfl) (fun _ _ _ h => h) (Or.inl ⟨by rfl, ?_⟩) (by assumption) ?_
        rotate_left
        · (intro w hSw; (try dsimp only at hSw); go_simp <;> with_reducible rfl)
        try simp only [Act.put, List.setIfInBounds_toArray, List.set_cons_zero, List.set_cons_succ]
        refine takeJE16 (i := 6) (oi := _) (v := ?_) (d := some 182) rfl (by kernel_rfl) (by kernel_rfl) (by kernel_rfl) (by kernel_rfl) (fun _ _ _ h => h) (Or.inl ⟨by rfl, ?_⟩) (by assumption) ?_
        rotate_left
        · (intro w hSw; (try dsimp only at hSw); go_simp <;> with_reducible rfl)
        try simp only [Act.put, List.setIfInBounds_toArray, List.set_cons_zero, List.set_cons_succ]
        refine takeJE16 (i := 7) (oi := _) (v := ?_) (d := some 183) rfl (by kernel_rfl) (by kernel_rfl) (by kernel_rfl) (by kernel_rfl) (fun _ _ _ h => h) (Or.inl ⟨by rfl, ?_⟩) (by assumption) ?_
        rotate_left
        · (intro w hSw; (try dsimp only at hSw); go_simp <;> with_reducible rfl)
        try simp only [Act.put, List.setIfInBounds_toArray, List.set_cons_zero, List.set_cons_succ]
        refine takeJE16 (i := 8) (oi := _) (v := ?_) (d := some 184) rfl (by kernel_rfl) (by kernel_rfl) (by kernel_rfl) (by kernel_rfl) (fun _ _ _ h => h) (Or.inl ⟨by rfl, ?_⟩) (by assumption) ?_
        rotate_left
        · (intro w hSw; (try dsimp only at hSw); go_simp <;> with_reducible rfl)
        try simp only [Act.put, List.setIfInBounds_toArray, List.set_cons_zero, List.set_cons_succ]
        refine takeJE16 (i := 9) (oi := _) (v := ?_) (d := some 185) rfl (by kernel_rfl) (by kernel_rfl) (by kernel_rfl) (by kernel_rfl) (fun _ _ _ h => h) (Or.inl ⟨by rfl, ?_⟩) (by assumption) ?_
        rotate_left
        · (intro w hSw; (try dsimp only at hSw); go_simp <;> with_reducible rfl)
        try simp only [Act.put, List.setIfInBounds_toArray, List.set_cons_zero, List.set_cons_succ]
        refine takeJE16 (i := 10) (oi := _) (v := ?_) (d := some 186) rfl (by kernel_rfl) (by kernel_rfl) (by kernel_rfl) (by kernel_rfl) (fun _ _ _ h => h) (Or.inl ⟨by rfl, ?_⟩) (by assumption) ?_
        rotate_left
        · (intro w hSw; (try dsimp only at hSw); go_simp <;> with_reducible rfl)
        try simp only [Act.put, List.setIfInBounds_toArray, List.set_cons_zero, List.set_cons_succ]
        refine takeJE16 (i := 11) (oi := _) (v := ?_) (d := some 187) rfl (by kernel_rfl) (by kernel_rfl) (by kernel_rfl) (by kernel_rfl) (fun _ _ _ h => h) (Or.inl ⟨by rfl, ?_⟩) (by assumption) ?_
        rotate_left
        · (intro w hSw; (try dsimp only at hSw); go_simp <;> with_reducible rfl)
        try simp only [Act.put, List.setIfInBounds_toArray, List.set_cons_zero, List.set_cons_succ]
        refine takeJE16 (i := 12) (oi := _) (v := ?_) (d := some 188) rfl (by kernel_rfl) (by kernel_rfl) (by kernel_rfl) (by kernel_rfl) (fun _ _ _ h => h) (Or.inl ⟨by rfl, ?_⟩) (by assumption) ?_
        rotate_left
        · (intro w hSw; (try dsimp only at hSw); go_simp <;> with_reducible rfl)
        try simp only [Act.put, List.setIfInBounds_toArray, List.set_cons_zero, List.set_cons_succ]
        refine takeJE16 (i := 13) (oi := _) (v := ?_) (d := some 189) rfl (by kernel_rfl) (by kernel_rfl) (by kernel_rfl) (by kernel_rfl) (fun _ _ _ h => h) (Or.inl ⟨by rfl, ?_⟩) (by assumption) ?_
        rotate_left
        · (intro w hSw; (try dsimp only at hSw); go_simp <;> with_reducible rfl)
        try simp only [Act.put, List.setIfInBounds_toArray, List.set_cons_zero, List.set_cons_succ]
        refine takeJE16 (i := 14) (oi := _) (v := ?_) (d := some 190) rfl (by kernel_rfl) (by kernel_rfl) (by kernel_rfl) (by kernel_rfl) (fun _ _ _ h => h) (Or.inl ⟨by rfl, ?_⟩) (by assumption) ?_
        rotate_left
        · (intro w hSw; (try dsimp only at hSw); go_simp <;> with_reducible rfl)
        try simp only [Act.put, List.setIfInBounds_toArray, List.set_cons_zero, List.set_cons_succ]
        refine takeJE16 (i := 16) (oi := _) (v := ?_) (d := some 192) rfl (by kernel_rfl) (by kernel_rfl) (by kernel_rfl) (by kernel_rfl) (fun _ _ _ h => h) (Or.inl ⟨by rfl, ?_⟩) (by assumption) ?_
        rotate_left
        · (intro w hSw; (try dsimp only at hSw); go_simp <;> with_reducible rfl)
        try simp only [Act.put, List.setIfInBounds_toArray, List.set_cons_zero, List.set_cons_succ]
        refine wpAnyH_ready (rs := [15]) (by kernel_rfl) (by simp) ?_
        refine AllReadyH.cons (o := _) rfl (fun K hK => ?_) AllReadyH.nil
        go_simp
        refine (QGI.out _ B_18.out).mono ?_
        rintro e v1 ⟨rfl, hb⟩
        have B_19 : Hid (Below w.heap.size w v1) := B_18.out.trans (hb.mono B_18.out.size)
        have X19_19 : Hid (Bx v1 w12.heap.size t x) := X19_18.out.later hb
        have X21_19 : Hid (Bx v1 w14.heap.size P Q) := X21_18.out.later hb
        have X24_19 : Hid (Bx v1 w16.heap.size P Q) := X24_18.out.later hb
        have z18 : v0.heap.size ≤ v1.heap.size := hb.size
        clear B_18 X19_18 X21_18 X24_18
        clear hb
        refine hK.out _ _ ?_ (fun hHeld => ?_)
        · exact ⟨X19_19.out.2, X21_19.out.2, X24_19.out.2⟩
        clear hK K
        try simp only [Act.put, List.setIfInBounds_toArray, List.set_cons_zero, List.set_cons_succ]
        refine wpAnyH_ready (rs := [17]) (by kernel_rfl) (by simp) ?_
        refine AllReadyH.cons (o := _) rfl (fun K hK => ?_) AllReadyH.nil
        go_simp
        refine (QGS.out _).mono ?_
        rintro e v2 ⟨rfl, hb⟩
        have B_20 : Hid (Below w.heap.size w v2) := B_19.out.trans (hb.mono B_19.out.size)
        have X19_20 : Hid (Bx v2 w12.heap.size t x) := X19_19.out.later hb
        have X21_20 : Hid (Bx v2 w14.heap.size P Q) := X21_19.out.later hb
        have X24_20 : Hid (Bx v2 w16.heap.size P Q) := X24_19.out.later hb
        have z19 : v1.heap.size ≤ v2.heap.size := hb.size
        clear B_19 X19_19 X21_19 X24_19
        clear hb
        refine hK.out _ _ ?_ (fun hHeld => ?_)
        · exact ⟨X19_20.out.2, X21_20.out.2, X24_20.out.2⟩
        clear hK K
        try simp only [Act.put, List.setIfInBounds_toArray, List.set_cons_zero, List.set_cons_succ]
        refine takeJE16 (i := 18) (oi := _) (v := ?_) (d := some 194) rfl (by kernel_rfl) (by kernel_rfl) (by kernel_rfl) (by kernel_rfl) (fun _ _ _ h => h) (Or.inl ⟨by rfl, ?_⟩) (by assumption) ?_
        rotate_left
        · (intro w hSw; (try dsimp only at hSw); go_simp <;> with_reducible rfl)
        try simp only [Act.put, List.setIfInBounds_toArray, List.set_cons_zero, List.set_cons_succ]
        refine takeJE16 (i := 19) (oi := _) (v := ?_) (d := some 195) rfl (by kernel_rfl) (by kernel_rfl) (by kernel_rfl) (by kernel_rfl) (fun _ _ _ h => h) (Or.inl ⟨by rfl, ?_⟩) (by assumption) ?_
        rotate_left
        · (intro w hSw; (try dsimp only at hSw); go_simp <;> with_reducible rfl)
        try simp only [Act.put, List.setIfInBounds_toArray, List.set_cons_zero, List.set_cons_succ]
        refine wpAnyH_done (by kernel_rfl) ?_ _
        clear hHeld
        cases tk
        · clear HTW
          go_wp2
          go_ret
          exact ⟨rfl, B_20.out⟩
        · obtain ⟨y1, y2, y3, y4, y5⟩ := HTW.out rfl
          clear HTW QTI QTS QGI QGS
          obtain ⟨R2, hR2⟩ : ∃ R2, (takeT P Q y).2 = R2 := ⟨_, rfl⟩
          rw [hR2] at y3
          have QT2 : Hid (∀ wx, Below w.heap.size w wx → Calls Tryd.prog 19 #[.agg #[.int .i64 P, .int .i64 Q], .int .i64 y] wx fun e w' => e = .returned (.tuple #[.agg #[.int .i64 P, .int .i64 Q], .int .i64 R2, .bool true]) ∧ Below wx.heap.size wx w') := fun wx h => by
            have q := implTake_c P Q y wx (HT0.out.later h) h64
            rw [y4, hR2, y2] at q
            exact q
          have QG2 : Hid (∀ wx, Below w.heap.size w wx → Calls Tryd.prog 17 #[.agg #[.int .i64 P, .int .i64 Q]] wx fun e w' => e = .returned (.bool true) ∧ Below wx.heap.size wx w') := fun wx h => by
            have q := goodWindow_c P Q wx (HT0.out.later h) h64
            rw [y1] at q
            exact q
          clear y1 y2 y4 hR2
          obtain ⟨uX210, uX211, uX212⟩ := id X21_20.out
          go_wp2_with fail
          clear uX210 uX211 uX212
          refine (QT2.out _ B_20.out).mono ?_
          rintro e w21 ⟨rfl, hb⟩
          have z20 : v2.heap.size ≤ w21.heap.size := hb.size
          have B_21 : Hid (Below w.heap.size w w21) := B_20.out.trans (hb.mono B_20.out.size)
          have X19_21 : Hid (Bx w21 w12.heap.size t x) := X19_20.out.later hb
          have X21_21 : Hid (Bx w21 w14.heap.size P Q) := X21_20.out.later hb
          have X24_21 : Hid (Bx w21 w16.heap.size P Q) := X24_20.out.later hb
          clear B_20 X19_20 X21_20 X24_20 hb
          obtain ⟨w22, hA21⟩ : ∃ X, w21.alloc (.cells #[.int .i64 P, .int .i64 Q] 26) = X := ⟨_, rfl⟩
          have hb : Below w21.heap.size w21 w22 := by rw [← hA21]; exact balloc w21 _
          have z21 : w21.heap.size < w22.heap.size := by rw [← hA21]; simp
          have B_22 : Hid (Below w.heap.size w w22) := B_21.out.trans (hb.mono B_21.out.size)
          have X19_22 : Hid (Bx w22 w12.heap.size t x) := X19_21.out.later hb
          have X21_22 : Hid (Bx w22 w14.heap.size P Q) := X21_21.out.later hb
          have X24_22 : Hid (Bx w22 w16.heap.size P Q) := X24_21.out.later hb
          have X27_22 : Hid (Bx w22 w21.heap.size P Q) := by rw [← hA21]; exact bx_new w21 P Q 26
          clear B_21 X19_21 X21_21 X24_21 hb
          obtain ⟨uX210, uX211, uX212⟩ := id X21_22.out
          go_wp2_with fail
          clear uX210 uX211 uX212
          clear hA21
          refine (QG2.out _ B_22.out).mono ?_
          rintro e w23 ⟨rfl, hb⟩
          have z22 : w22.heap.size ≤ w23.heap.size := hb.size
          have B_23 : Hid (Below w.heap.size w w23) := B_22.out.trans (hb.mono B_22.out.size)
          have X19_23 : Hid (Bx w23 w12.heap.size t x) := X19_22.out.later hb
          have X21_23 : Hid (Bx w23 w14.heap.size P Q) := X21_22.out.later hb
          have X24_23 : Hid (Bx w23 w16.heap.size P Q) := X24_22.out.later hb
          have X27_23 : Hid (Bx w23 w21.heap.size P Q) := X27_22.out.later hb
          clear B_22 X19_22 X21_22 X24_22 X27_22 hb
          obtain ⟨uX190, uX191, uX192⟩ := id X19_23.out
          obtain ⟨uX210, uX211, uX212⟩ := id X21_23.out
          obtain ⟨uX270, uX271, uX272⟩ := id X27_23.out
          go_wp2
          go_ret
          exact ⟨rfl, B_23.out⟩

end Go.Proofs.YtjpegbodhpnflaaDoor
