/- Chapter 16: the law of PlayNumbers. -/
import Derived.Test.YtjpegbodhpnflaaDoorPN16
import Derived.Test.YtjpegbodhpnflaaDoorLT16
namespace Go.Proofs.YtjpegbodhpnflaaDoor
set_option linter.unusedVariables false
set_option maxRecDepth 1000000
set_option linter.unusedSimpArgs false
open Go.RowKit

theorem Bx.kept {w w' : World} {g : Nat} {t x : Int} {row : Option Nat} (h : Bx w g t x) (hg : w.grownBy w' row) (hne : some g ≠ row) : Bx w' g t x :=
  ⟨Nat.lt_of_lt_of_le h.1 hg.size, (World.grownBy.cell_far hg ⟨g, 0, none⟩ h.1 hne).trans h.2.1, (World.grownBy.cell_far hg ⟨g, 1, none⟩ h.1 hne).trans h.2.2⟩

set_option maxHeartbeats 4000000 in
theorem lawPlayNumbers_c (ao : Option Addr) (n c : Nat) (l : List Int) (w : World) (hx : l.length = n) (hn : n ≤ 9223372036854775807) (hr : Rd w ao l) (ht : Tb w) :
    Calls Tryd.prog 7 #[.slice ao n c] w fun e w' => e = .returned (.bool true) ∧ Below w.heap.size w w' := by
  by_cases hz : 1048576 < n
  · have hz2 : (1048576 : Int) < (n : Int) := by omega
    go_enter Tryd.func7, Tryd.ntmps7
    go_wp2
    go_ret
    exact ⟨rfl, Below.refl _ _⟩
  have hz2 : ¬ (1048576 : Int) < (n : Int) := by omega
  have hn17 : n ≤ 17592186044416 := by omega
  obtain ⟨V, hV⟩ : ∃ V, codesV l = V := ⟨_, rfl⟩
  obtain ⟨ok, hok⟩ : ∃ ok, playOk l = ok := ⟨_, rfl⟩
  obtain ⟨T, hT⟩ : ∃ T, (winV l).1 = T := ⟨_, rfl⟩
  obtain ⟨R, hRR⟩ : ∃ R, (winV l).2 = R := ⟨_, rfl⟩
  have QE : Hid (∀ wx, Calls Tryd.prog 32 #[.agg #[.int .i64 T, .int .i64 R], .agg #[.int .i64 T, .int .i64 R]] wx fun e w' => e = .returned (.bool true) ∧ Below wx.heap.size wx w') := fun wx => eqWindow_c T R wx
  have QS : Hid (∀ p k wx, Rd wx p l → Calls Tryd.prog 13 #[.slice p n k] wx fun e w' => ∃ a' c', e = .returned (.tuple #[.slice a' V.length c', .agg #[.int .i64 T, .int .i64 R], .bool ok]) ∧ Own w' wx.heap.size (.slice a' V.length c') V ∧ Below wx.heap.size wx w') := fun p k wx h => by
    have := specNums_c p n k l wx hx hn17 h
    rw [hV, hok, hT, hRR] at this
    exact this
  have QI : Hid (∀ p k wx, Rd wx p l → Below w.heap.size w wx → Calls Tryd.prog 12 #[.slice p n k] wx fun e w' => ∃ a' c', e = .returned (.tuple #[.slice a' V.length c', .agg #[.int .i64 T, .int .i64 R], .bool ok]) ∧ Own w' wx.heap.size (.slice a' V.length c') V ∧ Below wx.heap.size wx w') := fun p k wx h h2 => by
    have := implNums_c p n k l wx hx hn17 h (ht.later h2)
    rw [hV, hok, hT, hRR] at this
    exact this
  have HV : Hid (V.length ≤ 17592186044416) := by show _ ≤ _; rw [← hV]; have := codesV_len l; omega
  have HX : Hid (l.length = n) := hx
  have HR0A : Hid (∀ wx, Below w.heap.size w wx → Rd wx ao l) := fun wx h => hr.later h
  have hR : (ok != ok) = false := by simp
  have hmo : ¬ (1 : Int) + (V.length : Int) < 0 := by omega
  have hmm : ((1 : Int) + (V.length : Int) != 1 + (V.length : Int)) = false := by simp
  have hmn : ¬ (1 : Int) + (n : Int) < 0 := by omega
  have hmb : (1 : Int) + (V.length : Int) ≤ 17592186044417 := by have := HV.out; omega
  have A_0 : Hid (Rd w ao l) := hr
  have B_0 : Hid (Below w.heap.size w w) := Below.refl _ _
  clear hx hr hV hok hT hRR ht
  go_enter Tryd.func7, Tryd.ntmps7
  go_wp2_with fail
  refine (toIntS_c ao n c l _ HX.out hn17 A_0.out).mono ?_
  rintro e w1 ⟨p1, k1, rfl, ho, hb⟩
  have z0 : w.heap.size ≤ w1.heap.size := hb.size
  have B_1 : Hid (Below w.heap.size w w1) := B_0.out.trans (hb.mono B_0.out.size)
  have A_1 : Hid (Rd w1 ao l) := A_0.out.later hb
  have P1_1 : Hid (Own w1 w.heap.size (.slice p1 n k1) l) := ho
  have I_P1 : Hid (∀ k, (Value.slice p1 n k1).ownBlock = some k → w.heap.size ≤ k ∧ k < w1.heap.size) := fun k hk => ⟨own_block_ge P1_1.out k hk, (World.ownsRow.lt P1_1.out k hk).2⟩
  clear B_0 A_0 hb
  clear ho
  go_wp2_with fail
  refine (QS.out p1 k1 _ P1_1.out.rd'.2).mono ?_
  rintro e w2 ⟨a1, c1, rfl, ho, hb⟩
  have z1 : w1.heap.size ≤ w2.heap.size := hb.size
  have B_2 : Hid (Below w.heap.size w w2) := B_1.out.trans (hb.mono B_1.out.size)
  have A_2 : Hid (Rd w2 ao l) := A_1.out.later hb
  have V_2 : Hid (Own w2 w1.heap.size (.slice a1 V.length c1) V) := ho
  have I_V : Hid (∀ k, (Value.slice a1 V.length c1).ownBlock = some k → w1.heap.size ≤ k ∧ k < w2.heap.size) := fun k hk => ⟨own_block_ge V_2.out k hk, (World.ownsRow.lt V_2.out k hk).2⟩
  clear B_1 A_1 P1_1 hb
  clear ho
  obtain ⟨w3, hA2⟩ : ∃ X, w2.alloc (.cells #[.int .i64 T, .int .i64 R] 26) = X := ⟨_, rfl⟩
  have hb : Below w2.heap.size w2 w3 := by rw [← hA2]; exact balloc w2 _
  have z2 : w2.heap.size < w3.heap.size := by rw [← hA2]; simp
  have B_3 : Hid (Below w.heap.size w w3) := B_2.out.trans (hb.mono B_2.out.size)
  have A_3 : Hid (Rd w3 ao l) := A_2.out.later hb
  have V_3 : Hid (Own w3 w1.heap.size (.slice a1 V.length c1) V) := V_2.out.later hb
  have Y_3 : Hid (Bx w3 w2.heap.size T R) := by rw [← hA2]; exact bx_new w2 T R 26
  clear B_2 A_2 V_2 hb
  go_wp2_with fail
  clear hA2
  refine (toIntS_c ao n c l _ HX.out hn17 A_3.out).mono ?_
  rintro e w4 ⟨p2, k2, rfl, ho, hb⟩
  have z3 : w3.heap.size ≤ w4.heap.size := hb.size
  have B_4 : Hid (Below w.heap.size w w4) := B_3.out.trans (hb.mono B_3.out.size)
  have A_4 : Hid (Rd w4 ao l) := A_3.out.later hb
  have V_4 : Hid (Own w4 w1.heap.size (.slice a1 V.length c1) V) := V_3.out.later hb
  have Y_4 : Hid (Bx w4 w2.heap.size T R) := Y_3.out.later hb
  have P2_4 : Hid (Own w4 w3.heap.size (.slice p2 n k2) l) := ho
  have I_P2 : Hid (∀ k, (Value.slice p2 n k2).ownBlock = some k → w3.heap.size ≤ k ∧ k < w4.heap.size) := fun k hk => ⟨own_block_ge P2_4.out k hk, (World.ownsRow.lt P2_4.out k hk).2⟩
  clear B_3 A_3 V_3 Y_3 hb
  clear ho
  go_wp2_with fail
  refine (QI.out p2 k2 _ P2_4.out.rd'.2 (B_4.out)).mono ?_
  rintro e w5 ⟨a2, c2, rfl, ho, hb⟩
  have z4 : w4.heap.size ≤ w5.heap.size := hb.size
  have B_5 : Hid (Below w.heap.size w w5) := B_4.out.trans (hb.mono B_4.out.size)
  have A_5 : Hid (Rd w5 ao l) := A_4.out.later hb
  have V_5 : Hid (Own w5 w1.heap.size (.slice a1 V.length c1) V) := V_4.out.later hb
  have Y_5 : Hid (Bx w5 w2.heap.size T R) := Y_4.out.later hb
  have P2_5 : Hid (Own w5 w3.heap.size (.slice p2 n k2) l) := P2_4.out.later hb
  have G_5 : Hid (Own w5 w4.heap.size (.slice a2 V.length c2) V) := ho
  have I_G : Hid (∀ k, (Value.slice a2 V.length c2).ownBlock = some k → w4.heap.size ≤ k ∧ k < w5.heap.size) := fun k hk => ⟨own_block_ge G_5.out k hk, (World.ownsRow.lt G_5.out k hk).2⟩
  clear B_4 A_4 V_4 Y_4 P2_4 hb
  clear ho
  obtain ⟨w6, hA5⟩ : ∃ X, w5.alloc (.cells #[.int .i64 T, .int .i64 R] 26) = X := ⟨_, rfl⟩
  have hb : Below w5.heap.size w5 w6 := by rw [← hA5]; exact balloc w5 _
  have z5 : w5.heap.size < w6.heap.size := by rw [← hA5]; simp
  have B_6 : Hid (Below w.heap.size w w6) := B_5.out.trans (hb.mono B_5.out.size)
  have A_6 : Hid (Rd w6 ao l) := A_5.out.later hb
  have V_6 : Hid (Own w6 w1.heap.size (.slice a1 V.length c1) V) := V_5.out.later hb
  have Y_6 : Hid (Bx w6 w2.heap.size T R) := Y_5.out.later hb
  have P2_6 : Hid (Own w6 w3.heap.size (.slice p2 n k2) l) := P2_5.out.later hb
  have G_6 : Hid (Own w6 w4.heap.size (.slice a2 V.length c2) V) := G_5.out.later hb
  have Z_6 : Hid (Bx w6 w5.heap.size T R) := by rw [← hA5]; exact bx_new w5 T R 26
  clear B_5 A_5 V_5 Y_5 P2_5 G_5 hb
  go_wp2_with fail
  clear hA5
  refine (eqIntS_c a2 a1 V.length V.length c2 c1 V V _ rfl rfl HV.out HV.out G_6.out.rd'.2 V_6.out.rd'.2).mono ?_
  rw [decide_eq_true rfl]
  rintro e w7 ⟨rfl, hb⟩
  have z6 : w6.heap.size ≤ w7.heap.size := hb.size
  have B_7 : Hid (Below w.heap.size w w7) := B_6.out.trans (hb.mono B_6.out.size)
  have A_7 : Hid (Rd w7 ao l) := A_6.out.later hb
  have V_7 : Hid (Own w7 w1.heap.size (.slice a1 V.length c1) V) := V_6.out.later hb
  have Y_7 : Hid (Bx w7 w2.heap.size T R) := Y_6.out.later hb
  have P2_7 : Hid (Own w7 w3.heap.size (.slice p2 n k2) l) := P2_6.out.later hb
  have G_7 : Hid (Own w7 w4.heap.size (.slice a2 V.length c2) V) := G_6.out.later hb
  have Z_7 : Hid (Bx w7 w5.heap.size T R) := Z_6.out.later hb
  clear B_6 A_6 V_6 Y_6 P2_6 G_6 Z_6 hb
  obtain ⟨uZ0, uZ1, uZ2⟩ := id Z_7.out
  obtain ⟨uY0, uY1, uY2⟩ := id Y_7.out
  go_wp2_with fail
  clear uZ0 uZ1 uZ2
  clear uY0 uY1 uY2
  refine (QE.out _).mono ?_
  rintro e w8 ⟨rfl, hb⟩
  have z7 : w7.heap.size ≤ w8.heap.size := hb.size
  have B_8 : Hid (Below w.heap.size w w8) := B_7.out.trans (hb.mono B_7.out.size)
  have A_8 : Hid (Rd w8 ao l) := A_7.out.later hb
  have V_8 : Hid (Own w8 w1.heap.size (.slice a1 V.length c1) V) := V_7.out.later hb
  have Y_8 : Hid (Bx w8 w2.heap.size T R) := Y_7.out.later hb
  have P2_8 : Hid (Own w8 w3.heap.size (.slice p2 n k2) l) := P2_7.out.later hb
  have G_8 : Hid (Own w8 w4.heap.size (.slice a2 V.length c2) V) := G_7.out.later hb
  have Z_8 : Hid (Bx w8 w5.heap.size T R) := Z_7.out.later hb
  clear B_7 A_7 V_7 Y_7 P2_7 G_7 Z_7 hb
  go_wp2_with fail
  refine (toIntS_c ao n c l _ HX.out hn17 A_8.out).mono ?_
  rintro e w9 ⟨p3, k3, rfl, ho, hb⟩
  have z8 : w8.heap.size ≤ w9.heap.size := hb.size
  have B_9 : Hid (Below w.heap.size w w9) := B_8.out.trans (hb.mono B_8.out.size)
  have A_9 : Hid (Rd w9 ao l) := A_8.out.later hb
  have V_9 : Hid (Own w9 w1.heap.size (.slice a1 V.length c1) V) := V_8.out.later hb
  have Y_9 : Hid (Bx w9 w2.heap.size T R) := Y_8.out.later hb
  have P2_9 : Hid (Own w9 w3.heap.size (.slice p2 n k2) l) := P2_8.out.later hb
  have G_9 : Hid (Own w9 w4.heap.size (.slice a2 V.length c2) V) := G_8.out.later hb
  have Z_9 : Hid (Bx w9 w5.heap.size T R) := Z_8.out.later hb
  have P3_9 : Hid (Own w9 w8.heap.size (.slice p3 n k3) l) := ho
  have I_P3 : Hid (∀ k, (Value.slice p3 n k3).ownBlock = some k → w8.heap.size ≤ k ∧ k < w9.heap.size) := fun k hk => ⟨own_block_ge P3_9.out k hk, (World.ownsRow.lt P3_9.out k hk).2⟩
  clear B_8 A_8 V_8 Y_8 P2_8 G_8 Z_8 hb
  clear ho
  go_wp2_with fail
  refine (eqIntS_c p2 p3 n n k2 k3 l l _ HX.out HX.out hn17 hn17 P2_9.out.rd'.2 P3_9.out.rd'.2).mono ?_
  rw [decide_eq_true rfl]
  rintro e w10 ⟨rfl, hb⟩
  have z9 : w9.heap.size ≤ w10.heap.size := hb.size
  have B_10 : Hid (Below w.heap.size w w10) := B_9.out.trans (hb.mono B_9.out.size)
  have A_10 : Hid (Rd w10 ao l) := A_9.out.later hb
  have V_10 : Hid (Own w10 w1.heap.size (.slice a1 V.length c1) V) := V_9.out.later hb
  have Y_10 : Hid (Bx w10 w2.heap.size T R) := Y_9.out.later hb
  have P2_10 : Hid (Own w10 w3.heap.size (.slice p2 n k2) l) := P2_9.out.later hb
  have G_10 : Hid (Own w10 w4.heap.size (.slice a2 V.length c2) V) := G_9.out.later hb
  have Z_10 : Hid (Bx w10 w5.heap.size T R) := Z_9.out.later hb
  clear B_9 A_9 V_9 Y_9 P2_9 G_9 Z_9 P3_9 hb
  go_wp2_with fail
  refine (markIntS_c p2 n k2 1 _ l _ hn17 (by omega) (by omega) P2_10.out).mono ?_
  rintro e w11 ⟨rfl, ho, hg⟩
  have z10 : w10.heap.size ≤ w11.heap.size := hg.size
  have hbm : Below w3.heap.size w10 w11 := (Below.refl _ _).grown hg (by omega) (fun k hk => (I_P2.out k hk).1)
  have B_11 : Hid (Below w.heap.size w w11) := B_10.out.trans (hbm.mono (by omega))
  have A_11 : Hid (Rd w11 ao l) := HR0A.out _ B_11.out
  have V_11 : Hid (Own w11 w1.heap.size (.slice a1 V.length c1) V) := V_10.out.kept hg (own_sep I_V.out I_P2.out (Or.inl (by omega)))
  have Y_11 : Hid (Bx w11 w2.heap.size T R) := Y_10.out.low hbm (by omega)
  have G_11 : Hid (Own w11 w4.heap.size (.slice a2 V.length c2) V) := G_10.out.kept hg (own_sep I_G.out I_P2.out (Or.inr (by omega)))
  have Z_11 : Hid (Bx w11 w5.heap.size T R) := Z_10.out.kept hg (fun e => by have := (I_P2.out _ e.symm).2; omega)
  have P2_11 : Hid (Own w11 w3.heap.size (.slice p2 n k2) (marks 1 n)) := ho
  clear B_10 A_10 V_10 Y_10 P2_10 G_10 Z_10 ho hg hbm
  clear P2_11
  go_wp2_with fail
  refine (eqIntS_c a2 a1 V.length V.length c2 c1 V V _ rfl rfl HV.out HV.out G_11.out.rd'.2 V_11.out.rd'.2).mono ?_
  rw [decide_eq_true rfl]
  rintro e w12 ⟨rfl, hb⟩
  have z11 : w11.heap.size ≤ w12.heap.size := hb.size
  have B_12 : Hid (Below w.heap.size w w12) := B_11.out.trans (hb.mono B_11.out.size)
  have A_12 : Hid (Rd w12 ao l) := A_11.out.later hb
  have V_12 : Hid (Own w12 w1.heap.size (.slice a1 V.length c1) V) := V_11.out.later hb
  have Y_12 : Hid (Bx w12 w2.heap.size T R) := Y_11.out.later hb
  have G_12 : Hid (Own w12 w4.heap.size (.slice a2 V.length c2) V) := G_11.out.later hb
  have Z_12 : Hid (Bx w12 w5.heap.size T R) := Z_11.out.later hb
  clear B_11 A_11 V_11 Y_11 G_11 Z_11 hb
  obtain ⟨uZ0, uZ1, uZ2⟩ := id Z_12.out
  obtain ⟨uY0, uY1, uY2⟩ := id Y_12.out
  go_wp2_with fail
  clear uZ0 uZ1 uZ2
  clear uY0 uY1 uY2
  refine (QE.out _).mono ?_
  rintro e w13 ⟨rfl, hb⟩
  have z12 : w12.heap.size ≤ w13.heap.size := hb.size
  have B_13 : Hid (Below w.heap.size w w13) := B_12.out.trans (hb.mono B_12.out.size)
  have A_13 : Hid (Rd w13 ao l) := A_12.out.later hb
  have V_13 : Hid (Own w13 w1.heap.size (.slice a1 V.length c1) V) := V_12.out.later hb
  have Y_13 : Hid (Bx w13 w2.heap.size T R) := Y_12.out.later hb
  have G_13 : Hid (Own w13 w4.heap.size (.slice a2 V.length c2) V) := G_12.out.later hb
  have Z_13 : Hid (Bx w13 w5.heap.size T R) := Z_12.out.later hb
  clear B_12 A_12 V_12 Y_12 G_12 Z_12 hb
  go_wp2_with fail
  refine (markIntS_c a2 V.length c2 1 _ V _ HV.out (by omega) (by omega) G_13.out).mono ?_
  rintro e w14 ⟨rfl, ho, hg⟩
  have z13 : w13.heap.size ≤ w14.heap.size := hg.size
  have hbm : Below w4.heap.size w13 w14 := (Below.refl _ _).grown hg (by omega) (fun k hk => (I_G.out k hk).1)
  have B_14 : Hid (Below w.heap.size w w14) := B_13.out.trans (hbm.mono (by omega))
  have A_14 : Hid (Rd w14 ao l) := HR0A.out _ B_14.out
  have V_14 : Hid (Own w14 w1.heap.size (.slice a1 V.length c1) V) := V_13.out.kept hg (own_sep I_V.out I_G.out (Or.inl (by omega)))
  have Y_14 : Hid (Bx w14 w2.heap.size T R) := Y_13.out.low hbm (by omega)
  have Z_14 : Hid (Bx w14 w5.heap.size T R) := Z_13.out.kept hg (fun e => by have := (I_G.out _ e.symm).2; omega)
  have G_14 : Hid (Own w14 w4.heap.size (.slice a2 V.length c2) (marks 1 V.length)) := ho
  clear B_13 A_13 V_13 Y_13 G_13 Z_13 ho hg hbm
  go_wp2_with fail
  refine (heldIntS_c a2 V.length c2 1 _ _ HV.out (by omega) (by omega) G_14.out).mono ?_
  rintro e wz ⟨rfl, hz⟩
  subst wz
  go_wp2_with fail
  refine (toIntS_c ao n c l _ HX.out hn17 A_14.out).mono ?_
  rintro e w15 ⟨p4, k4, rfl, ho, hb⟩
  have z14 : w14.heap.size ≤ w15.heap.size := hb.size
  have B_15 : Hid (Below w.heap.size w w15) := B_14.out.trans (hb.mono B_14.out.size)
  have A_15 : Hid (Rd w15 ao l) := A_14.out.later hb
  have V_15 : Hid (Own w15 w1.heap.size (.slice a1 V.length c1) V) := V_14.out.later hb
  have Y_15 : Hid (Bx w15 w2.heap.size T R) := Y_14.out.later hb
  have G_15 : Hid (Own w15 w4.heap.size (.slice a2 V.length c2) (marks 1 V.length)) := G_14.out.later hb
  have Z_15 : Hid (Bx w15 w5.heap.size T R) := Z_14.out.later hb
  have P4_15 : Hid (Own w15 w14.heap.size (.slice p4 n k4) l) := ho
  have I_P4 : Hid (∀ k, (Value.slice p4 n k4).ownBlock = some k → w14.heap.size ≤ k ∧ k < w15.heap.size) := fun k hk => ⟨own_block_ge P4_15.out k hk, (World.ownsRow.lt P4_15.out k hk).2⟩
  clear B_14 A_14 V_14 Y_14 G_14 Z_14 hb
  clear ho
  go_wp2_with fail
  refine (QI.out p4 k4 _ P4_15.out.rd'.2 (B_15.out)).mono ?_
  rintro e w16 ⟨a4, c4, rfl, ho, hb⟩
  have z15 : w15.heap.size ≤ w16.heap.size := hb.size
  have B_16 : Hid (Below w.heap.size w w16) := B_15.out.trans (hb.mono B_15.out.size)
  have A_16 : Hid (Rd w16 ao l) := A_15.out.later hb
  have V_16 : Hid (Own w16 w1.heap.size (.slice a1 V.length c1) V) := V_15.out.later hb
  have Y_16 : Hid (Bx w16 w2.heap.size T R) := Y_15.out.later hb
  have G_16 : Hid (Own w16 w4.heap.size (.slice a2 V.length c2) (marks 1 V.length)) := G_15.out.later hb
  have Z_16 : Hid (Bx w16 w5.heap.size T R) := Z_15.out.later hb
  have H_16 : Hid (Own w16 w15.heap.size (.slice a4 V.length c4) V) := ho
  have I_H : Hid (∀ k, (Value.slice a4 V.length c4).ownBlock = some k → w15.heap.size ≤ k ∧ k < w16.heap.size) := fun k hk => ⟨own_block_ge H_16.out k hk, (World.ownsRow.lt H_16.out k hk).2⟩
  clear B_15 A_15 V_15 Y_15 G_15 Z_15 P4_15 hb
  clear ho
  obtain ⟨w17, hA16⟩ : ∃ X, w16.alloc (.cells #[.int .i64 T, .int .i64 R] 26) = X := ⟨_, rfl⟩
  have hb : Below w16.heap.size w16 w17 := by rw [← hA16]; exact balloc w16 _
  have z16 : w16.heap.size < w17.heap.size := by rw [← hA16]; simp
  have B_17 : Hid (Below w.heap.size w w17) := B_16.out.trans (hb.mono B_16.out.size)
  have A_17 : Hid (Rd w17 ao l) := A_16.out.later hb
  have V_17 : Hid (Own w17 w1.heap.size (.slice a1 V.length c1) V) := V_16.out.later hb
  have Y_17 : Hid (Bx w17 w2.heap.size T R) := Y_16.out.later hb
  have G_17 : Hid (Own w17 w4.heap.size (.slice a2 V.length c2) (marks 1 V.length)) := G_16.out.later hb
  have Z_17 : Hid (Bx w17 w5.heap.size T R) := Z_16.out.later hb
  have H_17 : Hid (Own w17 w15.heap.size (.slice a4 V.length c4) V) := H_16.out.later hb
  have U_17 : Hid (Bx w17 w16.heap.size T R) := by rw [← hA16]; exact bx_new w16 T R 26
  clear B_16 A_16 V_16 Y_16 G_16 Z_16 H_16 hb
  go_wp2_with fail
  clear hA16
  refine (eqIntS_c a4 a1 V.length V.length c4 c1 V V _ rfl rfl HV.out HV.out H_17.out.rd'.2 V_17.out.rd'.2).mono ?_
  rw [decide_eq_true rfl]
  rintro e w18 ⟨rfl, hb⟩
  have z17 : w17.heap.size ≤ w18.heap.size := hb.size
  have B_18 : Hid (Below w.heap.size w w18) := B_17.out.trans (hb.mono B_17.out.size)
  have A_18 : Hid (Rd w18 ao l) := A_17.out.later hb
  have V_18 : Hid (Own w18 w1.heap.size (.slice a1 V.length c1) V) := V_17.out.later hb
  have Y_18 : Hid (Bx w18 w2.heap.size T R) := Y_17.out.later hb
  have G_18 : Hid (Own w18 w4.heap.size (.slice a2 V.length c2) (marks 1 V.length)) := G_17.out.later hb
  have Z_18 : Hid (Bx w18 w5.heap.size T R) := Z_17.out.later hb
  have H_18 : Hid (Own w18 w15.heap.size (.slice a4 V.length c4) V) := H_17.out.later hb
  have U_18 : Hid (Bx w18 w16.heap.size T R) := U_17.out.later hb
  clear B_17 A_17 V_17 Y_17 G_17 Z_17 H_17 U_17 hb
  obtain ⟨uU0, uU1, uU2⟩ := id U_18.out
  obtain ⟨uY0, uY1, uY2⟩ := id Y_18.out
  go_wp2_with fail
  clear uU0 uU1 uU2
  clear uY0 uY1 uY2
  refine (QE.out _).mono ?_
  rintro e w19 ⟨rfl, hb⟩
  have z18 : w18.heap.size ≤ w19.heap.size := hb.size
  have B_19 : Hid (Below w.heap.size w w19) := B_18.out.trans (hb.mono B_18.out.size)
  have A_19 : Hid (Rd w19 ao l) := A_18.out.later hb
  have V_19 : Hid (Own w19 w1.heap.size (.slice a1 V.length c1) V) := V_18.out.later hb
  have Y_19 : Hid (Bx w19 w2.heap.size T R) := Y_18.out.later hb
  have G_19 : Hid (Own w19 w4.heap.size (.slice a2 V.length c2) (marks 1 V.length)) := G_18.out.later hb
  have Z_19 : Hid (Bx w19 w5.heap.size T R) := Z_18.out.later hb
  have H_19 : Hid (Own w19 w15.heap.size (.slice a4 V.length c4) V) := H_18.out.later hb
  have U_19 : Hid (Bx w19 w16.heap.size T R) := U_18.out.later hb
  clear B_18 A_18 V_18 Y_18 G_18 Z_18 H_18 U_18 hb
  go_wp2_with fail
  refine (heldIntS_c a2 V.length c2 1 _ _ HV.out (by omega) (by omega) G_19.out).mono ?_
  rintro e wz ⟨rfl, hz⟩
  subst wz
  go_wp2
  go_ret
  exact ⟨rfl, B_19.out⟩

end Go.Proofs.YtjpegbodhpnflaaDoor
