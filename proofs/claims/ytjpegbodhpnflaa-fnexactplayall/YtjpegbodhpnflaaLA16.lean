/- Chapter 16: the law of PlayAll. -/
import Derived.Test.YtjpegbodhpnflaaLAB16
namespace Go.Proofs.Ytjpegbodhpnflaa
set_option linter.unusedVariables false
set_option maxRecDepth 1000000
set_option linter.unusedSimpArgs false
open Go.RowKit

set_option maxHeartbeats 4000000 in
theorem lawPlayAll_c (ao : Option Addr) (n c : Nat) (l : List Int) (w : World) (hx : l.length = n) (hn : n ≤ 9223372036854775807) (hr : Rd w ao l) :
    Calls Try.prog 3 #[.slice ao n c] w fun e w' => e = .returned (.bool true) ∧ Below w.heap.size w w' := by
  by_cases hz : 1048576 < n
  · have hz2 : (1048576 : Int) < (n : Int) := by omega
    go_enter Try.func3, Try.ntmps3
    go_wp2
    go_ret
    exact ⟨rfl, Below.refl _ _⟩
  have hz2 : ¬ (1048576 : Int) < (n : Int) := by omega
  have hn17 : n ≤ 17592186044416 := by omega
  obtain ⟨V, hV⟩ : ∃ V, allV l = V := ⟨_, rfl⟩
  obtain ⟨ok, hok⟩ : ∃ ok, playOk l = ok := ⟨_, rfl⟩
  have QS : Hid (∀ p k wx, Rd wx p l → Calls Try.prog 4 #[.slice p n k] wx fun e w' => ∃ a' c', e = .returned (.tuple #[.slice a' V.length c', .bool ok]) ∧ Own w' wx.heap.size (.slice a' V.length c') V ∧ Below wx.heap.size wx w') := fun p k wx h => by
    have := specAll_c p n k l wx hx hn17 h
    rw [hV, hok] at this
    exact this
  have QI : Hid (∀ p k wx, Rd wx p l → Calls Try.prog 6 #[.slice p n k] wx fun e w' => ∃ a' c', e = .returned (.tuple #[.slice a' V.length c', .bool ok]) ∧ Own w' wx.heap.size (.slice a' V.length c') V ∧ Below wx.heap.size wx w') := fun p k wx h => by
    have := implAll_c p n k l wx hx hn17 h
    rw [hV, hok] at this
    exact this
  have HV : Hid (V.length ≤ 17592186044416) := by show _ ≤ _; rw [← hV]; have := allV_len l; omega
  have HX : Hid (l.length = n) := hx
  have HR0A : Hid (∀ wx, Below w.heap.size w wx → Rd wx ao l) := fun wx h => hr.later h
  have hR : (ok != ok) = false := by simp
  have hmo : ¬ (1 : Int) + (V.length : Int) < 0 := by omega
  have hmm : ((1 : Int) + (V.length : Int) != 1 + (V.length : Int)) = false := by simp
  have hmn : ¬ (1 : Int) + (n : Int) < 0 := by omega
  have hmb : (1 : Int) + (V.length : Int) ≤ 17592186044417 := by have := HV.out; omega
  have A_0 : Hid (Rd w ao l) := hr
  have B_0 : Hid (Below w.heap.size w w) := Below.refl _ _
  clear hx hr hV hok
  go_enter Try.func3, Try.ntmps3
  go_wp2_with fail
  refine (toIntS_c ao n c l _ HX.out hn17 A_0.out).mono ?_
  rintro e w1 ⟨p1, k1, rfl, ho, hb⟩
  have z0 : w.heap.size ≤ w1.heap.size := hb.size
  have B_1 : Hid (Below w.heap.size w w1) := B_0.out.trans (hb.mono B_0.out.size)
  have A_1 : Hid (Rd w1 ao l) := A_0.out.later hb
  have P1_1 : Hid (Own w1 w.heap.size (.slice p1 n k1) l) := ho
  have I_P1 : Hid (∀ k, (Value.slice p1 n k1).ownBlock = some k → w.heap.size ≤ k ∧ k < w1.heap.size) := fun k hk => ⟨own_block_ge P1_1.out k hk, (World.ownsRow.lt P1_1.out k hk).2⟩
  clear B_0 A_0 hb
  clear ho
  go_wp2_with fail
  refine (QS.out p1 k1 _ P1_1.out.rd'.2).mono ?_
  rintro e w2 ⟨a1, c1, rfl, ho, hb⟩
  have z1 : w1.heap.size ≤ w2.heap.size := hb.size
  have B_2 : Hid (Below w.heap.size w w2) := B_1.out.trans (hb.mono B_1.out.size)
  have A_2 : Hid (Rd w2 ao l) := A_1.out.later hb
  have V_2 : Hid (Own w2 w1.heap.size (.slice a1 V.length c1) V) := ho
  have I_V : Hid (∀ k, (Value.slice a1 V.length c1).ownBlock = some k → w1.heap.size ≤ k ∧ k < w2.heap.size) := fun k hk => ⟨own_block_ge V_2.out k hk, (World.ownsRow.lt V_2.out k hk).2⟩
  clear B_1 A_1 P1_1 hb
  clear ho
  go_wp2_with fail
  refine (toIntS_c ao n c l _ HX.out hn17 A_2.out).mono ?_
  rintro e w3 ⟨p2, k2, rfl, ho, hb⟩
  have z2 : w2.heap.size ≤ w3.heap.size := hb.size
  have B_3 : Hid (Below w.heap.size w w3) := B_2.out.trans (hb.mono B_2.out.size)
  have A_3 : Hid (Rd w3 ao l) := A_2.out.later hb
  have V_3 : Hid (Own w3 w1.heap.size (.slice a1 V.length c1) V) := V_2.out.later hb
  have P2_3 : Hid (Own w3 w2.heap.size (.slice p2 n k2) l) := ho
  have I_P2 : Hid (∀ k, (Value.slice p2 n k2).ownBlock = some k → w2.heap.size ≤ k ∧ k < w3.heap.size) := fun k hk => ⟨own_block_ge P2_3.out k hk, (World.ownsRow.lt P2_3.out k hk).2⟩
  clear B_2 A_2 V_2 hb
  clear ho
  go_wp2_with fail
  refine (QI.out p2 k2 _ P2_3.out.rd'.2).mono ?_
  rintro e w4 ⟨a2, c2, rfl, ho, hb⟩
  have z3 : w3.heap.size ≤ w4.heap.size := hb.size
  have B_4 : Hid (Below w.heap.size w w4) := B_3.out.trans (hb.mono B_3.out.size)
  have A_4 : Hid (Rd w4 ao l) := A_3.out.later hb
  have V_4 : Hid (Own w4 w1.heap.size (.slice a1 V.length c1) V) := V_3.out.later hb
  have P2_4 : Hid (Own w4 w2.heap.size (.slice p2 n k2) l) := P2_3.out.later hb
  have G_4 : Hid (Own w4 w3.heap.size (.slice a2 V.length c2) V) := ho
  have I_G : Hid (∀ k, (Value.slice a2 V.length c2).ownBlock = some k → w3.heap.size ≤ k ∧ k < w4.heap.size) := fun k hk => ⟨own_block_ge G_4.out k hk, (World.ownsRow.lt G_4.out k hk).2⟩
  clear B_3 A_3 V_3 P2_3 hb
  clear ho
  go_wp2_with fail
  refine (eqIntS_c a2 a1 V.length V.length c2 c1 V V _ rfl rfl HV.out HV.out G_4.out.rd'.2 V_4.out.rd'.2).mono ?_
  rw [decide_eq_true rfl]
  rintro e w5 ⟨rfl, hb⟩
  have z4 : w4.heap.size ≤ w5.heap.size := hb.size
  have B_5 : Hid (Below w.heap.size w w5) := B_4.out.trans (hb.mono B_4.out.size)
  have A_5 : Hid (Rd w5 ao l) := A_4.out.later hb
  have V_5 : Hid (Own w5 w1.heap.size (.slice a1 V.length c1) V) := V_4.out.later hb
  have P2_5 : Hid (Own w5 w2.heap.size (.slice p2 n k2) l) := P2_4.out.later hb
  have G_5 : Hid (Own w5 w3.heap.size (.slice a2 V.length c2) V) := G_4.out.later hb
  clear B_4 A_4 V_4 P2_4 G_4 hb
  go_wp2_with fail
  refine (toIntS_c ao n c l _ HX.out hn17 A_5.out).mono ?_
  rintro e w6 ⟨p3, k3, rfl, ho, hb⟩
  have z5 : w5.heap.size ≤ w6.heap.size := hb.size
  have B_6 : Hid (Below w.heap.size w w6) := B_5.out.trans (hb.mono B_5.out.size)
  have A_6 : Hid (Rd w6 ao l) := A_5.out.later hb
  have V_6 : Hid (Own w6 w1.heap.size (.slice a1 V.length c1) V) := V_5.out.later hb
  have P2_6 : Hid (Own w6 w2.heap.size (.slice p2 n k2) l) := P2_5.out.later hb
  have G_6 : Hid (Own w6 w3.heap.size (.slice a2 V.length c2) V) := G_5.out.later hb
  have P3_6 : Hid (Own w6 w5.heap.size (.slice p3 n k3) l) := ho
  have I_P3 : Hid (∀ k, (Value.slice p3 n k3).ownBlock = some k → w5.heap.size ≤ k ∧ k < w6.heap.size) := fun k hk => ⟨own_block_ge P3_6.out k hk, (World.ownsRow.lt P3_6.out k hk).2⟩
  clear B_5 A_5 V_5 P2_5 G_5 hb
  clear ho
  go_wp2_with fail
  refine (eqIntS_c p2 p3 n n k2 k3 l l _ HX.out HX.out hn17 hn17 P2_6.out.rd'.2 P3_6.out.rd'.2).mono ?_
  rw [decide_eq_true rfl]
  rintro e w7 ⟨rfl, hb⟩
  have z6 : w6.heap.size ≤ w7.heap.size := hb.size
  have B_7 : Hid (Below w.heap.size w w7) := B_6.out.trans (hb.mono B_6.out.size)
  have A_7 : Hid (Rd w7 ao l) := A_6.out.later hb
  have V_7 : Hid (Own w7 w1.heap.size (.slice a1 V.length c1) V) := V_6.out.later hb
  have P2_7 : Hid (Own w7 w2.heap.size (.slice p2 n k2) l) := P2_6.out.later hb
  have G_7 : Hid (Own w7 w3.heap.size (.slice a2 V.length c2) V) := G_6.out.later hb
  clear B_6 A_6 V_6 P2_6 G_6 P3_6 hb
  go_wp2_with fail
  refine (markIntS_c p2 n k2 1 _ l _ hn17 (by omega) (by omega) P2_7.out).mono ?_
  rintro e w8 ⟨rfl, ho, hg⟩
  have z7 : w7.heap.size ≤ w8.heap.size := hg.size
  have hbm : Below w2.heap.size w7 w8 := (Below.refl _ _).grown hg (by omega) (fun k hk => (I_P2.out k hk).1)
  have B_8 : Hid (Below w.heap.size w w8) := B_7.out.trans (hbm.mono (by omega))
  have A_8 : Hid (Rd w8 ao l) := HR0A.out _ B_8.out
  have V_8 : Hid (Own w8 w1.heap.size (.slice a1 V.length c1) V) := V_7.out.kept hg (own_sep I_V.out I_P2.out (Or.inl (by omega)))
  have G_8 : Hid (Own w8 w3.heap.size (.slice a2 V.length c2) V) := G_7.out.kept hg (own_sep I_G.out I_P2.out (Or.inr (by omega)))
  have P2_8 : Hid (Own w8 w2.heap.size (.slice p2 n k2) (marks 1 n)) := ho
  clear B_7 A_7 V_7 P2_7 G_7 ho hg hbm
  clear P2_8
  go_wp2_with fail
  refine (eqIntS_c a2 a1 V.length V.length c2 c1 V V _ rfl rfl HV.out HV.out G_8.out.rd'.2 V_8.out.rd'.2).mono ?_
  rw [decide_eq_true rfl]
  rintro e w9 ⟨rfl, hb⟩
  have z8 : w8.heap.size ≤ w9.heap.size := hb.size
  have B_9 : Hid (Below w.heap.size w w9) := B_8.out.trans (hb.mono B_8.out.size)
  have A_9 : Hid (Rd w9 ao l) := A_8.out.later hb
  have V_9 : Hid (Own w9 w1.heap.size (.slice a1 V.length c1) V) := V_8.out.later hb
  have G_9 : Hid (Own w9 w3.heap.size (.slice a2 V.length c2) V) := G_8.out.later hb
  clear B_8 A_8 V_8 G_8 hb
  go_wp2_with fail
  refine (markIntS_c a2 V.length c2 1 _ V _ HV.out (by omega) (by omega) G_9.out).mono ?_
  rintro e w10 ⟨rfl, ho, hg⟩
  have z9 : w9.heap.size ≤ w10.heap.size := hg.size
  have hbm : Below w3.heap.size w9 w10 := (Below.refl _ _).grown hg (by omega) (fun k hk => (I_G.out k hk).1)
  have B_10 : Hid (Below w.heap.size w w10) := B_9.out.trans (hbm.mono (by omega))
  have A_10 : Hid (Rd w10 ao l) := HR0A.out _ B_10.out
  have V_10 : Hid (Own w10 w1.heap.size (.slice a1 V.length c1) V) := V_9.out.kept hg (own_sep I_V.out I_G.out (Or.inl (by omega)))
  have G_10 : Hid (Own w10 w3.heap.size (.slice a2 V.length c2) (marks 1 V.length)) := ho
  clear B_9 A_9 V_9 G_9 ho hg hbm
  go_wp2_with fail
  refine (heldIntS_c a2 V.length c2 1 _ _ HV.out (by omega) (by omega) G_10.out).mono ?_
  rintro e wz ⟨rfl, hz⟩
  subst wz
  go_wp2_with fail
  refine (toIntS_c ao n c l _ HX.out hn17 A_10.out).mono ?_
  rintro e w11 ⟨p4, k4, rfl, ho, hb⟩
  have z10 : w10.heap.size ≤ w11.heap.size := hb.size
  have B_11 : Hid (Below w.heap.size w w11) := B_10.out.trans (hb.mono B_10.out.size)
  have A_11 : Hid (Rd w11 ao l) := A_10.out.later hb
  have V_11 : Hid (Own w11 w1.heap.size (.slice a1 V.length c1) V) := V_10.out.later hb
  have G_11 : Hid (Own w11 w3.heap.size (.slice a2 V.length c2) (marks 1 V.length)) := G_10.out.later hb
  have P4_11 : Hid (Own w11 w10.heap.size (.slice p4 n k4) l) := ho
  have I_P4 : Hid (∀ k, (Value.slice p4 n k4).ownBlock = some k → w10.heap.size ≤ k ∧ k < w11.heap.size) := fun k hk => ⟨own_block_ge P4_11.out k hk, (World.ownsRow.lt P4_11.out k hk).2⟩
  clear B_10 A_10 V_10 G_10 hb
  clear ho
  go_wp2_with fail
  refine (QI.out p4 k4 _ P4_11.out.rd'.2).mono ?_
  rintro e w12 ⟨a4, c4, rfl, ho, hb⟩
  have z11 : w11.heap.size ≤ w12.heap.size := hb.size
  have B_12 : Hid (Below w.heap.size w w12) := B_11.out.trans (hb.mono B_11.out.size)
  have A_12 : Hid (Rd w12 ao l) := A_11.out.later hb
  have V_12 : Hid (Own w12 w1.heap.size (.slice a1 V.length c1) V) := V_11.out.later hb
  have G_12 : Hid (Own w12 w3.heap.size (.slice a2 V.length c2) (marks 1 V.length)) := G_11.out.later hb
  have H_12 : Hid (Own w12 w11.heap.size (.slice a4 V.length c4) V) := ho
  have I_H : Hid (∀ k, (Value.slice a4 V.length c4).ownBlock = some k → w11.heap.size ≤ k ∧ k < w12.heap.size) := fun k hk => ⟨own_block_ge H_12.out k hk, (World.ownsRow.lt H_12.out k hk).2⟩
  clear B_11 A_11 V_11 G_11 P4_11 hb
  clear ho
  go_wp2_with fail
  refine (eqIntS_c a4 a1 V.length V.length c4 c1 V V _ rfl rfl HV.out HV.out H_12.out.rd'.2 V_12.out.rd'.2).mono ?_
  rw [decide_eq_true rfl]
  rintro e w13 ⟨rfl, hb⟩
  have z12 : w12.heap.size ≤ w13.heap.size := hb.size
  have B_13 : Hid (Below w.heap.size w w13) := B_12.out.trans (hb.mono B_12.out.size)
  have A_13 : Hid (Rd w13 ao l) := A_12.out.later hb
  have V_13 : Hid (Own w13 w1.heap.size (.slice a1 V.length c1) V) := V_12.out.later hb
  have G_13 : Hid (Own w13 w3.heap.size (.slice a2 V.length c2) (marks 1 V.length)) := G_12.out.later hb
  have H_13 : Hid (Own w13 w11.heap.size (.slice a4 V.length c4) V) := H_12.out.later hb
  clear B_12 A_12 V_12 G_12 H_12 hb
  go_wp2_with fail
  refine (heldIntS_c a2 V.length c2 1 _ _ HV.out (by omega) (by omega) G_13.out).mono ?_
  rintro e wz ⟨rfl, hz⟩
  subst wz
  go_wp2
  go_ret
  exact ⟨rfl, B_13.out⟩

end Go.Proofs.Ytjpegbodhpnflaa
