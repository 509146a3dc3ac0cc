/- Chapter 16: the law of SeenIn. -/
import Derived.Test.YtjpegbodhpnflaaDoorLG16
namespace Go.Proofs.YtjpegbodhpnflaaDoor
set_option linter.unusedVariables false
set_option maxRecDepth 1000000
set_option linter.unusedSimpArgs false
open Go.RowKit

theorem Bx.low {w w' : World} {g B : Nat} {t x : Int} (h : Bx w g t x) (hb : Below B w w') (hg : g < B) : Bx w' g t x :=
  ⟨Nat.lt_of_lt_of_le h.1 hb.size, by rw [hb.cell (p := ⟨g, 0, none⟩) hg]; exact h.2.1, by rw [hb.cell (p := ⟨g, 1, none⟩) hg]; exact h.2.2⟩

set_option maxHeartbeats 2000000 in
theorem lawSeenW_c (t x : Int) (w : World) (wt : -9223372036854775808 ≤ t ∧ t ≤ 9223372036854775807) (wx : -9223372036854775808 ≤ x ∧ x ≤ 9223372036854775807) (ht : Tb w) :
    Calls Tryd.prog 8 #[.agg #[.int .i64 t, .int .i64 x]] w fun e w' => e = .returned (.bool true) ∧ Below w.heap.size w w' := by
  obtain ⟨w0, hw0⟩ : ∃ X, w.alloc (.cells #[.int .i64 t, .int .i64 x] 47) = X := ⟨_, rfl⟩
  have X_0 : Hid (Bx w0 w.heap.size t x) := by rw [← hw0]; exact bx_new w t x 47
  have B_0 : Hid (Below w.heap.size w w0) := by rw [← hw0]; exact balloc w _
  have hwl : w.heap.size < w0.heap.size := X_0.out.1
  have QT : Hid (∀ wx, Calls Tryd.prog 31 #[.agg #[.int .i64 t, .int .i64 x]] wx fun e w' => e = .returned (.agg #[.int .i64 t, .int .i64 x]) ∧ Below wx.heap.size wx w') := fun wx => toWindow_c t x wx
  have QS : Hid (∀ wx, Calls Tryd.prog 29 #[.agg #[.int .i64 t, .int .i64 x]] wx fun e w' => ∃ ao c, e = .returned (.tuple #[.slice ao (seenV t x).length c, .bool (goodWn t x)]) ∧ Own w' wx.heap.size (.slice ao (seenV t x).length c) (seenV t x) ∧ (ao = none → c = 0) ∧ Below wx.heap.size wx w') := fun wx2 => specSeen_c t x wx2 wx wt
  have QI : Hid (∀ wx, Below w.heap.size w wx → Calls Tryd.prog 25 #[.agg #[.int .i64 t, .int .i64 x]] wx fun e w' => ∃ ao c, e = .returned (.tuple #[.slice ao (seenV t x).length c, .bool (goodWn t x)]) ∧ Own w' wx.heap.size (.slice ao (seenV t x).length c) (seenV t x) ∧ (ao = none → c = 0) ∧ Below wx.heap.size wx w') := fun wx2 h => implSeen_c t x wx2 (ht.later h) wx
  have HL : Hid ((seenV t x).length ≤ 17592186044416) := by have := seenV_len t x; show _ ≤ _; omega
  generalize goodWn t x = R at QS QI
  generalize seenV t x = l at QS QI HL
  have hR : (R != R) = false := by simp
  have hmo : ¬ (1 : Int) + (l.length : Int) < 0 := by omega
  have hmm : ((1 : Int) + (l.length : Int) != 1 + (l.length : Int)) = false := by simp
  have hmb : (1 : Int) + (l.length : Int) ≤ 17592186044417 := by have := HL.out; omega
  clear wt wx ht
  obtain ⟨uX0, uX1, uX2⟩ := id X_0.out
  go_enter Tryd.func8, Tryd.ntmps8
  obtain ⟨uX0, uX1, uX2⟩ := id X_0.out
  go_wp2_with fail
  clear uX0 uX1 uX2
  refine (QT.out _).mono ?_
  rintro e w1 ⟨rfl, hb⟩
  have z0 : w0.heap.size ≤ w1.heap.size := hb.size
  have X_1 : Hid (Bx w1 w.heap.size t x) := X_0.out.later hb
  have B_1 : Hid (Below w.heap.size w w1) := B_0.out.trans (hb.mono B_0.out.size)
  clear X_0 B_0 hb
  go_wp2_with fail
  refine (QS.out _).mono ?_
  rintro e w2 ⟨a1, c1, rfl, ho, hn1, hb⟩
  have z1 : w1.heap.size ≤ w2.heap.size := hb.size
  have X_2 : Hid (Bx w2 w.heap.size t x) := X_1.out.later hb
  have B_2 : Hid (Below w.heap.size w w2) := B_1.out.trans (hb.mono B_1.out.size)
  have V_2 : Hid (Own w2 w1.heap.size (.slice a1 l.length c1) l) := ho
  have I_V : Hid (∀ k, (Value.slice a1 l.length c1).ownBlock = some k → w1.heap.size ≤ k ∧ k < w2.heap.size) := fun k hk => ⟨own_block_ge V_2.out k hk, (World.ownsRow.lt V_2.out k hk).2⟩
  clear X_1 B_1 hb
  clear ho
  obtain ⟨uX0, uX1, uX2⟩ := id X_2.out
  go_wp2_with fail
  clear uX0 uX1 uX2
  refine (QT.out _).mono ?_
  rintro e w3 ⟨rfl, hb⟩
  have z2 : w2.heap.size ≤ w3.heap.size := hb.size
  have X_3 : Hid (Bx w3 w.heap.size t x) := X_2.out.later hb
  have B_3 : Hid (Below w.heap.size w w3) := B_2.out.trans (hb.mono B_2.out.size)
  have V_3 : Hid (Own w3 w1.heap.size (.slice a1 l.length c1) l) := V_2.out.later hb
  clear X_2 B_2 V_2 hb
  go_wp2_with fail
  refine (QI.out _ B_3.out).mono ?_
  rintro e w4 ⟨a2, c2, rfl, ho, hn2, hb⟩
  have z3 : w3.heap.size ≤ w4.heap.size := hb.size
  have X_4 : Hid (Bx w4 w.heap.size t x) := X_3.out.later hb
  have B_4 : Hid (Below w.heap.size w w4) := B_3.out.trans (hb.mono B_3.out.size)
  have V_4 : Hid (Own w4 w1.heap.size (.slice a1 l.length c1) l) := V_3.out.later hb
  have G_4 : Hid (Own w4 w3.heap.size (.slice a2 l.length c2) l) := ho
  have I_G : Hid (∀ k, (Value.slice a2 l.length c2).ownBlock = some k → w3.heap.size ≤ k ∧ k < w4.heap.size) := fun k hk => ⟨own_block_ge G_4.out k hk, (World.ownsRow.lt G_4.out k hk).2⟩
  clear X_3 B_3 V_3 hb
  clear ho
  go_wp2_with fail
  refine (eqIntS_c a2 a1 l.length l.length c2 c1 l l _ rfl rfl HL.out HL.out G_4.out.rd'.2 V_4.out.rd'.2).mono ?_
  rw [decide_eq_true rfl]
  rintro e w5 ⟨rfl, hb⟩
  have z4 : w4.heap.size ≤ w5.heap.size := hb.size
  have X_5 : Hid (Bx w5 w.heap.size t x) := X_4.out.later hb
  have B_5 : Hid (Below w.heap.size w w5) := B_4.out.trans (hb.mono B_4.out.size)
  have V_5 : Hid (Own w5 w1.heap.size (.slice a1 l.length c1) l) := V_4.out.later hb
  have G_5 : Hid (Own w5 w3.heap.size (.slice a2 l.length c2) l) := G_4.out.later hb
  clear X_4 B_4 V_4 G_4 hb
  go_wp2_with fail
  refine (markIntS_c a2 l.length c2 1 _ l _ HL.out (by omega) (by omega) G_5.out).mono ?_
  rintro e w6 ⟨rfl, ho, hg⟩
  have z5 : w5.heap.size ≤ w6.heap.size := hg.size
  have hbm : Below w3.heap.size w5 w6 := (Below.refl _ _).grown hg (by omega) (fun k hk => (I_G.out k hk).1)
  have X_6 : Hid (Bx w6 w.heap.size t x) := X_5.out.low hbm (by omega)
  have B_6 : Hid (Below w.heap.size w w6) := B_5.out.trans (hbm.mono (by omega))
  have V_6 : Hid (Own w6 w1.heap.size (.slice a1 l.length c1) l) := V_5.out.kept hg (own_sep I_V.out I_G.out (Or.inl (by omega)))
  have G_6 : Hid (Own w6 w3.heap.size (.slice a2 l.length c2) (marks 1 l.length)) := ho
  clear X_5 B_5 V_5 G_5 ho hg hbm
  go_wp2_with fail
  refine (heldIntS_c a2 l.length c2 1 _ _ HL.out (by omega) (by omega) G_6.out).mono ?_
  rintro e wz ⟨rfl, hz⟩
  subst wz
  obtain ⟨uX0, uX1, uX2⟩ := id X_6.out
  go_wp2_with fail
  clear uX0 uX1 uX2
  refine (QT.out _).mono ?_
  rintro e w7 ⟨rfl, hb⟩
  have z6 : w6.heap.size ≤ w7.heap.size := hb.size
  have X_7 : Hid (Bx w7 w.heap.size t x) := X_6.out.later hb
  have B_7 : Hid (Below w.heap.size w w7) := B_6.out.trans (hb.mono B_6.out.size)
  have V_7 : Hid (Own w7 w1.heap.size (.slice a1 l.length c1) l) := V_6.out.later hb
  have G_7 : Hid (Own w7 w3.heap.size (.slice a2 l.length c2) (marks 1 l.length)) := G_6.out.later hb
  clear X_6 B_6 V_6 G_6 hb
  go_wp2_with fail
  refine (QI.out _ B_7.out).mono ?_
  rintro e w8 ⟨a4, c4, rfl, ho, hn4, hb⟩
  have z7 : w7.heap.size ≤ w8.heap.size := hb.size
  have X_8 : Hid (Bx w8 w.heap.size t x) := X_7.out.later hb
  have B_8 : Hid (Below w.heap.size w w8) := B_7.out.trans (hb.mono B_7.out.size)
  have V_8 : Hid (Own w8 w1.heap.size (.slice a1 l.length c1) l) := V_7.out.later hb
  have G_8 : Hid (Own w8 w3.heap.size (.slice a2 l.length c2) (marks 1 l.length)) := G_7.out.later hb
  have H_8 : Hid (Own w8 w7.heap.size (.slice a4 l.length c4) l) := ho
  have I_H : Hid (∀ k, (Value.slice a4 l.length c4).ownBlock = some k → w7.heap.size ≤ k ∧ k < w8.heap.size) := fun k hk => ⟨own_block_ge H_8.out k hk, (World.ownsRow.lt H_8.out k hk).2⟩
  clear X_7 B_7 V_7 G_7 hb
  clear ho
  go_wp2_with fail
  refine (eqIntS_c a4 a1 l.length l.length c4 c1 l l _ rfl rfl HL.out HL.out H_8.out.rd'.2 V_8.out.rd'.2).mono ?_
  rw [decide_eq_true rfl]
  rintro e w9 ⟨rfl, hb⟩
  have z8 : w8.heap.size ≤ w9.heap.size := hb.size
  have X_9 : Hid (Bx w9 w.heap.size t x) := X_8.out.later hb
  have B_9 : Hid (Below w.heap.size w w9) := B_8.out.trans (hb.mono B_8.out.size)
  have V_9 : Hid (Own w9 w1.heap.size (.slice a1 l.length c1) l) := V_8.out.later hb
  have G_9 : Hid (Own w9 w3.heap.size (.slice a2 l.length c2) (marks 1 l.length)) := G_8.out.later hb
  have H_9 : Hid (Own w9 w7.heap.size (.slice a4 l.length c4) l) := H_8.out.later hb
  clear X_8 B_8 V_8 G_8 H_8 hb
  go_wp2_with fail
  refine (heldIntS_c a2 l.length c2 1 _ _ HL.out (by omega) (by omega) G_9.out).mono ?_
  rintro e wz ⟨rfl, hz⟩
  subst wz
  go_wp2
  go_ret
  exact ⟨rfl, B_9.out⟩

end Go.Proofs.YtjpegbodhpnflaaDoor
