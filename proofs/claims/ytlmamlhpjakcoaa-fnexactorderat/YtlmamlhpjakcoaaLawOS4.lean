/- The law on FnExactOrderAt, walked: it answers true at every argument and turns nothing that was there. -/
import Derived.Test.YtlmamlhpjakcoaaOS4
namespace Go.Proofs.Ytlmamlhpjakcoaa
set_option linter.unusedVariables false
set_option linter.unusedSimpArgs false
open Go.RowKit

set_option maxHeartbeats 8000000 in
set_option maxRecDepth 1000000 in
theorem lawOrder_c (i0 : Int) (i1 : Int) (w : World) (hw0 : -9223372036854775808 ≤ i0 ∧ i0 ≤ 9223372036854775807) (hw1 : -9223372036854775808 ≤ i1 ∧ i1 ≤ 9223372036854775807) :
    Calls Try.prog 10 #[.int .i64 i0, .int .i64 i1] w fun e w' => e = .returned (.bool true) ∧ Below w.heap.size w w' := by
  obtain ⟨zs, fb, hF⟩ : ∃ zs fb, orderF i0 i1 = (zs, fb) := ⟨_, _, rfl⟩
  have HF : Hid (orderF i0 i1 = (zs, fb)) := hF
  obtain ⟨p, hpl⟩ : ∃ p, zs.length = p := ⟨_, rfl⟩
  have HP : Hid (zs.length = p) := hpl
  have hp4 : p ≤ 9 := by rw [← hpl]; exact orderF_short hF
  have hp : p ≤ 17592186044416 := by omega
  have hfb : (fb != fb) = false := by simp
  clear hF hpl hp4
  go_enter Try.func10, Try.ntmps10
  have HB0 : Hid (Below w.heap.size w w) := Below.refl _ _
  go_wp2_with fail
  refine (specOrder_c i0 i1 _ zs fb p HF.out HP.out).mono ?_
  rintro e w1 ⟨a1, d1, rfl, ho, hb⟩
  have HB1 : Hid (Below w.heap.size w w1) := HB0.out.trans (hb.mono HB0.out.size)
  have z1 : w.heap.size ≤ w1.heap.size := hb.size
  have Z_1 : Hid (Own w1 w.heap.size (Value.slice a1 p d1) (zs)) := ho
  have I_Z : Hid (∀ k, (Value.slice a1 p d1).ownBlock = some k → w.heap.size ≤ k ∧ k < w1.heap.size) := World.ownsRow.lt Z_1.out
  clear ho
  clear hb
  go_wp2_with fail
  refine (implOrder_c i0 i1 _ zs fb p HF.out HP.out).mono ?_
  rintro e w2 ⟨a2, d2, rfl, ho, hb⟩
  have HB2 : Hid (Below w.heap.size w w2) := HB1.out.trans (hb.mono HB1.out.size)
  have z2 : w1.heap.size ≤ w2.heap.size := hb.size
  have Z_2 : Hid (Own w2 w.heap.size (Value.slice a1 p d1) (zs)) := Z_1.out.later hb
  have G_2 : Hid (Own w2 w1.heap.size (Value.slice a2 p d2) (zs)) := ho
  have I_G : Hid (∀ k, (Value.slice a2 p d2).ownBlock = some k → w1.heap.size ≤ k ∧ k < w2.heap.size) := World.ownsRow.lt G_2.out
  clear ho
  clear hb Z_1
  go_wp2_with fail
  refine (eqIntS_c a2 a1 p p d2 d1 zs zs _ HP.out HP.out hp hp G_2.out.rd'.2 Z_2.out.rd'.2).mono ?_
  rw [decide_eq_true rfl]
  rintro e w3 ⟨rfl, hb⟩
  have HB3 : Hid (Below w.heap.size w w3) := HB2.out.trans (hb.mono HB2.out.size)
  have z3 : w2.heap.size ≤ w3.heap.size := hb.size
  have Z_3 : Hid (Own w3 w.heap.size (Value.slice a1 p d1) (zs)) := Z_2.out.later hb
  have G_3 : Hid (Own w3 w1.heap.size (Value.slice a2 p d2) (zs)) := G_2.out.later hb
  clear hb Z_2 G_2
  go_wp2_with fail
  refine (markIntS_c a2 p d2 1 w1.heap.size zs _ hp (by omega) (by omega) G_3.out).mono ?_
  rintro e w4 ⟨rfl, ho, hg⟩
  have HB4 : Hid (Below w.heap.size w w4) := HB3.out.grown hg HB3.out.size (fun k e => by have := I_G.out k e; omega)
  have z4 : w3.heap.size ≤ w4.heap.size := hg.size
  have Z_4 : Hid (Own w4 w.heap.size (Value.slice a1 p d1) (zs)) := Z_3.out.kept hg (own_sep I_Z.out I_G.out (by omega))
  have G_4 : Hid (Own w4 w1.heap.size (Value.slice a2 p d2) (marks 1 p)) := ho
  clear ho hg Z_3 G_3
  go_wp2_with fail
  refine (heldIntS_c a2 p d2 1 w1.heap.size _ hp (by omega) (by omega) G_4.out).mono ?_
  rintro e w' ⟨rfl, hw⟩
  subst w'
  go_wp2_with fail
  refine (implOrder_c i0 i1 _ zs fb p HF.out HP.out).mono ?_
  rintro e w5 ⟨a5, d5, rfl, ho, hb⟩
  have HB5 : Hid (Below w.heap.size w w5) := HB4.out.trans (hb.mono HB4.out.size)
  have z5 : w4.heap.size ≤ w5.heap.size := hb.size
  have Z_5 : Hid (Own w5 w.heap.size (Value.slice a1 p d1) (zs)) := Z_4.out.later hb
  have G_5 : Hid (Own w5 w1.heap.size (Value.slice a2 p d2) (marks 1 p)) := G_4.out.later hb
  have H_5 : Hid (Own w5 w4.heap.size (Value.slice a5 p d5) (zs)) := ho
  have I_H : Hid (∀ k, (Value.slice a5 p d5).ownBlock = some k → w4.heap.size ≤ k ∧ k < w5.heap.size) := World.ownsRow.lt H_5.out
  clear ho
  clear hb Z_4 G_4
  go_wp2_with fail
  refine (eqIntS_c a5 a1 p p d5 d1 zs zs _ HP.out HP.out hp hp H_5.out.rd'.2 Z_5.out.rd'.2).mono ?_
  rw [decide_eq_true rfl]
  rintro e w6 ⟨rfl, hb⟩
  have HB6 : Hid (Below w.heap.size w w6) := HB5.out.trans (hb.mono HB5.out.size)
  have z6 : w5.heap.size ≤ w6.heap.size := hb.size
  have Z_6 : Hid (Own w6 w.heap.size (Value.slice a1 p d1) (zs)) := Z_5.out.later hb
  have G_6 : Hid (Own w6 w1.heap.size (Value.slice a2 p d2) (marks 1 p)) := G_5.out.later hb
  have H_6 : Hid (Own w6 w4.heap.size (Value.slice a5 p d5) (zs)) := H_5.out.later hb
  clear hb Z_5 G_5 H_5
  go_wp2_with fail
  refine (heldIntS_c a2 p d2 1 w1.heap.size _ hp (by omega) (by omega) G_6.out).mono ?_
  rintro e w' ⟨rfl, hw⟩
  subst w'
  go_wp2
  go_ret
  exact ⟨rfl, HB6.out⟩

end Go.Proofs.Ytlmamlhpjakcoaa
