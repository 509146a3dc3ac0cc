/- The law on FnExactBackOrder, walked: it answers true at every argument and turns nothing that was there. -/
import Derived.Test.YtlepejafednlfaaBK9
namespace Go.Proofs.Ytlepejafednlfaa
set_option linter.unusedVariables false
set_option maxRecDepth 1000000
set_option linter.unusedSimpArgs false
open Go.RowKit

set_option maxHeartbeats 8000000 in
set_option maxRecDepth 1000000 in
theorem lawBack_c (ao : Option Addr) (n c : Nat) (xs : List Int) (w : World) (hx0 : xs.length = n) (hm0 : n ≤ 9223372036854775807) (hr0 : Rd w ao xs) :
    Calls Try.prog 7 #[.slice ao n c] w fun e w' => e = .returned (.bool true) ∧ Below w.heap.size w w' := by
  by_cases hl0 : 1048576 < n
  · have hi0 : (1048576 : Int) < (n : Int) := by omega
    go_enter Try.func7, Try.ntmps7
    go_wp2
    go_ret
    exact ⟨rfl, Below.refl _ _⟩
  have hn : n ≤ 17592186044416 := by omega
  have HX0 : Hid (xs.length = n) := hx0
  have HR0 : Hid (Rd w ao xs) := hr0
  obtain ⟨zs, fb, hF⟩ : ∃ zs fb, backF xs = (zs, fb) := ⟨_, _, rfl⟩
  have HF : Hid (backF xs = (zs, fb)) := hF
  obtain ⟨p, hpl⟩ : ∃ p, zs.length = p := ⟨_, rfl⟩
  have HP : Hid (zs.length = p) := hpl
  have hp4 : p ≤ 9 := by rw [← hpl]; exact backF_short hF
  have hp : p ≤ 17592186044416 := by omega
  have hfb : (fb != fb) = false := by simp
  clear hF hpl hp4
  clear hx0 hr0
  go_enter Try.func7, Try.ntmps7
  have HB0 : Hid (Below w.heap.size w w) := Below.refl _ _
  go_wp2_with fail
  refine (toIntS_c ao n c xs _ HX0.out hn (HR0.out.later HB0.out)).mono ?_
  rintro e w1 ⟨a1, d1, rfl, ho, hb⟩
  have HB1 : Hid (Below w.heap.size w w1) := HB0.out.trans (hb.mono HB0.out.size)
  have z1 : w.heap.size ≤ w1.heap.size := hb.size
  have S0_1 : Hid (Own w1 w.heap.size (Value.slice a1 n d1) (xs)) := ho
  have I_S0 : Hid (∀ k, (Value.slice a1 n d1).ownBlock = some k → w.heap.size ≤ k ∧ k < w1.heap.size) := World.ownsRow.lt S0_1.out
  clear ho
  clear hb
  go_wp2_with fail
  refine (specBack_c a1 n d1 xs _ HX0.out hn S0_1.out.cap S0_1.out.rd'.2 zs fb p HF.out HP.out).mono ?_
  rintro e w2 ⟨a2, d2, rfl, ho, hb⟩
  have HB2 : Hid (Below w.heap.size w w2) := HB1.out.trans (hb.mono HB1.out.size)
  have z2 : w1.heap.size ≤ w2.heap.size := hb.size
  have S0_2 : Hid (Own w2 w.heap.size (Value.slice a1 n d1) (xs)) := S0_1.out.later hb
  have Z_2 : Hid (Own w2 w1.heap.size (Value.slice a2 p d2) (zs)) := ho
  have I_Z : Hid (∀ k, (Value.slice a2 p d2).ownBlock = some k → w1.heap.size ≤ k ∧ k < w2.heap.size) := World.ownsRow.lt Z_2.out
  clear ho
  clear hb S0_1
  go_wp2_with fail
  refine (toIntS_c ao n c xs _ HX0.out hn (HR0.out.later HB2.out)).mono ?_
  rintro e w3 ⟨a3, d3, rfl, ho, hb⟩
  have HB3 : Hid (Below w.heap.size w w3) := HB2.out.trans (hb.mono HB2.out.size)
  have z3 : w2.heap.size ≤ w3.heap.size := hb.size
  have S0_3 : Hid (Own w3 w.heap.size (Value.slice a1 n d1) (xs)) := S0_2.out.later hb
  have Z_3 : Hid (Own w3 w1.heap.size (Value.slice a2 p d2) (zs)) := Z_2.out.later hb
  have X0_3 : Hid (Own w3 w2.heap.size (Value.slice a3 n d3) (xs)) := ho
  have I_X0 : Hid (∀ k, (Value.slice a3 n d3).ownBlock = some k → w2.heap.size ≤ k ∧ k < w3.heap.size) := World.ownsRow.lt X0_3.out
  clear ho
  clear hb S0_2 Z_2
  go_wp2_with fail
  refine (implBack_c a3 n d3 xs _ HX0.out hn X0_3.out.cap X0_3.out.rd'.2 zs fb p HF.out HP.out).mono ?_
  rintro e w4 ⟨a4, d4, rfl, ho, hb⟩
  have HB4 : Hid (Below w.heap.size w w4) := HB3.out.trans (hb.mono HB3.out.size)
  have z4 : w3.heap.size ≤ w4.heap.size := hb.size
  have S0_4 : Hid (Own w4 w.heap.size (Value.slice a1 n d1) (xs)) := S0_3.out.later hb
  have Z_4 : Hid (Own w4 w1.heap.size (Value.slice a2 p d2) (zs)) := Z_3.out.later hb
  have X0_4 : Hid (Own w4 w2.heap.size (Value.slice a3 n d3) (xs)) := X0_3.out.later hb
  have G_4 : Hid (Own w4 w3.heap.size (Value.slice a4 p d4) (zs)) := ho
  have I_G : Hid (∀ k, (Value.slice a4 p d4).ownBlock = some k → w3.heap.size ≤ k ∧ k < w4.heap.size) := World.ownsRow.lt G_4.out
  clear ho
  clear hb S0_3 Z_3 X0_3
  go_wp2_with fail
  refine (eqIntS_c a4 a2 p p d4 d2 zs zs _ HP.out HP.out hp hp G_4.out.rd'.2 Z_4.out.rd'.2).mono ?_
  rw [decide_eq_true rfl]
  rintro e w5 ⟨rfl, hb⟩
  have HB5 : Hid (Below w.heap.size w w5) := HB4.out.trans (hb.mono HB4.out.size)
  have z5 : w4.heap.size ≤ w5.heap.size := hb.size
  have S0_5 : Hid (Own w5 w.heap.size (Value.slice a1 n d1) (xs)) := S0_4.out.later hb
  have Z_5 : Hid (Own w5 w1.heap.size (Value.slice a2 p d2) (zs)) := Z_4.out.later hb
  have X0_5 : Hid (Own w5 w2.heap.size (Value.slice a3 n d3) (xs)) := X0_4.out.later hb
  have G_5 : Hid (Own w5 w3.heap.size (Value.slice a4 p d4) (zs)) := G_4.out.later hb
  clear hb S0_4 Z_4 X0_4 G_4
  go_wp2_with fail
  refine (toIntS_c ao n c xs _ HX0.out hn (HR0.out.later HB5.out)).mono ?_
  rintro e w6 ⟨a6, d6, rfl, ho, hb⟩
  have HB6 : Hid (Below w.heap.size w w6) := HB5.out.trans (hb.mono HB5.out.size)
  have z6 : w5.heap.size ≤ w6.heap.size := hb.size
  have S0_6 : Hid (Own w6 w.heap.size (Value.slice a1 n d1) (xs)) := S0_5.out.later hb
  have Z_6 : Hid (Own w6 w1.heap.size (Value.slice a2 p d2) (zs)) := Z_5.out.later hb
  have X0_6 : Hid (Own w6 w2.heap.size (Value.slice a3 n d3) (xs)) := X0_5.out.later hb
  have G_6 : Hid (Own w6 w3.heap.size (Value.slice a4 p d4) (zs)) := G_5.out.later hb
  have Y0_6 : Hid (Own w6 w5.heap.size (Value.slice a6 n d6) (xs)) := ho
  have I_Y0 : Hid (∀ k, (Value.slice a6 n d6).ownBlock = some k → w5.heap.size ≤ k ∧ k < w6.heap.size) := World.ownsRow.lt Y0_6.out
  clear ho
  clear hb S0_5 Z_5 X0_5 G_5
  go_wp2_with fail
  refine (eqIntS_c a3 a6 n n d3 d6 xs xs _ HX0.out HX0.out hn hn X0_6.out.rd'.2 Y0_6.out.rd'.2).mono ?_
  rw [decide_eq_true rfl]
  rintro e w7 ⟨rfl, hb⟩
  have HB7 : Hid (Below w.heap.size w w7) := HB6.out.trans (hb.mono HB6.out.size)
  have z7 : w6.heap.size ≤ w7.heap.size := hb.size
  have S0_7 : Hid (Own w7 w.heap.size (Value.slice a1 n d1) (xs)) := S0_6.out.later hb
  have Z_7 : Hid (Own w7 w1.heap.size (Value.slice a2 p d2) (zs)) := Z_6.out.later hb
  have X0_7 : Hid (Own w7 w2.heap.size (Value.slice a3 n d3) (xs)) := X0_6.out.later hb
  have G_7 : Hid (Own w7 w3.heap.size (Value.slice a4 p d4) (zs)) := G_6.out.later hb
  have Y0_7 : Hid (Own w7 w5.heap.size (Value.slice a6 n d6) (xs)) := Y0_6.out.later hb
  clear hb S0_6 Z_6 X0_6 G_6 Y0_6
  go_wp2_with fail
  refine (markIntS_c a3 n d3 (1) w2.heap.size xs _ hn (by omega) (by omega) X0_7.out).mono ?_
  rintro e w8 ⟨rfl, ho, hg⟩
  have HB8 : Hid (Below w.heap.size w w8) := HB7.out.grown hg HB7.out.size (fun k e => by have := I_X0.out k e; omega)
  have z8 : w7.heap.size ≤ w8.heap.size := hg.size
  have S0_8 : Hid (Own w8 w.heap.size (Value.slice a1 n d1) (xs)) := S0_7.out.kept hg (own_sep I_S0.out I_X0.out (by omega))
  have Z_8 : Hid (Own w8 w1.heap.size (Value.slice a2 p d2) (zs)) := Z_7.out.kept hg (own_sep I_Z.out I_X0.out (by omega))
  have G_8 : Hid (Own w8 w3.heap.size (Value.slice a4 p d4) (zs)) := G_7.out.kept hg (own_sep I_G.out I_X0.out (by omega))
  have Y0_8 : Hid (Own w8 w5.heap.size (Value.slice a6 n d6) (xs)) := Y0_7.out.kept hg (own_sep I_Y0.out I_X0.out (by omega))
  have X0_8 : Hid (Own w8 w2.heap.size (Value.slice a3 n d3) (marks (1) n)) := ho
  clear ho hg S0_7 Z_7 X0_7 G_7 Y0_7
  go_wp2_with fail
  refine (eqIntS_c a4 a2 p p d4 d2 zs zs _ HP.out HP.out hp hp G_8.out.rd'.2 Z_8.out.rd'.2).mono ?_
  rw [decide_eq_true rfl]
  rintro e w9 ⟨rfl, hb⟩
  have HB9 : Hid (Below w.heap.size w w9) := HB8.out.trans (hb.mono HB8.out.size)
  have z9 : w8.heap.size ≤ w9.heap.size := hb.size
  have S0_9 : Hid (Own w9 w.heap.size (Value.slice a1 n d1) (xs)) := S0_8.out.later hb
  have Z_9 : Hid (Own w9 w1.heap.size (Value.slice a2 p d2) (zs)) := Z_8.out.later hb
  have X0_9 : Hid (Own w9 w2.heap.size (Value.slice a3 n d3) (marks (1) n)) := X0_8.out.later hb
  have G_9 : Hid (Own w9 w3.heap.size (Value.slice a4 p d4) (zs)) := G_8.out.later hb
  have Y0_9 : Hid (Own w9 w5.heap.size (Value.slice a6 n d6) (xs)) := Y0_8.out.later hb
  clear hb S0_8 Z_8 X0_8 G_8 Y0_8
  go_wp2_with fail
  refine (markIntS_c a4 p d4 1 w3.heap.size zs _ (by omega) (by omega) (by omega) G_9.out).mono ?_
  rintro e w10 ⟨rfl, ho, hg⟩
  have HB10 : Hid (Below w.heap.size w w10) := HB9.out.grown hg HB9.out.size (fun k e => by have := I_G.out k e; omega)
  have z10 : w9.heap.size ≤ w10.heap.size := hg.size
  have S0_10 : Hid (Own w10 w.heap.size (Value.slice a1 n d1) (xs)) := S0_9.out.kept hg (own_sep I_S0.out I_G.out (by omega))
  have Z_10 : Hid (Own w10 w1.heap.size (Value.slice a2 p d2) (zs)) := Z_9.out.kept hg (own_sep I_Z.out I_G.out (by omega))
  have X0_10 : Hid (Own w10 w2.heap.size (Value.slice a3 n d3) (marks (1) n)) := X0_9.out.kept hg (own_sep I_X0.out I_G.out (by omega))
  have Y0_10 : Hid (Own w10 w5.heap.size (Value.slice a6 n d6) (xs)) := Y0_9.out.kept hg (own_sep I_Y0.out I_G.out (by omega))
  have G_10 : Hid (Own w10 w3.heap.size (Value.slice a4 p d4) (marks 1 p)) := ho
  clear ho hg S0_9 Z_9 X0_9 G_9 Y0_9
  go_wp2_with fail
  refine (heldIntS_c a4 p d4 1 w3.heap.size _ (by omega) (by omega) (by omega) G_10.out).mono ?_
  rintro e w' ⟨rfl, hw⟩
  subst w'
  go_wp2_with fail
  refine (toIntS_c ao n c xs _ HX0.out hn (HR0.out.later HB10.out)).mono ?_
  rintro e w11 ⟨a11, d11, rfl, ho, hb⟩
  have HB11 : Hid (Below w.heap.size w w11) := HB10.out.trans (hb.mono HB10.out.size)
  have z11 : w10.heap.size ≤ w11.heap.size := hb.size
  have S0_11 : Hid (Own w11 w.heap.size (Value.slice a1 n d1) (xs)) := S0_10.out.later hb
  have Z_11 : Hid (Own w11 w1.heap.size (Value.slice a2 p d2) (zs)) := Z_10.out.later hb
  have X0_11 : Hid (Own w11 w2.heap.size (Value.slice a3 n d3) (marks (1) n)) := X0_10.out.later hb
  have G_11 : Hid (Own w11 w3.heap.size (Value.slice a4 p d4) (marks 1 p)) := G_10.out.later hb
  have Y0_11 : Hid (Own w11 w5.heap.size (Value.slice a6 n d6) (xs)) := Y0_10.out.later hb
  have T0_11 : Hid (Own w11 w10.heap.size (Value.slice a11 n d11) (xs)) := ho
  have I_T0 : Hid (∀ k, (Value.slice a11 n d11).ownBlock = some k → w10.heap.size ≤ k ∧ k < w11.heap.size) := World.ownsRow.lt T0_11.out
  clear ho
  clear hb S0_10 Z_10 X0_10 G_10 Y0_10
  go_wp2_with fail
  refine (implBack_c a11 n d11 xs _ HX0.out hn T0_11.out.cap T0_11.out.rd'.2 zs fb p HF.out HP.out).mono ?_
  rintro e w12 ⟨a12, d12, rfl, ho, hb⟩
  have HB12 : Hid (Below w.heap.size w w12) := HB11.out.trans (hb.mono HB11.out.size)
  have z12 : w11.heap.size ≤ w12.heap.size := hb.size
  have S0_12 : Hid (Own w12 w.heap.size (Value.slice a1 n d1) (xs)) := S0_11.out.later hb
  have Z_12 : Hid (Own w12 w1.heap.size (Value.slice a2 p d2) (zs)) := Z_11.out.later hb
  have X0_12 : Hid (Own w12 w2.heap.size (Value.slice a3 n d3) (marks (1) n)) := X0_11.out.later hb
  have G_12 : Hid (Own w12 w3.heap.size (Value.slice a4 p d4) (marks 1 p)) := G_11.out.later hb
  have Y0_12 : Hid (Own w12 w5.heap.size (Value.slice a6 n d6) (xs)) := Y0_11.out.later hb
  have T0_12 : Hid (Own w12 w10.heap.size (Value.slice a11 n d11) (xs)) := T0_11.out.later hb
  have H_12 : Hid (Own w12 w11.heap.size (Value.slice a12 p d12) (zs)) := ho
  have I_H : Hid (∀ k, (Value.slice a12 p d12).ownBlock = some k → w11.heap.size ≤ k ∧ k < w12.heap.size) := World.ownsRow.lt H_12.out
  clear ho
  clear hb S0_11 Z_11 X0_11 G_11 Y0_11 T0_11
  go_wp2_with fail
  refine (eqIntS_c a12 a2 p p d12 d2 zs zs _ HP.out HP.out hp hp H_12.out.rd'.2 Z_12.out.rd'.2).mono ?_
  rw [decide_eq_true rfl]
  rintro e w13 ⟨rfl, hb⟩
  have HB13 : Hid (Below w.heap.size w w13) := HB12.out.trans (hb.mono HB12.out.size)
  have z13 : w12.heap.size ≤ w13.heap.size := hb.size
  have S0_13 : Hid (Own w13 w.heap.size (Value.slice a1 n d1) (xs)) := S0_12.out.later hb
  have Z_13 : Hid (Own w13 w1.heap.size (Value.slice a2 p d2) (zs)) := Z_12.out.later hb
  have X0_13 : Hid (Own w13 w2.heap.size (Value.slice a3 n d3) (marks (1) n)) := X0_12.out.later hb
  have G_13 : Hid (Own w13 w3.heap.size (Value.slice a4 p d4) (marks 1 p)) := G_12.out.later hb
  have Y0_13 : Hid (Own w13 w5.heap.size (Value.slice a6 n d6) (xs)) := Y0_12.out.later hb
  have T0_13 : Hid (Own w13 w10.heap.size (Value.slice a11 n d11) (xs)) := T0_12.out.later hb
  have H_13 : Hid (Own w13 w11.heap.size (Value.slice a12 p d12) (zs)) := H_12.out.later hb
  clear hb S0_12 Z_12 X0_12 G_12 Y0_12 T0_12 H_12
  go_wp2_with fail
  refine (heldIntS_c a4 p d4 1 w3.heap.size _ (by omega) (by omega) (by omega) G_13.out).mono ?_
  rintro e w' ⟨rfl, hw⟩
  subst w'
  go_wp2
  go_ret
  exact ⟨rfl, HB13.out⟩

end Go.Proofs.Ytlepejafednlfaa
