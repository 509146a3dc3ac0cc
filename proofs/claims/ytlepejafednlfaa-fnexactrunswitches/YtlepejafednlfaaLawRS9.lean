/- The law on FnExactRunSwitches, walked: it answers true at every argument and turns nothing that was there. -/
import Derived.Test.YtlepejafednlfaaWS9
import Derived.Test.YtlepejafednlfaaSZ9
namespace Go.Proofs.Ytlepejafednlfaa
set_option linter.unusedVariables false
set_option maxRecDepth 1000000
set_option linter.unusedSimpArgs false
open Go.RowKit

set_option maxHeartbeats 8000000 in
set_option maxRecDepth 1000000 in
theorem lawRun_c (i0 : Int) (ao : Option Addr) (n c : Nat) (xs : List Bool) (bo : Option Addr) (m d : Nat) (ys : List ByteArray) (w : World) (hw0 : -9223372036854775808 ≤ i0 ∧ i0 ≤ 9223372036854775807) (hx1 : xs.length = n) (hm1 : n ≤ 9223372036854775807) (hr1 : RdB w ao xs) (hx2 : ys.length = m) (hm2 : m ≤ 9223372036854775807) (hr2 : RdS w bo ys) (hs2 : ∀ s ∈ ys, s.size ≤ 9223372036854775807) :
    Calls Try.prog 14 #[.int .i64 i0, .slice ao n c, .slice bo m d] w fun e w' => e = .returned (.bool true) ∧ Below w.heap.size w w' := by
  by_cases hl1 : 1048576 < n
  · have hi1 : (1048576 : Int) < (n : Int) := by omega
    go_enter Try.func14, Try.ntmps14
    go_wp2
    go_ret
    exact ⟨rfl, Below.refl _ _⟩
  have hn : n ≤ 17592186044416 := by omega
  have HX1 : Hid (xs.length = n) := hx1
  have HR1 : Hid (RdB w ao xs) := hr1
  have HX2 : Hid (ys.length = m) := hx2
  have HR2 : Hid (RdS w bo ys) := hr2
  have HS2 : Hid (∀ s ∈ ys, s.size ≤ 9223372036854775807) := hs2
  obtain ⟨zs, fb, hF⟩ : ∃ zs fb, runF i0 xs ys = (zs, fb) := ⟨_, _, rfl⟩
  have HF : Hid (runF i0 xs ys = (zs, fb)) := hF
  obtain ⟨p, hpl⟩ : ∃ p, zs.length = p := ⟨_, rfl⟩
  have HP : Hid (zs.length = p) := hpl
  have hp4 : p ≤ 9 := by rw [← hpl]; exact runF_short hF
  have hp : p ≤ 17592186044416 := by omega
  have hfb : (fb != fb) = false := by simp
  clear hF hpl hp4
  clear hx1 hr1 hx2 hr2 hs2
  go_enter Try.func14, Try.ntmps14
  have HB0 : Hid (Below w.heap.size w w) := Below.refl _ _
  go_wp2_with fail
  refine (szStringS9_c bo m d 1048576 ys w HX2.out hm2 (by omega) HS2.out HR2.out).mono ?_
  rintro e w' ⟨rs, rfl, hw, hr1, hr2⟩
  subst w'
  by_cases hr0 : rs < 0
  · go_wp2
    go_ret
    exact ⟨rfl, Below.refl _ _⟩
  have hrn : 0 ≤ rs := by omega
  have hm : m ≤ 17592186044416 := by have := (hr2 hrn).1; omega
  have HZ : Hid (∀ s ∈ ys, s.size ≤ 1048576) := (hr2 hrn).2
  clear hr1 hr2 hr0
  go_wp2_with fail
  refine (toBoolS_c ao n c xs _ HX1.out hn (HR1.out.later HB0.out)).mono ?_
  rintro e w1 ⟨a1, d1, rfl, ho, hb⟩
  have HB1 : Hid (Below w.heap.size w w1) := HB0.out.trans (hb.mono HB0.out.size)
  have z1 : w.heap.size ≤ w1.heap.size := hb.size
  have S1_1 : Hid (OwnB w1 w.heap.size (Value.slice a1 n d1) (xs)) := ho
  have I_S1 : Hid (∀ k, (Value.slice a1 n d1).ownBlock = some k → w.heap.size ≤ k ∧ k < w1.heap.size) := World.ownsRow.lt S1_1.out
  clear ho
  clear hb
  go_wp2_with fail
  refine (toStringS_c bo m d ys _ HX2.out hm (HR2.out.later HB1.out)).mono ?_
  rintro e w2 ⟨a2, d2, rfl, ho, hb⟩
  have HB2 : Hid (Below w.heap.size w w2) := HB1.out.trans (hb.mono HB1.out.size)
  have z2 : w1.heap.size ≤ w2.heap.size := hb.size
  have S1_2 : Hid (OwnB w2 w.heap.size (Value.slice a1 n d1) (xs)) := S1_1.out.later hb
  have S2_2 : Hid (OwnS w2 w1.heap.size (Value.slice a2 m d2) (ys)) := ho
  have I_S2 : Hid (∀ k, (Value.slice a2 m d2).ownBlock = some k → w1.heap.size ≤ k ∧ k < w2.heap.size) := World.ownsRow.lt S2_2.out
  clear ho
  clear hb S1_1
  go_wp2_with fail
  refine (specRunS_c i0 a1 n d1 a2 m d2 xs ys _ HX1.out HX2.out hn hm S1_2.out.cap9 S1_2.out.rd'.2 S2_2.out.rd'.2 HZ.out zs fb p HF.out HP.out).mono ?_
  rintro e w3 ⟨a3, d3, rfl, ho, hb⟩
  have HB3 : Hid (Below w.heap.size w w3) := HB2.out.trans (hb.mono HB2.out.size)
  have z3 : w2.heap.size ≤ w3.heap.size := hb.size
  have S1_3 : Hid (OwnB w3 w.heap.size (Value.slice a1 n d1) (xs)) := S1_2.out.later hb
  have S2_3 : Hid (OwnS w3 w1.heap.size (Value.slice a2 m d2) (ys)) := S2_2.out.later hb
  have Z_3 : Hid (OwnS w3 w2.heap.size (Value.slice a3 p d3) (zs)) := ho
  have I_Z : Hid (∀ k, (Value.slice a3 p d3).ownBlock = some k → w2.heap.size ≤ k ∧ k < w3.heap.size) := World.ownsRow.lt Z_3.out
  clear ho
  clear hb S1_2 S2_2
  go_wp2_with fail
  refine (toBoolS_c ao n c xs _ HX1.out hn (HR1.out.later HB3.out)).mono ?_
  rintro e w4 ⟨a4, d4, rfl, ho, hb⟩
  have HB4 : Hid (Below w.heap.size w w4) := HB3.out.trans (hb.mono HB3.out.size)
  have z4 : w3.heap.size ≤ w4.heap.size := hb.size
  have S1_4 : Hid (OwnB w4 w.heap.size (Value.slice a1 n d1) (xs)) := S1_3.out.later hb
  have S2_4 : Hid (OwnS w4 w1.heap.size (Value.slice a2 m d2) (ys)) := S2_3.out.later hb
  have Z_4 : Hid (OwnS w4 w2.heap.size (Value.slice a3 p d3) (zs)) := Z_3.out.later hb
  have X1_4 : Hid (OwnB w4 w3.heap.size (Value.slice a4 n d4) (xs)) := ho
  have I_X1 : Hid (∀ k, (Value.slice a4 n d4).ownBlock = some k → w3.heap.size ≤ k ∧ k < w4.heap.size) := World.ownsRow.lt X1_4.out
  clear ho
  clear hb S1_3 S2_3 Z_3
  go_wp2_with fail
  refine (toStringS_c bo m d ys _ HX2.out hm (HR2.out.later HB4.out)).mono ?_
  rintro e w5 ⟨a5, d5, rfl, ho, hb⟩
  have HB5 : Hid (Below w.heap.size w w5) := HB4.out.trans (hb.mono HB4.out.size)
  have z5 : w4.heap.size ≤ w5.heap.size := hb.size
  have S1_5 : Hid (OwnB w5 w.heap.size (Value.slice a1 n d1) (xs)) := S1_4.out.later hb
  have S2_5 : Hid (OwnS w5 w1.heap.size (Value.slice a2 m d2) (ys)) := S2_4.out.later hb
  have Z_5 : Hid (OwnS w5 w2.heap.size (Value.slice a3 p d3) (zs)) := Z_4.out.later hb
  have X1_5 : Hid (OwnB w5 w3.heap.size (Value.slice a4 n d4) (xs)) := X1_4.out.later hb
  have X2_5 : Hid (OwnS w5 w4.heap.size (Value.slice a5 m d5) (ys)) := ho
  have I_X2 : Hid (∀ k, (Value.slice a5 m d5).ownBlock = some k → w4.heap.size ≤ k ∧ k < w5.heap.size) := World.ownsRow.lt X2_5.out
  clear ho
  clear hb S1_4 S2_4 Z_4 X1_4
  go_wp2_with fail
  refine (implRunS_c i0 a4 n d4 a5 m d5 xs ys _ HX1.out HX2.out hn hm X1_5.out.cap9 X1_5.out.rd'.2 X2_5.out.rd'.2 HZ.out zs fb p HF.out HP.out).mono ?_
  rintro e w6 ⟨a6, d6, rfl, ho, hb⟩
  have HB6 : Hid (Below w.heap.size w w6) := HB5.out.trans (hb.mono HB5.out.size)
  have z6 : w5.heap.size ≤ w6.heap.size := hb.size
  have S1_6 : Hid (OwnB w6 w.heap.size (Value.slice a1 n d1) (xs)) := S1_5.out.later hb
  have S2_6 : Hid (OwnS w6 w1.heap.size (Value.slice a2 m d2) (ys)) := S2_5.out.later hb
  have Z_6 : Hid (OwnS w6 w2.heap.size (Value.slice a3 p d3) (zs)) := Z_5.out.later hb
  have X1_6 : Hid (OwnB w6 w3.heap.size (Value.slice a4 n d4) (xs)) := X1_5.out.later hb
  have X2_6 : Hid (OwnS w6 w4.heap.size (Value.slice a5 m d5) (ys)) := X2_5.out.later hb
  have G_6 : Hid (OwnS w6 w5.heap.size (Value.slice a6 p d6) (zs)) := ho
  have I_G : Hid (∀ k, (Value.slice a6 p d6).ownBlock = some k → w5.heap.size ≤ k ∧ k < w6.heap.size) := World.ownsRow.lt G_6.out
  clear ho
  clear hb S1_5 S2_5 Z_5 X1_5 X2_5
  go_wp2_with fail
  refine (eqStringS_c a6 a3 p p d6 d3 zs zs _ HP.out HP.out hp hp G_6.out.rd'.2 Z_6.out.rd'.2).mono ?_
  rw [decide_eq_true rfl]
  rintro e w7 ⟨rfl, hb⟩
  have HB7 : Hid (Below w.heap.size w w7) := HB6.out.trans (hb.mono HB6.out.size)
  have z7 : w6.heap.size ≤ w7.heap.size := hb.size
  have S1_7 : Hid (OwnB w7 w.heap.size (Value.slice a1 n d1) (xs)) := S1_6.out.later hb
  have S2_7 : Hid (OwnS w7 w1.heap.size (Value.slice a2 m d2) (ys)) := S2_6.out.later hb
  have Z_7 : Hid (OwnS w7 w2.heap.size (Value.slice a3 p d3) (zs)) := Z_6.out.later hb
  have X1_7 : Hid (OwnB w7 w3.heap.size (Value.slice a4 n d4) (xs)) := X1_6.out.later hb
  have X2_7 : Hid (OwnS w7 w4.heap.size (Value.slice a5 m d5) (ys)) := X2_6.out.later hb
  have G_7 : Hid (OwnS w7 w5.heap.size (Value.slice a6 p d6) (zs)) := G_6.out.later hb
  clear hb S1_6 S2_6 Z_6 X1_6 X2_6 G_6
  go_wp2_with fail
  refine (toBoolS_c ao n c xs _ HX1.out hn (HR1.out.later HB7.out)).mono ?_
  rintro e w8 ⟨a8, d8, rfl, ho, hb⟩
  have HB8 : Hid (Below w.heap.size w w8) := HB7.out.trans (hb.mono HB7.out.size)
  have z8 : w7.heap.size ≤ w8.heap.size := hb.size
  have S1_8 : Hid (OwnB w8 w.heap.size (Value.slice a1 n d1) (xs)) := S1_7.out.later hb
  have S2_8 : Hid (OwnS w8 w1.heap.size (Value.slice a2 m d2) (ys)) := S2_7.out.later hb
  have Z_8 : Hid (OwnS w8 w2.heap.size (Value.slice a3 p d3) (zs)) := Z_7.out.later hb
  have X1_8 : Hid (OwnB w8 w3.heap.size (Value.slice a4 n d4) (xs)) := X1_7.out.later hb
  have X2_8 : Hid (OwnS w8 w4.heap.size (Value.slice a5 m d5) (ys)) := X2_7.out.later hb
  have G_8 : Hid (OwnS w8 w5.heap.size (Value.slice a6 p d6) (zs)) := G_7.out.later hb
  have Y1_8 : Hid (OwnB w8 w7.heap.size (Value.slice a8 n d8) (xs)) := ho
  have I_Y1 : Hid (∀ k, (Value.slice a8 n d8).ownBlock = some k → w7.heap.size ≤ k ∧ k < w8.heap.size) := World.ownsRow.lt Y1_8.out
  clear ho
  clear hb S1_7 S2_7 Z_7 X1_7 X2_7 G_7
  go_wp2_with fail
  refine (eqBoolS_c a4 a8 n n d4 d8 xs xs _ HX1.out HX1.out hn hn X1_8.out.rd'.2 Y1_8.out.rd'.2).mono ?_
  rw [decide_eq_true rfl]
  rintro e w9 ⟨rfl, hb⟩
  have HB9 : Hid (Below w.heap.size w w9) := HB8.out.trans (hb.mono HB8.out.size)
  have z9 : w8.heap.size ≤ w9.heap.size := hb.size
  have S1_9 : Hid (OwnB w9 w.heap.size (Value.slice a1 n d1) (xs)) := S1_8.out.later hb
  have S2_9 : Hid (OwnS w9 w1.heap.size (Value.slice a2 m d2) (ys)) := S2_8.out.later hb
  have Z_9 : Hid (OwnS w9 w2.heap.size (Value.slice a3 p d3) (zs)) := Z_8.out.later hb
  have X1_9 : Hid (OwnB w9 w3.heap.size (Value.slice a4 n d4) (xs)) := X1_8.out.later hb
  have X2_9 : Hid (OwnS w9 w4.heap.size (Value.slice a5 m d5) (ys)) := X2_8.out.later hb
  have G_9 : Hid (OwnS w9 w5.heap.size (Value.slice a6 p d6) (zs)) := G_8.out.later hb
  have Y1_9 : Hid (OwnB w9 w7.heap.size (Value.slice a8 n d8) (xs)) := Y1_8.out.later hb
  clear hb S1_8 S2_8 Z_8 X1_8 X2_8 G_8 Y1_8
  go_wp2_with fail
  refine (toStringS_c bo m d ys _ HX2.out hm (HR2.out.later HB9.out)).mono ?_
  rintro e w10 ⟨a10, d10, rfl, ho, hb⟩
  have HB10 : Hid (Below w.heap.size w w10) := HB9.out.trans (hb.mono HB9.out.size)
  have z10 : w9.heap.size ≤ w10.heap.size := hb.size
  have S1_10 : Hid (OwnB w10 w.heap.size (Value.slice a1 n d1) (xs)) := S1_9.out.later hb
  have S2_10 : Hid (OwnS w10 w1.heap.size (Value.slice a2 m d2) (ys)) := S2_9.out.later hb
  have Z_10 : Hid (OwnS w10 w2.heap.size (Value.slice a3 p d3) (zs)) := Z_9.out.later hb
  have X1_10 : Hid (OwnB w10 w3.heap.size (Value.slice a4 n d4) (xs)) := X1_9.out.later hb
  have X2_10 : Hid (OwnS w10 w4.heap.size (Value.slice a5 m d5) (ys)) := X2_9.out.later hb
  have G_10 : Hid (OwnS w10 w5.heap.size (Value.slice a6 p d6) (zs)) := G_9.out.later hb
  have Y1_10 : Hid (OwnB w10 w7.heap.size (Value.slice a8 n d8) (xs)) := Y1_9.out.later hb
  have Y2_10 : Hid (OwnS w10 w9.heap.size (Value.slice a10 m d10) (ys)) := ho
  have I_Y2 : Hid (∀ k, (Value.slice a10 m d10).ownBlock = some k → w9.heap.size ≤ k ∧ k < w10.heap.size) := World.ownsRow.lt Y2_10.out
  clear ho
  clear hb S1_9 S2_9 Z_9 X1_9 X2_9 G_9 Y1_9
  go_wp2_with fail
  refine (eqStringS_c a5 a10 m m d5 d10 ys ys _ HX2.out HX2.out hm hm X2_10.out.rd'.2 Y2_10.out.rd'.2).mono ?_
  rw [decide_eq_true rfl]
  rintro e w11 ⟨rfl, hb⟩
  have HB11 : Hid (Below w.heap.size w w11) := HB10.out.trans (hb.mono HB10.out.size)
  have z11 : w10.heap.size ≤ w11.heap.size := hb.size
  have S1_11 : Hid (OwnB w11 w.heap.size (Value.slice a1 n d1) (xs)) := S1_10.out.later hb
  have S2_11 : Hid (OwnS w11 w1.heap.size (Value.slice a2 m d2) (ys)) := S2_10.out.later hb
  have Z_11 : Hid (OwnS w11 w2.heap.size (Value.slice a3 p d3) (zs)) := Z_10.out.later hb
  have X1_11 : Hid (OwnB w11 w3.heap.size (Value.slice a4 n d4) (xs)) := X1_10.out.later hb
  have X2_11 : Hid (OwnS w11 w4.heap.size (Value.slice a5 m d5) (ys)) := X2_10.out.later hb
  have G_11 : Hid (OwnS w11 w5.heap.size (Value.slice a6 p d6) (zs)) := G_10.out.later hb
  have Y1_11 : Hid (OwnB w11 w7.heap.size (Value.slice a8 n d8) (xs)) := Y1_10.out.later hb
  have Y2_11 : Hid (OwnS w11 w9.heap.size (Value.slice a10 m d10) (ys)) := Y2_10.out.later hb
  clear hb S1_10 S2_10 Z_10 X1_10 X2_10 G_10 Y1_10 Y2_10
  go_wp2_with fail
  refine (markBoolS_c a4 n d4 (1) w3.heap.size xs _ hn (by omega) (by omega) X1_11.out).mono ?_
  rintro e w12 ⟨rfl, ho, hg⟩
  have HB12 : Hid (Below w.heap.size w w12) := HB11.out.grown hg HB11.out.size (fun k e => by have := I_X1.out k e; omega)
  have z12 : w11.heap.size ≤ w12.heap.size := hg.size
  have S1_12 : Hid (OwnB w12 w.heap.size (Value.slice a1 n d1) (xs)) := S1_11.out.kept hg (own_sep I_S1.out I_X1.out (by omega))
  have S2_12 : Hid (OwnS w12 w1.heap.size (Value.slice a2 m d2) (ys)) := S2_11.out.kept hg (own_sep I_S2.out I_X1.out (by omega))
  have Z_12 : Hid (OwnS w12 w2.heap.size (Value.slice a3 p d3) (zs)) := Z_11.out.kept hg (own_sep I_Z.out I_X1.out (by omega))
  have X2_12 : Hid (OwnS w12 w4.heap.size (Value.slice a5 m d5) (ys)) := X2_11.out.kept hg (own_sep I_X2.out I_X1.out (by omega))
  have G_12 : Hid (OwnS w12 w5.heap.size (Value.slice a6 p d6) (zs)) := G_11.out.kept hg (own_sep I_G.out I_X1.out (by omega))
  have Y1_12 : Hid (OwnB w12 w7.heap.size (Value.slice a8 n d8) (xs)) := Y1_11.out.kept hg (own_sep I_Y1.out I_X1.out (by omega))
  have Y2_12 : Hid (OwnS w12 w9.heap.size (Value.slice a10 m d10) (ys)) := Y2_11.out.kept hg (own_sep I_Y2.out I_X1.out (by omega))
  have X1_12 : Hid (OwnB w12 w3.heap.size (Value.slice a4 n d4) (marksB (1) n)) := ho
  clear ho hg S1_11 S2_11 Z_11 X1_11 X2_11 G_11 Y1_11 Y2_11
  go_wp2_with fail
  refine (markStringS_c a5 m d5 (1 + n) w4.heap.size ys _ hm (by omega) (by omega) X2_12.out).mono ?_
  rintro e w13 ⟨rfl, ho, hg⟩
  have HB13 : Hid (Below w.heap.size w w13) := HB12.out.grown hg HB12.out.size (fun k e => by have := I_X2.out k e; omega)
  have z13 : w12.heap.size ≤ w13.heap.size := hg.size
  have S1_13 : Hid (OwnB w13 w.heap.size (Value.slice a1 n d1) (xs)) := S1_12.out.kept hg (own_sep I_S1.out I_X2.out (by omega))
  have S2_13 : Hid (OwnS w13 w1.heap.size (Value.slice a2 m d2) (ys)) := S2_12.out.kept hg (own_sep I_S2.out I_X2.out (by omega))
  have Z_13 : Hid (OwnS w13 w2.heap.size (Value.slice a3 p d3) (zs)) := Z_12.out.kept hg (own_sep I_Z.out I_X2.out (by omega))
  have X1_13 : Hid (OwnB w13 w3.heap.size (Value.slice a4 n d4) (marksB (1) n)) := X1_12.out.kept hg (own_sep I_X1.out I_X2.out (by omega))
  have G_13 : Hid (OwnS w13 w5.heap.size (Value.slice a6 p d6) (zs)) := G_12.out.kept hg (own_sep I_G.out I_X2.out (by omega))
  have Y1_13 : Hid (OwnB w13 w7.heap.size (Value.slice a8 n d8) (xs)) := Y1_12.out.kept hg (own_sep I_Y1.out I_X2.out (by omega))
  have Y2_13 : Hid (OwnS w13 w9.heap.size (Value.slice a10 m d10) (ys)) := Y2_12.out.kept hg (own_sep I_Y2.out I_X2.out (by omega))
  have X2_13 : Hid (OwnS w13 w4.heap.size (Value.slice a5 m d5) (marksS (1 + n) m)) := ho
  clear ho hg S1_12 S2_12 Z_12 X1_12 X2_12 G_12 Y1_12 Y2_12
  go_wp2_with fail
  refine (eqStringS_c a6 a3 p p d6 d3 zs zs _ HP.out HP.out hp hp G_13.out.rd'.2 Z_13.out.rd'.2).mono ?_
  rw [decide_eq_true rfl]
  rintro e w14 ⟨rfl, hb⟩
  have HB14 : Hid (Below w.heap.size w w14) := HB13.out.trans (hb.mono HB13.out.size)
  have z14 : w13.heap.size ≤ w14.heap.size := hb.size
  have S1_14 : Hid (OwnB w14 w.heap.size (Value.slice a1 n d1) (xs)) := S1_13.out.later hb
  have S2_14 : Hid (OwnS w14 w1.heap.size (Value.slice a2 m d2) (ys)) := S2_13.out.later hb
  have Z_14 : Hid (OwnS w14 w2.heap.size (Value.slice a3 p d3) (zs)) := Z_13.out.later hb
  have X1_14 : Hid (OwnB w14 w3.heap.size (Value.slice a4 n d4) (marksB (1) n)) := X1_13.out.later hb
  have X2_14 : Hid (OwnS w14 w4.heap.size (Value.slice a5 m d5) (marksS (1 + n) m)) := X2_13.out.later hb
  have G_14 : Hid (OwnS w14 w5.heap.size (Value.slice a6 p d6) (zs)) := G_13.out.later hb
  have Y1_14 : Hid (OwnB w14 w7.heap.size (Value.slice a8 n d8) (xs)) := Y1_13.out.later hb
  have Y2_14 : Hid (OwnS w14 w9.heap.size (Value.slice a10 m d10) (ys)) := Y2_13.out.later hb
  clear hb S1_13 S2_13 Z_13 X1_13 X2_13 G_13 Y1_13 Y2_13
  go_wp2_with fail
  refine (markStringS_c a6 p d6 1 w5.heap.size zs _ (by omega) (by omega) (by omega) G_14.out).mono ?_
  rintro e w15 ⟨rfl, ho, hg⟩
  have HB15 : Hid (Below w.heap.size w w15) := HB14.out.grown hg HB14.out.size (fun k e => by have := I_G.out k e; omega)
  have z15 : w14.heap.size ≤ w15.heap.size := hg.size
  have S1_15 : Hid (OwnB w15 w.heap.size (Value.slice a1 n d1) (xs)) := S1_14.out.kept hg (own_sep I_S1.out I_G.out (by omega))
  have S2_15 : Hid (OwnS w15 w1.heap.size (Value.slice a2 m d2) (ys)) := S2_14.out.kept hg (own_sep I_S2.out I_G.out (by omega))
  have Z_15 : Hid (OwnS w15 w2.heap.size (Value.slice a3 p d3) (zs)) := Z_14.out.kept hg (own_sep I_Z.out I_G.out (by omega))
  have X1_15 : Hid (OwnB w15 w3.heap.size (Value.slice a4 n d4) (marksB (1) n)) := X1_14.out.kept hg (own_sep I_X1.out I_G.out (by omega))
  have X2_15 : Hid (OwnS w15 w4.heap.size (Value.slice a5 m d5) (marksS (1 + n) m)) := X2_14.out.kept hg (own_sep I_X2.out I_G.out (by omega))
  have Y1_15 : Hid (OwnB w15 w7.heap.size (Value.slice a8 n d8) (xs)) := Y1_14.out.kept hg (own_sep I_Y1.out I_G.out (by omega))
  have Y2_15 : Hid (OwnS w15 w9.heap.size (Value.slice a10 m d10) (ys)) := Y2_14.out.kept hg (own_sep I_Y2.out I_G.out (by omega))
  have G_15 : Hid (OwnS w15 w5.heap.size (Value.slice a6 p d6) (marksS 1 p)) := ho
  clear ho hg S1_14 S2_14 Z_14 X1_14 X2_14 G_14 Y1_14 Y2_14
  go_wp2_with fail
  refine (heldStringS_c a6 p d6 1 w5.heap.size _ (by omega) (by omega) (by omega) G_15.out).mono ?_
  rintro e w16 ⟨rfl, hb⟩
  have HB16 : Hid (Below w.heap.size w w16) := HB15.out.trans (hb.mono HB15.out.size)
  have z16 : w15.heap.size ≤ w16.heap.size := hb.size
  have S1_16 : Hid (OwnB w16 w.heap.size (Value.slice a1 n d1) (xs)) := S1_15.out.later hb
  have S2_16 : Hid (OwnS w16 w1.heap.size (Value.slice a2 m d2) (ys)) := S2_15.out.later hb
  have Z_16 : Hid (OwnS w16 w2.heap.size (Value.slice a3 p d3) (zs)) := Z_15.out.later hb
  have X1_16 : Hid (OwnB w16 w3.heap.size (Value.slice a4 n d4) (marksB (1) n)) := X1_15.out.later hb
  have X2_16 : Hid (OwnS w16 w4.heap.size (Value.slice a5 m d5) (marksS (1 + n) m)) := X2_15.out.later hb
  have G_16 : Hid (OwnS w16 w5.heap.size (Value.slice a6 p d6) (marksS 1 p)) := G_15.out.later hb
  have Y1_16 : Hid (OwnB w16 w7.heap.size (Value.slice a8 n d8) (xs)) := Y1_15.out.later hb
  have Y2_16 : Hid (OwnS w16 w9.heap.size (Value.slice a10 m d10) (ys)) := Y2_15.out.later hb
  clear hb S1_15 S2_15 Z_15 X1_15 X2_15 G_15 Y1_15 Y2_15
  go_wp2_with fail
  refine (toBoolS_c ao n c xs _ HX1.out hn (HR1.out.later HB16.out)).mono ?_
  rintro e w17 ⟨a17, d17, rfl, ho, hb⟩
  have HB17 : Hid (Below w.heap.size w w17) := HB16.out.trans (hb.mono HB16.out.size)
  have z17 : w16.heap.size ≤ w17.heap.size := hb.size
  have S1_17 : Hid (OwnB w17 w.heap.size (Value.slice a1 n d1) (xs)) := S1_16.out.later hb
  have S2_17 : Hid (OwnS w17 w1.heap.size (Value.slice a2 m d2) (ys)) := S2_16.out.later hb
  have Z_17 : Hid (OwnS w17 w2.heap.size (Value.slice a3 p d3) (zs)) := Z_16.out.later hb
  have X1_17 : Hid (OwnB w17 w3.heap.size (Value.slice a4 n d4) (marksB (1) n)) := X1_16.out.later hb
  have X2_17 : Hid (OwnS w17 w4.heap.size (Value.slice a5 m d5) (marksS (1 + n) m)) := X2_16.out.later hb
  have G_17 : Hid (OwnS w17 w5.heap.size (Value.slice a6 p d6) (marksS 1 p)) := G_16.out.later hb
  have Y1_17 : Hid (OwnB w17 w7.heap.size (Value.slice a8 n d8) (xs)) := Y1_16.out.later hb
  have Y2_17 : Hid (OwnS w17 w9.heap.size (Value.slice a10 m d10) (ys)) := Y2_16.out.later hb
  have T1_17 : Hid (OwnB w17 w16.heap.size (Value.slice a17 n d17) (xs)) := ho
  have I_T1 : Hid (∀ k, (Value.slice a17 n d17).ownBlock = some k → w16.heap.size ≤ k ∧ k < w17.heap.size) := World.ownsRow.lt T1_17.out
  clear ho
  clear hb S1_16 S2_16 Z_16 X1_16 X2_16 G_16 Y1_16 Y2_16
  go_wp2_with fail
  refine (toStringS_c bo m d ys _ HX2.out hm (HR2.out.later HB17.out)).mono ?_
  rintro e w18 ⟨a18, d18, rfl, ho, hb⟩
  have HB18 : Hid (Below w.heap.size w w18) := HB17.out.trans (hb.mono HB17.out.size)
  have z18 : w17.heap.size ≤ w18.heap.size := hb.size
  have S1_18 : Hid (OwnB w18 w.heap.size (Value.slice a1 n d1) (xs)) := S1_17.out.later hb
  have S2_18 : Hid (OwnS w18 w1.heap.size (Value.slice a2 m d2) (ys)) := S2_17.out.later hb
  have Z_18 : Hid (OwnS w18 w2.heap.size (Value.slice a3 p d3) (zs)) := Z_17.out.later hb
  have X1_18 : Hid (OwnB w18 w3.heap.size (Value.slice a4 n d4) (marksB (1) n)) := X1_17.out.later hb
  have X2_18 : Hid (OwnS w18 w4.heap.size (Value.slice a5 m d5) (marksS (1 + n) m)) := X2_17.out.later hb
  have G_18 : Hid (OwnS w18 w5.heap.size (Value.slice a6 p d6) (marksS 1 p)) := G_17.out.later hb
  have Y1_18 : Hid (OwnB w18 w7.heap.size (Value.slice a8 n d8) (xs)) := Y1_17.out.later hb
  have Y2_18 : Hid (OwnS w18 w9.heap.size (Value.slice a10 m d10) (ys)) := Y2_17.out.later hb
  have T1_18 : Hid (OwnB w18 w16.heap.size (Value.slice a17 n d17) (xs)) := T1_17.out.later hb
  have T2_18 : Hid (OwnS w18 w17.heap.size (Value.slice a18 m d18) (ys)) := ho
  have I_T2 : Hid (∀ k, (Value.slice a18 m d18).ownBlock = some k → w17.heap.size ≤ k ∧ k < w18.heap.size) := World.ownsRow.lt T2_18.out
  clear ho
  clear hb S1_17 S2_17 Z_17 X1_17 X2_17 G_17 Y1_17 Y2_17 T1_17
  go_wp2_with fail
  refine (implRunS_c i0 a17 n d17 a18 m d18 xs ys _ HX1.out HX2.out hn hm T1_18.out.cap9 T1_18.out.rd'.2 T2_18.out.rd'.2 HZ.out zs fb p HF.out HP.out).mono ?_
  rintro e w19 ⟨a19, d19, rfl, ho, hb⟩
  have HB19 : Hid (Below w.heap.size w w19) := HB18.out.trans (hb.mono HB18.out.size)
  have z19 : w18.heap.size ≤ w19.heap.size := hb.size
  have S1_19 : Hid (OwnB w19 w.heap.size (Value.slice a1 n d1) (xs)) := S1_18.out.later hb
  have S2_19 : Hid (OwnS w19 w1.heap.size (Value.slice a2 m d2) (ys)) := S2_18.out.later hb
  have Z_19 : Hid (OwnS w19 w2.heap.size (Value.slice a3 p d3) (zs)) := Z_18.out.later hb
  have X1_19 : Hid (OwnB w19 w3.heap.size (Value.slice a4 n d4) (marksB (1) n)) := X1_18.out.later hb
  have X2_19 : Hid (OwnS w19 w4.heap.size (Value.slice a5 m d5) (marksS (1 + n) m)) := X2_18.out.later hb
  have G_19 : Hid (OwnS w19 w5.heap.size (Value.slice a6 p d6) (marksS 1 p)) := G_18.out.later hb
  have Y1_19 : Hid (OwnB w19 w7.heap.size (Value.slice a8 n d8) (xs)) := Y1_18.out.later hb
  have Y2_19 : Hid (OwnS w19 w9.heap.size (Value.slice a10 m d10) (ys)) := Y2_18.out.later hb
  have T1_19 : Hid (OwnB w19 w16.heap.size (Value.slice a17 n d17) (xs)) := T1_18.out.later hb
  have T2_19 : Hid (OwnS w19 w17.heap.size (Value.slice a18 m d18) (ys)) := T2_18.out.later hb
  have H_19 : Hid (OwnS w19 w18.heap.size (Value.slice a19 p d19) (zs)) := ho
  have I_H : Hid (∀ k, (Value.slice a19 p d19).ownBlock = some k → w18.heap.size ≤ k ∧ k < w19.heap.size) := World.ownsRow.lt H_19.out
  clear ho
  clear hb S1_18 S2_18 Z_18 X1_18 X2_18 G_18 Y1_18 Y2_18 T1_18 T2_18
  go_wp2_with fail
  refine (eqStringS_c a19 a3 p p d19 d3 zs zs _ HP.out HP.out hp hp H_19.out.rd'.2 Z_19.out.rd'.2).mono ?_
  rw [decide_eq_true rfl]
  rintro e w20 ⟨rfl, hb⟩
  have HB20 : Hid (Below w.heap.size w w20) := HB19.out.trans (hb.mono HB19.out.size)
  have z20 : w19.heap.size ≤ w20.heap.size := hb.size
  have S1_20 : Hid (OwnB w20 w.heap.size (Value.slice a1 n d1) (xs)) := S1_19.out.later hb
  have S2_20 : Hid (OwnS w20 w1.heap.size (Value.slice a2 m d2) (ys)) := S2_19.out.later hb
  have Z_20 : Hid (OwnS w20 w2.heap.size (Value.slice a3 p d3) (zs)) := Z_19.out.later hb
  have X1_20 : Hid (OwnB w20 w3.heap.size (Value.slice a4 n d4) (marksB (1) n)) := X1_19.out.later hb
  have X2_20 : Hid (OwnS w20 w4.heap.size (Value.slice a5 m d5) (marksS (1 + n) m)) := X2_19.out.later hb
  have G_20 : Hid (OwnS w20 w5.heap.size (Value.slice a6 p d6) (marksS 1 p)) := G_19.out.later hb
  have Y1_20 : Hid (OwnB w20 w7.heap.size (Value.slice a8 n d8) (xs)) := Y1_19.out.later hb
  have Y2_20 : Hid (OwnS w20 w9.heap.size (Value.slice a10 m d10) (ys)) := Y2_19.out.later hb
  have T1_20 : Hid (OwnB w20 w16.heap.size (Value.slice a17 n d17) (xs)) := T1_19.out.later hb
  have T2_20 : Hid (OwnS w20 w17.heap.size (Value.slice a18 m d18) (ys)) := T2_19.out.later hb
  have H_20 : Hid (OwnS w20 w18.heap.size (Value.slice a19 p d19) (zs)) := H_19.out.later hb
  clear hb S1_19 S2_19 Z_19 X1_19 X2_19 G_19 Y1_19 Y2_19 T1_19 T2_19 H_19
  go_wp2_with fail
  refine (heldStringS_c a6 p d6 1 w5.heap.size _ (by omega) (by omega) (by omega) G_20.out).mono ?_
  rintro e w21 ⟨rfl, hb⟩
  have HB21 : Hid (Below w.heap.size w w21) := HB20.out.trans (hb.mono HB20.out.size)
  have z21 : w20.heap.size ≤ w21.heap.size := hb.size
  have S1_21 : Hid (OwnB w21 w.heap.size (Value.slice a1 n d1) (xs)) := S1_20.out.later hb
  have S2_21 : Hid (OwnS w21 w1.heap.size (Value.slice a2 m d2) (ys)) := S2_20.out.later hb
  have Z_21 : Hid (OwnS w21 w2.heap.size (Value.slice a3 p d3) (zs)) := Z_20.out.later hb
  have X1_21 : Hid (OwnB w21 w3.heap.size (Value.slice a4 n d4) (marksB (1) n)) := X1_20.out.later hb
  have X2_21 : Hid (OwnS w21 w4.heap.size (Value.slice a5 m d5) (marksS (1 + n) m)) := X2_20.out.later hb
  have G_21 : Hid (OwnS w21 w5.heap.size (Value.slice a6 p d6) (marksS 1 p)) := G_20.out.later hb
  have Y1_21 : Hid (OwnB w21 w7.heap.size (Value.slice a8 n d8) (xs)) := Y1_20.out.later hb
  have Y2_21 : Hid (OwnS w21 w9.heap.size (Value.slice a10 m d10) (ys)) := Y2_20.out.later hb
  have T1_21 : Hid (OwnB w21 w16.heap.size (Value.slice a17 n d17) (xs)) := T1_20.out.later hb
  have T2_21 : Hid (OwnS w21 w17.heap.size (Value.slice a18 m d18) (ys)) := T2_20.out.later hb
  have H_21 : Hid (OwnS w21 w18.heap.size (Value.slice a19 p d19) (zs)) := H_20.out.later hb
  clear hb S1_20 S2_20 Z_20 X1_20 X2_20 G_20 Y1_20 Y2_20 T1_20 T2_20 H_20
  go_wp2
  go_ret
  exact ⟨rfl, HB21.out⟩

end Go.Proofs.Ytlepejafednlfaa
