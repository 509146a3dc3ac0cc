/- The law on FnExactBuildOnion, walked: it answers true at every argument and turns nothing that was there. -/
import Derived.Test.YtnfoflijapbkdaaBD7
import Derived.Test.YtnfoflijapbkdaaBI7
namespace Go.Proofs.Ytnfoflijapbkdaa
set_option linter.unusedVariables false
set_option maxRecDepth 1000000
set_option linter.unusedSimpArgs false
open Go.RowKit

set_option maxHeartbeats 8000000 in
set_option maxRecDepth 1000000 in
theorem lawBuild_c (ao : Option Addr) (n c : Nat) (xs : List Int) (bo : Option Addr) (m d : Nat) (ys : List Int) (s2 : ByteArray) (w : World) (hx0 : xs.length = n) (hm0 : n ≤ 9223372036854775807) (hr0 : Rd w ao xs) (hx1 : ys.length = m) (hm1 : m ≤ 9223372036854775807) (hr1 : Rd w bo ys) (hm2 : s2.size ≤ 9223372036854775807) :
    Calls Try.prog 7 #[.slice ao n c, .slice bo m d, .string s2] w fun e w' => e = .returned (.bool true) ∧ Below w.heap.size w w' := by
  by_cases hl0 : 1048576 < n
  · have hi0 : (1048576 : Int) < (n : Int) := by omega
    go_enter Try.func7, Try.ntmps7
    go_wp2
    go_ret
    exact ⟨rfl, Below.refl _ _⟩
  have hn : n ≤ 17592186044416 := by omega
  by_cases hl1 : 1048576 < m
  · have hi1 : (1048576 : Int) < (m : Int) := by omega
    go_enter Try.func7, Try.ntmps7
    go_wp2
    go_ret
    exact ⟨rfl, Below.refl _ _⟩
  have hm : m ≤ 17592186044416 := by omega
  by_cases hl2 : 1048576 < s2.size
  · have hi2 : (1048576 : Int) < ((s2.size : Nat) : Int) := by omega
    go_enter Try.func7, Try.ntmps7
    go_wp2
    go_ret
    exact ⟨rfl, Below.refl _ _⟩
  have hsz2 : s2.size ≤ 17592186044416 := by omega
  have HX0 : Hid (xs.length = n) := hx0
  have HR0 : Hid (Rd w ao xs) := hr0
  have HX1 : Hid (ys.length = m) := hx1
  have HR1 : Hid (Rd w bo ys) := hr1
  obtain ⟨st, fb, hF⟩ : ∃ st fb, buildF xs ys s2 = (st, fb) := ⟨_, _, rfl⟩
  have HF : Hid (buildF xs ys s2 = (st, fb)) := hF
  have hfb : (fb != fb) = false := by simp
  have hst : (st.toList == st.toList) = true := by simp
  clear hF
  clear hx0 hr0 hx1 hr1
  go_enter Try.func7, Try.ntmps7
  have HB0 : Hid (Below w.heap.size w w) := Below.refl _ _
  go_wp2_with fail
  refine (toIntS_c ao n c xs _ HX0.out hn (HR0.out.later HB0.out)).mono ?_
  rintro e w1 ⟨a1, d1, rfl, ho, hb⟩
  have HB1 : Hid (Below w.heap.size w w1) := HB0.out.trans (hb.mono HB0.out.size)
  have z1 : w.heap.size ≤ w1.heap.size := hb.size
  have S0_1 : Hid (Own w1 w.heap.size (Value.slice a1 n d1) (xs)) := ho
  have I_S0 : Hid (∀ k, (Value.slice a1 n d1).ownBlock = some k → w.heap.size ≤ k ∧ k < w1.heap.size) := World.ownsRow.lt S0_1.out
  clear ho
  clear hb
  go_wp2_with fail
  refine (toIntS_c bo m d ys _ HX1.out hm (HR1.out.later HB1.out)).mono ?_
  rintro e w2 ⟨a2, d2, rfl, ho, hb⟩
  have HB2 : Hid (Below w.heap.size w w2) := HB1.out.trans (hb.mono HB1.out.size)
  have z2 : w1.heap.size ≤ w2.heap.size := hb.size
  have S0_2 : Hid (Own w2 w.heap.size (Value.slice a1 n d1) (xs)) := S0_1.out.later hb
  have S1_2 : Hid (Own w2 w1.heap.size (Value.slice a2 m d2) (ys)) := ho
  have I_S1 : Hid (∀ k, (Value.slice a2 m d2).ownBlock = some k → w1.heap.size ≤ k ∧ k < w2.heap.size) := World.ownsRow.lt S1_2.out
  clear ho
  clear hb S0_1
  go_wp2_with fail
  refine (specBuild_c a1 n d1 a2 m d2 s2 xs ys _ HX0.out HX1.out hn hm hsz2 S0_2.out.rd'.2 S1_2.out.rd'.2 st fb HF.out).mono ?_
  rintro e w3 ⟨rfl, hb⟩
  have HB3 : Hid (Below w.heap.size w w3) := HB2.out.trans (hb.mono HB2.out.size)
  have z3 : w2.heap.size ≤ w3.heap.size := hb.size
  have S0_3 : Hid (Own w3 w.heap.size (Value.slice a1 n d1) (xs)) := S0_2.out.later hb
  have S1_3 : Hid (Own w3 w1.heap.size (Value.slice a2 m d2) (ys)) := S1_2.out.later hb
  clear hb S0_2 S1_2
  go_wp2_with fail
  refine (toIntS_c ao n c xs _ HX0.out hn (HR0.out.later HB3.out)).mono ?_
  rintro e w4 ⟨a4, d4, rfl, ho, hb⟩
  have HB4 : Hid (Below w.heap.size w w4) := HB3.out.trans (hb.mono HB3.out.size)
  have z4 : w3.heap.size ≤ w4.heap.size := hb.size
  have S0_4 : Hid (Own w4 w.heap.size (Value.slice a1 n d1) (xs)) := S0_3.out.later hb
  have S1_4 : Hid (Own w4 w1.heap.size (Value.slice a2 m d2) (ys)) := S1_3.out.later hb
  have X0_4 : Hid (Own w4 w3.heap.size (Value.slice a4 n d4) (xs)) := ho
  have I_X0 : Hid (∀ k, (Value.slice a4 n d4).ownBlock = some k → w3.heap.size ≤ k ∧ k < w4.heap.size) := World.ownsRow.lt X0_4.out
  clear ho
  clear hb S0_3 S1_3
  go_wp2_with fail
  refine (toIntS_c bo m d ys _ HX1.out hm (HR1.out.later HB4.out)).mono ?_
  rintro e w5 ⟨a5, d5, rfl, ho, hb⟩
  have HB5 : Hid (Below w.heap.size w w5) := HB4.out.trans (hb.mono HB4.out.size)
  have z5 : w4.heap.size ≤ w5.heap.size := hb.size
  have S0_5 : Hid (Own w5 w.heap.size (Value.slice a1 n d1) (xs)) := S0_4.out.later hb
  have S1_5 : Hid (Own w5 w1.heap.size (Value.slice a2 m d2) (ys)) := S1_4.out.later hb
  have X0_5 : Hid (Own w5 w3.heap.size (Value.slice a4 n d4) (xs)) := X0_4.out.later hb
  have X1_5 : Hid (Own w5 w4.heap.size (Value.slice a5 m d5) (ys)) := ho
  have I_X1 : Hid (∀ k, (Value.slice a5 m d5).ownBlock = some k → w4.heap.size ≤ k ∧ k < w5.heap.size) := World.ownsRow.lt X1_5.out
  clear ho
  clear hb S0_4 S1_4 X0_4
  go_wp2_with fail
  refine (implBuild_c a4 n d4 a5 m d5 s2 xs ys _ HX0.out HX1.out hn hm hsz2 X0_5.out.rd'.2 X1_5.out.rd'.2 st fb HF.out).mono ?_
  rintro e w6 ⟨rfl, hb⟩
  have HB6 : Hid (Below w.heap.size w w6) := HB5.out.trans (hb.mono HB5.out.size)
  have z6 : w5.heap.size ≤ w6.heap.size := hb.size
  have S0_6 : Hid (Own w6 w.heap.size (Value.slice a1 n d1) (xs)) := S0_5.out.later hb
  have S1_6 : Hid (Own w6 w1.heap.size (Value.slice a2 m d2) (ys)) := S1_5.out.later hb
  have X0_6 : Hid (Own w6 w3.heap.size (Value.slice a4 n d4) (xs)) := X0_5.out.later hb
  have X1_6 : Hid (Own w6 w4.heap.size (Value.slice a5 m d5) (ys)) := X1_5.out.later hb
  clear hb S0_5 S1_5 X0_5 X1_5
  go_wp2_with fail
  refine (toIntS_c ao n c xs _ HX0.out hn (HR0.out.later HB6.out)).mono ?_
  rintro e w7 ⟨a7, d7, rfl, ho, hb⟩
  have HB7 : Hid (Below w.heap.size w w7) := HB6.out.trans (hb.mono HB6.out.size)
  have z7 : w6.heap.size ≤ w7.heap.size := hb.size
  have S0_7 : Hid (Own w7 w.heap.size (Value.slice a1 n d1) (xs)) := S0_6.out.later hb
  have S1_7 : Hid (Own w7 w1.heap.size (Value.slice a2 m d2) (ys)) := S1_6.out.later hb
  have X0_7 : Hid (Own w7 w3.heap.size (Value.slice a4 n d4) (xs)) := X0_6.out.later hb
  have X1_7 : Hid (Own w7 w4.heap.size (Value.slice a5 m d5) (ys)) := X1_6.out.later hb
  have Y0_7 : Hid (Own w7 w6.heap.size (Value.slice a7 n d7) (xs)) := ho
  have I_Y0 : Hid (∀ k, (Value.slice a7 n d7).ownBlock = some k → w6.heap.size ≤ k ∧ k < w7.heap.size) := World.ownsRow.lt Y0_7.out
  clear ho
  clear hb S0_6 S1_6 X0_6 X1_6
  go_wp2_with fail
  refine (eqIntS_c a4 a7 n n d4 d7 xs xs _ HX0.out HX0.out hn hn X0_7.out.rd'.2 Y0_7.out.rd'.2).mono ?_
  rw [decide_eq_true rfl]
  rintro e w8 ⟨rfl, hb⟩
  have HB8 : Hid (Below w.heap.size w w8) := HB7.out.trans (hb.mono HB7.out.size)
  have z8 : w7.heap.size ≤ w8.heap.size := hb.size
  have S0_8 : Hid (Own w8 w.heap.size (Value.slice a1 n d1) (xs)) := S0_7.out.later hb
  have S1_8 : Hid (Own w8 w1.heap.size (Value.slice a2 m d2) (ys)) := S1_7.out.later hb
  have X0_8 : Hid (Own w8 w3.heap.size (Value.slice a4 n d4) (xs)) := X0_7.out.later hb
  have X1_8 : Hid (Own w8 w4.heap.size (Value.slice a5 m d5) (ys)) := X1_7.out.later hb
  have Y0_8 : Hid (Own w8 w6.heap.size (Value.slice a7 n d7) (xs)) := Y0_7.out.later hb
  clear hb S0_7 S1_7 X0_7 X1_7 Y0_7
  go_wp2_with fail
  refine (toIntS_c bo m d ys _ HX1.out hm (HR1.out.later HB8.out)).mono ?_
  rintro e w9 ⟨a9, d9, rfl, ho, hb⟩
  have HB9 : Hid (Below w.heap.size w w9) := HB8.out.trans (hb.mono HB8.out.size)
  have z9 : w8.heap.size ≤ w9.heap.size := hb.size
  have S0_9 : Hid (Own w9 w.heap.size (Value.slice a1 n d1) (xs)) := S0_8.out.later hb
  have S1_9 : Hid (Own w9 w1.heap.size (Value.slice a2 m d2) (ys)) := S1_8.out.later hb
  have X0_9 : Hid (Own w9 w3.heap.size (Value.slice a4 n d4) (xs)) := X0_8.out.later hb
  have X1_9 : Hid (Own w9 w4.heap.size (Value.slice a5 m d5) (ys)) := X1_8.out.later hb
  have Y0_9 : Hid (Own w9 w6.heap.size (Value.slice a7 n d7) (xs)) := Y0_8.out.later hb
  have Y1_9 : Hid (Own w9 w8.heap.size (Value.slice a9 m d9) (ys)) := ho
  have I_Y1 : Hid (∀ k, (Value.slice a9 m d9).ownBlock = some k → w8.heap.size ≤ k ∧ k < w9.heap.size) := World.ownsRow.lt Y1_9.out
  clear ho
  clear hb S0_8 S1_8 X0_8 X1_8 Y0_8
  go_wp2_with fail
  refine (eqIntS_c a5 a9 m m d5 d9 ys ys _ HX1.out HX1.out hm hm X1_9.out.rd'.2 Y1_9.out.rd'.2).mono ?_
  rw [decide_eq_true rfl]
  rintro e w10 ⟨rfl, hb⟩
  have HB10 : Hid (Below w.heap.size w w10) := HB9.out.trans (hb.mono HB9.out.size)
  have z10 : w9.heap.size ≤ w10.heap.size := hb.size
  have S0_10 : Hid (Own w10 w.heap.size (Value.slice a1 n d1) (xs)) := S0_9.out.later hb
  have S1_10 : Hid (Own w10 w1.heap.size (Value.slice a2 m d2) (ys)) := S1_9.out.later hb
  have X0_10 : Hid (Own w10 w3.heap.size (Value.slice a4 n d4) (xs)) := X0_9.out.later hb
  have X1_10 : Hid (Own w10 w4.heap.size (Value.slice a5 m d5) (ys)) := X1_9.out.later hb
  have Y0_10 : Hid (Own w10 w6.heap.size (Value.slice a7 n d7) (xs)) := Y0_9.out.later hb
  have Y1_10 : Hid (Own w10 w8.heap.size (Value.slice a9 m d9) (ys)) := Y1_9.out.later hb
  clear hb S0_9 S1_9 X0_9 X1_9 Y0_9 Y1_9
  go_wp2
  go_ret
  exact ⟨rfl, HB10.out⟩

end Go.Proofs.Ytnfoflijapbkdaa
