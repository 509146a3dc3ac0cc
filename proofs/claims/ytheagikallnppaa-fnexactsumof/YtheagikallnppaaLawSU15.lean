/- The law on FnExactSumOf, walked: it answers true at every argument and turns nothing that was there. -/
import Derived.Test.YtheagikallnppaaS15B
namespace Go.Proofs.Ytheagikallnppaa
set_option linter.unusedVariables false
set_option maxRecDepth 1000000
set_option linter.unusedSimpArgs false
open Go.RowKit

set_option maxHeartbeats 8000000 in
set_option maxRecDepth 1000000 in
theorem lawSum_c (ao : Option Addr) (n c : Nat) (xs : List Int) (w : World) (hx0 : xs.length = n) (hm0 : n ≤ 9223372036854775807) (hr0 : Rd w ao xs) :
    Calls Try.prog 8 #[.slice ao n c] w fun e w' => e = .returned (.bool true) ∧ Below w.heap.size w w' := by
  by_cases hl0 : 1048576 < n
  · have hi0 : (1048576 : Int) < (n : Int) := by omega
    go_enter Try.func8, Try.ntmps8
    go_wp2
    go_ret
    exact ⟨rfl, Below.refl _ _⟩
  have hn : n ≤ 17592186044416 := by omega
  have HX0 : Hid (xs.length = n) := hx0
  have HR0 : Hid (Rd w ao xs) := hr0
  obtain ⟨r, fb, hF⟩ : ∃ r fb, sumF xs = (r, fb) := ⟨_, _, rfl⟩
  have HF : Hid (sumF xs = (r, fb)) := hF
  have hrr : (r != r) = false := by simp
  have hfb : (fb != fb) = false := by simp
  clear hF
  clear hx0 hr0
  go_enter Try.func8, Try.ntmps8
  have HB0 : Hid (Below w.heap.size w w) := Below.refl _ _
  go_wp2_with fail
  refine (toIntS_c ao n c xs _ HX0.out hn (HR0.out.later HB0.out)).mono ?_
  rintro e w1 ⟨a1, d1, rfl, ho, hb⟩
  have HB1 : Hid (Below w.heap.size w w1) := HB0.out.trans (hb.mono HB0.out.size)
  have z1 : w.heap.size ≤ w1.heap.size := hb.size
  have S0_1 : Hid (Own w1 w.heap.size (Value.slice a1 n d1) (xs)) := ho
  have I_S0 : Hid (∀ k, (Value.slice a1 n d1).ownBlock = some k → w.heap.size ≤ k ∧ k < w1.heap.size) := World.ownsRow.lt S0_1.out
  clear ho
  clear hb
  go_wp2_with fail
  refine (specSumF_c a1 n d1 xs _ HX0.out hn S0_1.out.rd'.2 r fb HF.out).mono ?_
  rintro e w2 ⟨rfl, hb⟩
  have HB2 : Hid (Below w.heap.size w w2) := HB1.out.trans (hb.mono HB1.out.size)
  have z2 : w1.heap.size ≤ w2.heap.size := hb.size
  have S0_2 : Hid (Own w2 w.heap.size (Value.slice a1 n d1) (xs)) := S0_1.out.later hb
  clear hb S0_1
  go_wp2_with fail
  refine (toIntS_c ao n c xs _ HX0.out hn (HR0.out.later HB2.out)).mono ?_
  rintro e w3 ⟨a3, d3, rfl, ho, hb⟩
  have HB3 : Hid (Below w.heap.size w w3) := HB2.out.trans (hb.mono HB2.out.size)
  have z3 : w2.heap.size ≤ w3.heap.size := hb.size
  have S0_3 : Hid (Own w3 w.heap.size (Value.slice a1 n d1) (xs)) := S0_2.out.later hb
  have X0_3 : Hid (Own w3 w2.heap.size (Value.slice a3 n d3) (xs)) := ho
  have I_X0 : Hid (∀ k, (Value.slice a3 n d3).ownBlock = some k → w2.heap.size ≤ k ∧ k < w3.heap.size) := World.ownsRow.lt X0_3.out
  clear ho
  clear hb S0_2
  go_wp2_with fail
  refine (implSumF_c a3 n d3 xs _ HX0.out hn X0_3.out.rd'.2 r fb HF.out).mono ?_
  rintro e w4 ⟨rfl, hb⟩
  have HB4 : Hid (Below w.heap.size w w4) := HB3.out.trans (hb.mono HB3.out.size)
  have z4 : w3.heap.size ≤ w4.heap.size := hb.size
  have S0_4 : Hid (Own w4 w.heap.size (Value.slice a1 n d1) (xs)) := S0_3.out.later hb
  have X0_4 : Hid (Own w4 w2.heap.size (Value.slice a3 n d3) (xs)) := X0_3.out.later hb
  clear hb S0_3 X0_3
  go_wp2_with fail
  refine (toIntS_c ao n c xs _ HX0.out hn (HR0.out.later HB4.out)).mono ?_
  rintro e w5 ⟨a5, d5, rfl, ho, hb⟩
  have HB5 : Hid (Below w.heap.size w w5) := HB4.out.trans (hb.mono HB4.out.size)
  have z5 : w4.heap.size ≤ w5.heap.size := hb.size
  have S0_5 : Hid (Own w5 w.heap.size (Value.slice a1 n d1) (xs)) := S0_4.out.later hb
  have X0_5 : Hid (Own w5 w2.heap.size (Value.slice a3 n d3) (xs)) := X0_4.out.later hb
  have Y0_5 : Hid (Own w5 w4.heap.size (Value.slice a5 n d5) (xs)) := ho
  have I_Y0 : Hid (∀ k, (Value.slice a5 n d5).ownBlock = some k → w4.heap.size ≤ k ∧ k < w5.heap.size) := World.ownsRow.lt Y0_5.out
  clear ho
  clear hb S0_4 X0_4
  go_wp2_with fail
  refine (eqIntS_c a3 a5 n n d3 d5 xs xs _ HX0.out HX0.out hn hn X0_5.out.rd'.2 Y0_5.out.rd'.2).mono ?_
  rw [decide_eq_true rfl]
  rintro e w6 ⟨rfl, hb⟩
  have HB6 : Hid (Below w.heap.size w w6) := HB5.out.trans (hb.mono HB5.out.size)
  have z6 : w5.heap.size ≤ w6.heap.size := hb.size
  have S0_6 : Hid (Own w6 w.heap.size (Value.slice a1 n d1) (xs)) := S0_5.out.later hb
  have X0_6 : Hid (Own w6 w2.heap.size (Value.slice a3 n d3) (xs)) := X0_5.out.later hb
  have Y0_6 : Hid (Own w6 w4.heap.size (Value.slice a5 n d5) (xs)) := Y0_5.out.later hb
  clear hb S0_5 X0_5 Y0_5
  go_wp2
  go_ret
  exact ⟨rfl, HB6.out⟩

end Go.Proofs.Ytheagikallnppaa
