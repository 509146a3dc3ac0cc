/- The law on FnExactGoodTaps, walked: it answers true at every argument and turns nothing that was there. -/
import Derived.Test.YtjdfpjeeipbghaaG3
namespace Go.Proofs.Ytjdfpjeeipbghaa
set_option linter.unusedVariables false
set_option linter.unusedSimpArgs false
open Go.RowKit

set_option maxHeartbeats 8000000 in
set_option maxRecDepth 1000000 in
theorem lawGoodT_c (ao : Option Addr) (n c : Nat) (xs : List Int) (w : World) (hx0 : xs.length = n) (hm0 : n ≤ 9223372036854775807) (hr0 : Rd w ao xs) :
    Calls Try.prog 5 #[.slice ao n c] w fun e w' => e = .returned (.bool true) ∧ Below w.heap.size w w' := by
  by_cases hl0 : 1048576 < n
  · have hi0 : (1048576 : Int) < (n : Int) := by omega
    go_enter Try.func5, Try.ntmps5
    go_wp2
    go_ret
    exact ⟨rfl, Below.refl _ _⟩
  have hn : n ≤ 17592186044416 := by omega
  have HX0 : Hid (xs.length = n) := hx0
  have HR0 : Hid (Rd w ao xs) := hr0
  have hs := fun wx a c h => specGoodT_c a n c xs wx hx0 hn h
  have hi := fun wx a c h => implGoodT_c a n c xs wx hx0 hn h
  generalize goodT 0 xs = G at hs hi
  have e2 : (G != G) = false := by simp
  have HS : Hid (_) := hs
  have HI : Hid (_) := hi
  clear hs hi
  clear hx0 hr0
  go_enter Try.func5, Try.ntmps5
  have HB0 : Hid (Below w.heap.size w w) := Below.refl _ _
  go_wp2_with fail
  refine (toIntS_c ao n c xs _ HX0.out hn (HR0.out.later HB0.out)).mono ?_
  rintro e w1 ⟨a1, d1, rfl, ho, hb⟩
  have HB1 : Hid (Below w.heap.size w w1) := HB0.out.trans (hb.mono HB0.out.size)
  have z1 : w.heap.size ≤ w1.heap.size := hb.size
  have S0_1 : Hid (Own w1 w.heap.size (Value.slice a1 n d1) (xs)) := ho
  have I_S0 : Hid (∀ k, (Value.slice a1 n d1).ownBlock = some k → w.heap.size ≤ k ∧ k < w1.heap.size) := World.ownsRow.lt S0_1.out
  clear ho
  clear hb
  go_wp2_with fail
  refine (HS.out _ _ _ S0_1.out.rd'.2).mono ?_
  rintro e w' ⟨rfl, hw⟩
  subst w'
  go_wp2_with fail
  refine (toIntS_c ao n c xs _ HX0.out hn (HR0.out.later HB1.out)).mono ?_
  rintro e w2 ⟨a2, d2, rfl, ho, hb⟩
  have HB2 : Hid (Below w.heap.size w w2) := HB1.out.trans (hb.mono HB1.out.size)
  have z2 : w1.heap.size ≤ w2.heap.size := hb.size
  have S0_2 : Hid (Own w2 w.heap.size (Value.slice a1 n d1) (xs)) := S0_1.out.later hb
  have X0_2 : Hid (Own w2 w1.heap.size (Value.slice a2 n d2) (xs)) := ho
  have I_X0 : Hid (∀ k, (Value.slice a2 n d2).ownBlock = some k → w1.heap.size ≤ k ∧ k < w2.heap.size) := World.ownsRow.lt X0_2.out
  clear ho
  clear hb S0_1
  go_wp2_with fail
  refine (HI.out _ _ _ X0_2.out.rd'.2).mono ?_
  rintro e w' ⟨rfl, hw⟩
  subst w'
  go_wp2_with fail
  refine (toIntS_c ao n c xs _ HX0.out hn (HR0.out.later HB2.out)).mono ?_
  rintro e w3 ⟨a3, d3, rfl, ho, hb⟩
  have HB3 : Hid (Below w.heap.size w w3) := HB2.out.trans (hb.mono HB2.out.size)
  have z3 : w2.heap.size ≤ w3.heap.size := hb.size
  have S0_3 : Hid (Own w3 w.heap.size (Value.slice a1 n d1) (xs)) := S0_2.out.later hb
  have X0_3 : Hid (Own w3 w1.heap.size (Value.slice a2 n d2) (xs)) := X0_2.out.later hb
  have Y0_3 : Hid (Own w3 w2.heap.size (Value.slice a3 n d3) (xs)) := ho
  have I_Y0 : Hid (∀ k, (Value.slice a3 n d3).ownBlock = some k → w2.heap.size ≤ k ∧ k < w3.heap.size) := World.ownsRow.lt Y0_3.out
  clear ho
  clear hb S0_2 X0_2
  go_wp2_with fail
  refine (eqIntS_c a2 a3 n n d2 d3 xs xs _ HX0.out HX0.out hn hn X0_3.out.rd'.2 Y0_3.out.rd'.2).mono ?_
  rw [decide_eq_true rfl]
  rintro e w4 ⟨rfl, hb⟩
  have HB4 : Hid (Below w.heap.size w w4) := HB3.out.trans (hb.mono HB3.out.size)
  have z4 : w3.heap.size ≤ w4.heap.size := hb.size
  have S0_4 : Hid (Own w4 w.heap.size (Value.slice a1 n d1) (xs)) := S0_3.out.later hb
  have X0_4 : Hid (Own w4 w1.heap.size (Value.slice a2 n d2) (xs)) := X0_3.out.later hb
  have Y0_4 : Hid (Own w4 w2.heap.size (Value.slice a3 n d3) (xs)) := Y0_3.out.later hb
  clear hb S0_3 X0_3 Y0_3
  go_wp2
  go_ret
  exact ⟨rfl, HB4.out⟩

end Go.Proofs.Ytjdfpjeeipbghaa
