/- The law on GoodTallies, walked: it answers true at every argument and turns nothing that was there. -/
import Derived.Test.YtleddlfojogdiaaE14
namespace Go.Proofs.Ytleddlfojogdiaa
set_option linter.unusedVariables false
set_option maxRecDepth 1000000
set_option linter.unusedSimpArgs false
open Go.RowKit

set_option maxHeartbeats 16000000 in
theorem lawGoodT_c (ao : Option Addr) (n c : Nat) (xs : List Ta) (w : World) (hx : xs.length = n) (hn0 : n ≤ 9223372036854775807) (hr : RdU w ao xs) :
    Calls Try.prog 7 #[.slice ao n c] w fun e w' => e = .returned (.bool true) ∧ Below w.heap.size w w' := by
  have qs := fun p k wx h1 h2 h3 => specGoodT_c p n k xs wx h1 h2 h3
  have qi := fun p k wx h1 h2 h3 => implGoodT_c p n k xs wx h1 h2 h3
  have HX : Hid (xs.length = n) := hx
  clear hx
  generalize tasB xs = fb at qs qi
  have hfb : (fb != fb) = false := by simp
  have HB_0 : Hid (Below w.heap.size w w) := Below.refl _ _
  have RP_0 : Hid (RdU w ao xs) := hr
  clear hr
  go_enter Try.func7, Try.ntmps7
  go_wp2_with fail
  refine (szTallyS_c ao n c 1048576 _ hn0 (by omega)).mono ?_
  rintro e w' ⟨r, rfl, hw, hr1, hr2⟩
  subst w'
  by_cases hr0 : r < 0
  · go_wp2
    go_ret
    exact ⟨rfl, HB_0.out⟩
  have hn : n ≤ 1048576 := (hr2 (by omega)).1
  have hrn : ¬ r < 0 := hr0
  clear hr1 hr2 hr0
  go_wp2_with fail
  refine (toTallyS_c ao n c xs _ HX.out hn RP_0.out).mono ?_
  rintro e w1 ⟨p1, k1, rfl, ho, hb⟩
  have hB : Below w.heap.size w w1 := hb
  have HB_1 : Hid (Below w.heap.size w w1) := HB_0.out.trans (hB.mono HB_0.out.size)
  have RP_1 : Hid (RdU w1 ao xs) := RP_0.out.later hB
  have z1 : w.heap.size ≤ w1.heap.size := hB.size
  have P1_1 : Hid (OwnU w1 w.heap.size (Value.slice p1 n k1) (xs)) := ho
  have I_P1 : Hid (∀ k, (Value.slice p1 n k1).ownBlock = some k → w.heap.size ≤ k ∧ k < w1.heap.size) := World.ownsRow.lt P1_1.out
  clear hb hB HB_0 RP_0 ho
  go_wp2_with fail
  refine (qs p1 k1 _ HX.out (by omega) P1_1.out.rd'.2).mono ?_
  rintro e w2 ⟨rfl, hb⟩
  have hB : Below w1.heap.size w1 w2 := hb
  have HB_2 : Hid (Below w.heap.size w w2) := HB_1.out.trans (hB.mono HB_1.out.size)
  have RP_2 : Hid (RdU w2 ao xs) := RP_1.out.later hB
  have z2 : w1.heap.size ≤ w2.heap.size := hB.size
  clear hb hB HB_1 RP_1 P1_1 
  go_wp2_with fail
  refine (toTallyS_c ao n c xs _ HX.out hn RP_2.out).mono ?_
  rintro e w3 ⟨p2, k2, rfl, ho, hb⟩
  have hB : Below w2.heap.size w2 w3 := hb
  have HB_3 : Hid (Below w.heap.size w w3) := HB_2.out.trans (hB.mono HB_2.out.size)
  have RP_3 : Hid (RdU w3 ao xs) := RP_2.out.later hB
  have z3 : w2.heap.size ≤ w3.heap.size := hB.size
  have P2_3 : Hid (OwnU w3 w2.heap.size (Value.slice p2 n k2) (xs)) := ho
  have I_P2 : Hid (∀ k, (Value.slice p2 n k2).ownBlock = some k → w2.heap.size ≤ k ∧ k < w3.heap.size) := World.ownsRow.lt P2_3.out
  clear hb hB HB_2 RP_2 ho
  go_wp2_with fail
  refine (qi p2 k2 _ HX.out (by omega) P2_3.out.rd'.2).mono ?_
  rintro e w4 ⟨rfl, hb⟩
  have hB : Below w3.heap.size w3 w4 := hb
  have HB_4 : Hid (Below w.heap.size w w4) := HB_3.out.trans (hB.mono HB_3.out.size)
  have RP_4 : Hid (RdU w4 ao xs) := RP_3.out.later hB
  have P2_4 : Hid (OwnU w4 w2.heap.size (Value.slice p2 n k2) (xs)) := P2_3.out.later hB
  have z4 : w3.heap.size ≤ w4.heap.size := hB.size
  clear hb hB HB_3 RP_3 P2_3 
  go_wp2_with fail
  refine (toTallyS_c ao n c xs _ HX.out hn RP_4.out).mono ?_
  rintro e w5 ⟨p3, k3, rfl, ho, hb⟩
  have hB : Below w4.heap.size w4 w5 := hb
  have HB_5 : Hid (Below w.heap.size w w5) := HB_4.out.trans (hB.mono HB_4.out.size)
  have RP_5 : Hid (RdU w5 ao xs) := RP_4.out.later hB
  have P2_5 : Hid (OwnU w5 w2.heap.size (Value.slice p2 n k2) (xs)) := P2_4.out.later hB
  have z5 : w4.heap.size ≤ w5.heap.size := hB.size
  have P3_5 : Hid (OwnU w5 w4.heap.size (Value.slice p3 n k3) (xs)) := ho
  have I_P3 : Hid (∀ k, (Value.slice p3 n k3).ownBlock = some k → w4.heap.size ≤ k ∧ k < w5.heap.size) := World.ownsRow.lt P3_5.out
  clear hb hB HB_4 RP_4 P2_4 ho
  go_wp2_with fail
  refine (eqTallyS_c p2 p3 n n k2 k3 xs xs _ HX.out HX.out (by omega) (by omega) P2_5.out.rd'.2 P3_5.out.rd'.2).mono ?_
  rw [decide_eq_true rfl]
  rintro e w6 ⟨rfl, hb⟩
  have hB : Below w5.heap.size w5 w6 := hb
  have HB_6 : Hid (Below w.heap.size w w6) := HB_5.out.trans (hB.mono HB_5.out.size)
  have RP_6 : Hid (RdU w6 ao xs) := RP_5.out.later hB
  have P2_6 : Hid (OwnU w6 w2.heap.size (Value.slice p2 n k2) (xs)) := P2_5.out.later hB
  have P3_6 : Hid (OwnU w6 w4.heap.size (Value.slice p3 n k3) (xs)) := P3_5.out.later hB
  have z6 : w5.heap.size ≤ w6.heap.size := hB.size
  clear hb hB HB_5 RP_5 P2_5 P3_5 
  go_wp2
  go_ret
  exact ⟨rfl, HB_6.out⟩

end Go.Proofs.Ytleddlfojogdiaa
