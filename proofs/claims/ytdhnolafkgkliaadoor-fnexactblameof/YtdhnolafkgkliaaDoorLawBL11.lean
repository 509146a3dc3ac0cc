/- The law on BlameOf, walked: it answers true at every argument and turns nothing that was there. -/
import Derived.Test.YtdhnolafkgkliaaDoorL11
import Derived.Test.YtdhnolafkgkliaaDoorSZ11
namespace Go.Proofs.YtdhnolafkgkliaaDoor
set_option linter.unusedVariables false
set_option maxRecDepth 1000000
set_option linter.unusedSimpArgs false
open Go.RowKit

set_option maxHeartbeats 16000000 in
theorem lawBlameOf_c (ao : Option Addr) (n c : Nat) (xs : List Int) (zz : Int) (bo : Option Addr) (m d : Nat) (rs : List Rc) (w : World) (hx : xs.length = n) (hn0 : n ≤ 9223372036854775807) (hr : Rd w ao xs) (hy : rs.length = m) (hm0 : m ≤ 9223372036854775807) (hs : RdR w bo rs) (ht : Tab w) :
    Calls Tryd.prog 6 #[.slice ao n c, .int .i64 zz, .slice bo m d] w fun e w' => e = .returned (.bool true) ∧ Below w.heap.size w w' := by
  obtain ⟨v, hv⟩ : ∃ v, blameI xs zz rs = v := ⟨_, rfl⟩
  obtain ⟨fb, hF⟩ : ∃ fb, traceB xs zz rs = fb := ⟨_, rfl⟩
  have HQS : Hid (∀ p' k' t' u' wx, n ≤ 1048576 → m ≤ 1048576 → Rd wx p' xs → RdR wx t' rs → Calls Tryd.prog 21 #[.slice p' n k', .int .i64 zz, .slice t' m u'] wx fun e w' => e = .returned (.tuple #[.int .i64 v, .bool fb]) ∧ Below wx.heap.size wx w') := fun p' k' t' u' wx h1 h2 h3 h4 => by have := specBlameOf_c p' n k' xs zz t' m u' rs wx hx (by omega) (by omega) hy h3 h4; rw [hv, hF] at this; exact this
  have HQI : Hid (∀ p' k' t' u' wx, n ≤ 1048576 → m ≤ 1048576 → Rd wx p' xs → RdR wx t' rs → Tab wx → Calls Tryd.prog 16 #[.slice p' n k', .int .i64 zz, .slice t' m u'] wx fun e w' => e = .returned (.tuple #[.int .i64 v, .bool fb]) ∧ Below wx.heap.size wx w') := fun p' k' t' u' wx h1 h2 h3 h4 h5 => by have := implBlameOf_c p' n k' xs zz t' m u' rs wx hx (by omega) (by omega) hy h3 h4 h5; rw [hv, hF] at this; exact this
  have HX : Hid (xs.length = n) := hx
  have HY : Hid (rs.length = m) := hy
  have HT0 : Hid (Tab w) := ht
  have hvv : (v != v) = false := by simp
  have hfb : (fb != fb) = false := by simp
  clear hv hF hx hy ht
  have HB_0 : Hid (Below w.heap.size w w) := Below.refl _ _
  have RP_0 : Hid (Rd w ao xs) := hr
  have RL_0 : Hid (RdR w bo rs) := hs
  clear hr hs
  go_enter Tryd.func6, Tryd.ntmps6
  by_cases hsz : 1048576 < n
  · have hsz2 : (1048576 : Int) < (n : Int) := by omega
    go_wp2
    go_ret
    exact ⟨rfl, HB_0.out⟩
  have hsz2 : ¬ (1048576 : Int) < (n : Int) := by omega
  go_wp2_with fail
  refine (szReceiptS_c bo m d 1048576 _ hm0 (by omega)).mono ?_
  rintro e w' ⟨r, rfl, hw, hr1, hr2⟩
  subst w'
  by_cases hr0 : r < 0
  · go_wp2
    go_ret
    exact ⟨rfl, HB_0.out⟩
  have hm : m ≤ 1048576 := (hr2 (by omega)).1
  have hrn : ¬ r < 0 := hr0
  clear hr1 hr2 hr0
  go_wp2_with fail
  refine (toIntS_c ao n c xs _ HX.out (by omega) RP_0.out).mono ?_
  rintro e w1 ⟨p1, k1, rfl, ho, hb⟩
  have hB : Below w.heap.size w w1 := hb
  have HB_1 : Hid (Below w.heap.size w w1) := HB_0.out.trans (hB.mono HB_0.out.size)
  have RP_1 : Hid (Rd w1 ao xs) := RP_0.out.later hB
  have RL_1 : Hid (RdR w1 bo rs) := RL_0.out.later hB
  have z1 : w.heap.size ≤ w1.heap.size := hB.size
  have P1_1 : Hid (Own w1 w.heap.size (Value.slice p1 n k1) (xs)) := ho
  have I_P1 : Hid (∀ k, (Value.slice p1 n k1).ownBlock = some k → w.heap.size ≤ k ∧ k < w1.heap.size) := World.ownsRow.lt P1_1.out
  clear hb hB HB_0 RP_0 RL_0 ho
  go_wp2_with fail
  refine (toReceiptS_c bo m d rs _ HY.out hm RL_1.out).mono ?_
  rintro e w2 ⟨t1, u1, rfl, ho, hb⟩
  have hB : Below w1.heap.size w1 w2 := hb
  have HB_2 : Hid (Below w.heap.size w w2) := HB_1.out.trans (hB.mono HB_1.out.size)
  have RP_2 : Hid (Rd w2 ao xs) := RP_1.out.later hB
  have RL_2 : Hid (RdR w2 bo rs) := RL_1.out.later hB
  have P1_2 : Hid (Own w2 w.heap.size (Value.slice p1 n k1) (xs)) := P1_1.out.later hB
  have z2 : w1.heap.size ≤ w2.heap.size := hB.size
  have Q1_2 : Hid (OwnR w2 w1.heap.size (Value.slice t1 m u1) (rs)) := ho
  have I_Q1 : Hid (∀ k, (Value.slice t1 m u1).ownBlock = some k → w1.heap.size ≤ k ∧ k < w2.heap.size) := World.ownsRow.lt Q1_2.out
  clear hb hB HB_1 RP_1 RL_1 P1_1 ho
  go_wp2_with fail
  refine (HQS.out p1 k1 t1 u1 _ (by omega) hm P1_2.out.rd'.2 Q1_2.out.rd'.2).mono ?_
  rintro e w3 ⟨rfl, hb⟩
  have hB : Below w2.heap.size w2 w3 := hb
  have HB_3 : Hid (Below w.heap.size w w3) := HB_2.out.trans (hB.mono HB_2.out.size)
  have RP_3 : Hid (Rd w3 ao xs) := RP_2.out.later hB
  have RL_3 : Hid (RdR w3 bo rs) := RL_2.out.later hB
  have z3 : w2.heap.size ≤ w3.heap.size := hB.size
  clear hb hB HB_2 RP_2 RL_2 P1_2 Q1_2 
  go_wp2_with fail
  refine (toIntS_c ao n c xs _ HX.out (by omega) RP_3.out).mono ?_
  rintro e w4 ⟨p2, k2, rfl, ho, hb⟩
  have hB : Below w3.heap.size w3 w4 := hb
  have HB_4 : Hid (Below w.heap.size w w4) := HB_3.out.trans (hB.mono HB_3.out.size)
  have RP_4 : Hid (Rd w4 ao xs) := RP_3.out.later hB
  have RL_4 : Hid (RdR w4 bo rs) := RL_3.out.later hB
  have z4 : w3.heap.size ≤ w4.heap.size := hB.size
  have P2_4 : Hid (Own w4 w3.heap.size (Value.slice p2 n k2) (xs)) := ho
  have I_P2 : Hid (∀ k, (Value.slice p2 n k2).ownBlock = some k → w3.heap.size ≤ k ∧ k < w4.heap.size) := World.ownsRow.lt P2_4.out
  clear hb hB HB_3 RP_3 RL_3 ho
  go_wp2_with fail
  refine (toReceiptS_c bo m d rs _ HY.out hm RL_4.out).mono ?_
  rintro e w5 ⟨t2, u2, rfl, ho, hb⟩
  have hB : Below w4.heap.size w4 w5 := hb
  have HB_5 : Hid (Below w.heap.size w w5) := HB_4.out.trans (hB.mono HB_4.out.size)
  have RP_5 : Hid (Rd w5 ao xs) := RP_4.out.later hB
  have RL_5 : Hid (RdR w5 bo rs) := RL_4.out.later hB
  have P2_5 : Hid (Own w5 w3.heap.size (Value.slice p2 n k2) (xs)) := P2_4.out.later hB
  have z5 : w4.heap.size ≤ w5.heap.size := hB.size
  have Q2_5 : Hid (OwnR w5 w4.heap.size (Value.slice t2 m u2) (rs)) := ho
  have I_Q2 : Hid (∀ k, (Value.slice t2 m u2).ownBlock = some k → w4.heap.size ≤ k ∧ k < w5.heap.size) := World.ownsRow.lt Q2_5.out
  clear hb hB HB_4 RP_4 RL_4 P2_4 ho
  go_wp2_with fail
  refine (HQI.out p2 k2 t2 u2 _ (by omega) hm P2_5.out.rd'.2 Q2_5.out.rd'.2 (HT0.out.keep HB_5.out)).mono ?_
  rintro e w6 ⟨rfl, hb⟩
  have hB : Below w5.heap.size w5 w6 := hb
  have HB_6 : Hid (Below w.heap.size w w6) := HB_5.out.trans (hB.mono HB_5.out.size)
  have RP_6 : Hid (Rd w6 ao xs) := RP_5.out.later hB
  have RL_6 : Hid (RdR w6 bo rs) := RL_5.out.later hB
  have P2_6 : Hid (Own w6 w3.heap.size (Value.slice p2 n k2) (xs)) := P2_5.out.later hB
  have Q2_6 : Hid (OwnR w6 w4.heap.size (Value.slice t2 m u2) (rs)) := Q2_5.out.later hB
  have z6 : w5.heap.size ≤ w6.heap.size := hB.size
  clear hb hB HB_5 RP_5 RL_5 P2_5 Q2_5 
  go_wp2_with fail
  refine (toIntS_c ao n c xs _ HX.out (by omega) RP_6.out).mono ?_
  rintro e w7 ⟨p3, k3, rfl, ho, hb⟩
  have hB : Below w6.heap.size w6 w7 := hb
  have HB_7 : Hid (Below w.heap.size w w7) := HB_6.out.trans (hB.mono HB_6.out.size)
  have RP_7 : Hid (Rd w7 ao xs) := RP_6.out.later hB
  have RL_7 : Hid (RdR w7 bo rs) := RL_6.out.later hB
  have P2_7 : Hid (Own w7 w3.heap.size (Value.slice p2 n k2) (xs)) := P2_6.out.later hB
  have Q2_7 : Hid (OwnR w7 w4.heap.size (Value.slice t2 m u2) (rs)) := Q2_6.out.later hB
  have z7 : w6.heap.size ≤ w7.heap.size := hB.size
  have P3_7 : Hid (Own w7 w6.heap.size (Value.slice p3 n k3) (xs)) := ho
  have I_P3 : Hid (∀ k, (Value.slice p3 n k3).ownBlock = some k → w6.heap.size ≤ k ∧ k < w7.heap.size) := World.ownsRow.lt P3_7.out
  clear hb hB HB_6 RP_6 RL_6 P2_6 Q2_6 ho
  go_wp2_with fail
  refine (eqIntS_c p2 p3 n n k2 k3 xs xs _ HX.out HX.out (by omega) (by omega) P2_7.out.rd'.2 P3_7.out.rd'.2).mono ?_
  rw [decide_eq_true rfl]
  rintro e w8 ⟨rfl, hb⟩
  have hB : Below w7.heap.size w7 w8 := hb
  have HB_8 : Hid (Below w.heap.size w w8) := HB_7.out.trans (hB.mono HB_7.out.size)
  have RP_8 : Hid (Rd w8 ao xs) := RP_7.out.later hB
  have RL_8 : Hid (RdR w8 bo rs) := RL_7.out.later hB
  have P2_8 : Hid (Own w8 w3.heap.size (Value.slice p2 n k2) (xs)) := P2_7.out.later hB
  have Q2_8 : Hid (OwnR w8 w4.heap.size (Value.slice t2 m u2) (rs)) := Q2_7.out.later hB
  have z8 : w7.heap.size ≤ w8.heap.size := hB.size
  clear hb hB HB_7 RP_7 RL_7 P2_7 Q2_7 P3_7 
  go_wp2_with fail
  refine (toReceiptS_c bo m d rs _ HY.out hm RL_8.out).mono ?_
  rintro e w9 ⟨t3, u3, rfl, ho, hb⟩
  have hB : Below w8.heap.size w8 w9 := hb
  have HB_9 : Hid (Below w.heap.size w w9) := HB_8.out.trans (hB.mono HB_8.out.size)
  have RP_9 : Hid (Rd w9 ao xs) := RP_8.out.later hB
  have RL_9 : Hid (RdR w9 bo rs) := RL_8.out.later hB
  have P2_9 : Hid (Own w9 w3.heap.size (Value.slice p2 n k2) (xs)) := P2_8.out.later hB
  have Q2_9 : Hid (OwnR w9 w4.heap.size (Value.slice t2 m u2) (rs)) := Q2_8.out.later hB
  have z9 : w8.heap.size ≤ w9.heap.size := hB.size
  have Q3_9 : Hid (OwnR w9 w8.heap.size (Value.slice t3 m u3) (rs)) := ho
  have I_Q3 : Hid (∀ k, (Value.slice t3 m u3).ownBlock = some k → w8.heap.size ≤ k ∧ k < w9.heap.size) := World.ownsRow.lt Q3_9.out
  clear hb hB HB_8 RP_8 RL_8 P2_8 Q2_8 ho
  go_wp2_with fail
  refine (eqReceiptS_c t2 t3 m m u2 u3 rs rs _ HY.out HY.out (by omega) (by omega) Q2_9.out.rd'.2 Q3_9.out.rd'.2).mono ?_
  rw [decide_eq_true rfl]
  rintro e w10 ⟨rfl, hb⟩
  have hB : Below w9.heap.size w9 w10 := hb
  have HB_10 : Hid (Below w.heap.size w w10) := HB_9.out.trans (hB.mono HB_9.out.size)
  have RP_10 : Hid (Rd w10 ao xs) := RP_9.out.later hB
  have RL_10 : Hid (RdR w10 bo rs) := RL_9.out.later hB
  have P2_10 : Hid (Own w10 w3.heap.size (Value.slice p2 n k2) (xs)) := P2_9.out.later hB
  have Q2_10 : Hid (OwnR w10 w4.heap.size (Value.slice t2 m u2) (rs)) := Q2_9.out.later hB
  have z10 : w9.heap.size ≤ w10.heap.size := hB.size
  clear hb hB HB_9 RP_9 RL_9 P2_9 Q2_9 Q3_9 
  go_wp2
  go_ret
  exact ⟨rfl, HB_10.out⟩

end Go.Proofs.YtdhnolafkgkliaaDoor
