/- The law on CyclesOf, walked: it answers true at every argument and turns nothing that was there. -/
import Derived.Test.YtlepejafednlfaaWC9
namespace Go.Proofs.Ytlepejafednlfaa
set_option linter.unusedVariables false
set_option maxRecDepth 1000000
set_option linter.unusedSimpArgs false
open Go.RowKit

set_option maxHeartbeats 4000000 in
theorem lawCycles_c (ao : Option Addr) (n c : Nat) (xs : List Int) (w : World) (hx : xs.length = n) (hn0 : n ≤ 9223372036854775807) (hr : Rd w ao xs) :
    Calls Try.prog 8 #[.slice ao n c] w fun e w' => e = .returned (.bool true) ∧ Below w.heap.size w w' := by
  by_cases hl0 : 1048576 < n
  · have hi0 : (1048576 : Int) < (n : Int) := by omega
    go_enter Try.func8, Try.ntmps8
    go_wp2
    go_ret
    exact ⟨rfl, Below.refl _ _⟩
  have hn17 : n ≤ 17592186044416 := by omega
  have HX : Hid (xs.length = n) := hx
  have HR : Hid (Rd w ao xs) := hr
  obtain ⟨zss, fb, hF⟩ : ∃ zss fb, cyclesF xs = (zss, fb) := ⟨_, _, rfl⟩
  obtain ⟨p, hp⟩ : ∃ p, zss.length = p := ⟨_, rfl⟩
  have hp20 : p ≤ 1048576 := by have := (cyclesF_short hF).1; omega
  have HZL : Hid (∀ l ∈ zss, l.length ≤ 1048576) := fun l hl => Nat.le_trans ((cyclesF_short hF).2 l hl) (by omega)
  have HP : Hid (zss.length = p) := hp
  have HF : Hid (cyclesF xs = (zss, fb)) := hF
  have hfb : (fb != fb) = false := by simp
  clear hx hr hF hp
  go_enter Try.func8, Try.ntmps8
  go_wp2_with fail
  refine (toIntS_c ao n c xs w HX.out hn17 HR.out).mono ?_
  rintro e w1 ⟨a1, c1, rfl, ho1, hb1⟩
  have HB1 : Hid (Below w.heap.size w w1) := hb1
  have q1 := specCycles_c a1 n c1 xs w1 HX.out hn17 ho1.cap ho1.rd'.2 zss fb p HF.out HP.out
  clear ho1 hb1
  go_wp2_with fail
  refine q1.mono ?_
  clear q1
  rintro e w2 ⟨az, cz, rfl, hz2, hb2⟩
  have HB2 : Hid (Below w.heap.size w w2) := HB1.out.trans (hb2.mono HB1.out.size)
  have HZ2 : Hid (OwnIR w2 w1.heap.size w2.heap.size (.slice az p cz) zss) := hz2.toR
  clear hz2 hb2 HB1
  go_wp2_with fail
  refine (toIntS_c ao n c xs w2 HX.out hn17 (HR.out.later HB2.out)).mono ?_
  rintro e w3 ⟨a2, c2, rfl, ho2, hb3⟩
  have HB3 : Hid (Below w.heap.size w w3) := HB2.out.trans (hb3.mono HB2.out.size)
  have HZ3 : Hid (OwnIR w3 w1.heap.size w2.heap.size (.slice az p cz) zss) := HZ2.out.later hb3
  have HO3 : Hid (Own w3 w2.heap.size (.slice a2 n c2) xs) := ho2
  have HI3 : Hid (∀ k, (Value.slice a2 n c2).ownBlock = some k → w2.heap.size ≤ k ∧ k < w3.heap.size) := World.ownsRow.lt ho2
  have HS3 : Hid (w.heap.size ≤ w2.heap.size ∧ w2.heap.size ≤ w3.heap.size) := ⟨HB2.out.size, hb3.size⟩
  have q2 := implCycles_c a2 n c2 xs w3 HX.out hn17 ho2.cap ho2.rd'.2 zss fb p HF.out HP.out
  clear ho2 hb3 HB2 HZ2
  go_wp2_with fail
  refine q2.mono ?_
  clear q2
  rintro e w4 ⟨ag, cg, rfl, hg4, hb4⟩
  have HB4 : Hid (Below w.heap.size w w4) := HB3.out.trans (hb4.mono HB3.out.size)
  have HZ4 : Hid (OwnIR w4 w1.heap.size w2.heap.size (.slice az p cz) zss) := HZ3.out.later hb4
  have HO4 : Hid (Own w4 w2.heap.size (.slice a2 n c2) xs) := HO3.out.later hb4
  have HG4 : Hid (OwnIR w4 w3.heap.size w4.heap.size (.slice ag p cg) zss) := hg4.toR
  have q3 := eqII_c ag az p cg cz zss w4 HP.out hp20 HZL.out hg4.rd' HZ4.out.toS.rd'
  clear hg4 hb4 HB3 HZ3 HO3
  go_wp2_with fail
  refine q3.mono ?_
  clear q3
  rintro e w5 ⟨rfl, hb5⟩
  have HB5 : Hid (Below w.heap.size w w5) := HB4.out.trans (hb5.mono HB4.out.size)
  have HZ5 : Hid (OwnIR w5 w1.heap.size w2.heap.size (.slice az p cz) zss) := HZ4.out.later hb5
  have HO5 : Hid (Own w5 w2.heap.size (.slice a2 n c2) xs) := HO4.out.later hb5
  have HG5 : Hid (OwnIR w5 w3.heap.size w4.heap.size (.slice ag p cg) zss) := HG4.out.later hb5
  clear hb5 HB4 HZ4 HO4 HG4
  go_wp2_with fail
  refine (toIntS_c ao n c xs w5 HX.out hn17 (HR.out.later HB5.out)).mono ?_
  rintro e w6 ⟨a3, c3, rfl, ho6, hb6⟩
  have HB6 : Hid (Below w.heap.size w w6) := HB5.out.trans (hb6.mono HB5.out.size)
  have HZ6 : Hid (OwnIR w6 w1.heap.size w2.heap.size (.slice az p cz) zss) := HZ5.out.later hb6
  have HO6 : Hid (Own w6 w2.heap.size (.slice a2 n c2) xs) := HO5.out.later hb6
  have HG6 : Hid (OwnIR w6 w3.heap.size w4.heap.size (.slice ag p cg) zss) := HG5.out.later hb6
  have q4 := eqIntS_c a2 a3 n n c2 c3 xs xs w6 HX.out HX.out hn17 hn17 HO6.out.rd'.2 ho6.rd'.2
  rw [decide_eq_true rfl] at q4
  clear ho6 hb6 HB5 HZ5 HO5 HG5
  go_wp2_with fail
  refine q4.mono ?_
  clear q4
  rintro e w7 ⟨rfl, hb7⟩
  have HB7 : Hid (Below w.heap.size w w7) := HB6.out.trans (hb7.mono HB6.out.size)
  have HZ7 : Hid (OwnIR w7 w1.heap.size w2.heap.size (.slice az p cz) zss) := HZ6.out.later hb7
  have HO7 : Hid (Own w7 w2.heap.size (.slice a2 n c2) xs) := HO6.out.later hb7
  have HG7 : Hid (OwnIR w7 w3.heap.size w4.heap.size (.slice ag p cg) zss) := HG6.out.later hb7
  clear hb7 HB6 HZ6 HO6 HG6
  have q5 := markIntS_c a2 n c2 1 w2.heap.size xs w7 hn17 (by omega) (by omega) HO7.out
  go_wp2_with fail
  refine q5.mono ?_
  clear q5
  rintro e w8 ⟨rfl, ho8, hg8⟩
  have hr8 : Rng w2.heap.size w3.heap.size w7 w8 := Rng.ofGrown hg8 HI3.out
  have HB8 : Hid (Below w.heap.size w w8) := HB7.out.trans (hr8.below HS3.out.1 HB7.out.size)
  have HZ8 : Hid (OwnIR w8 w1.heap.size w2.heap.size (.slice az p cz) zss) := HZ7.out.rng hr8 (Or.inl (Nat.le_refl _))
  have HG8 : Hid (OwnIR w8 w3.heap.size w4.heap.size (.slice ag p cg) zss) := HG7.out.rng hr8 (Or.inr (Nat.le_refl _))
  have hc8 : ¬ ((1 : Int) + (n : Int) < 0) := by omega
  generalize (1 : Int) + (n : Int) = u8 at hc8 ⊢
  have q6 := eqII_c ag az p cg cz zss w8 HP.out hp20 HZL.out HG8.out.toS.rd' HZ8.out.toS.rd'
  clear ho8 hr8 hg8 HB7 HZ7 HO7 HG7
  go_wp2_with fail
  refine q6.mono ?_
  clear q6
  rintro e w9 ⟨rfl, hb9⟩
  have HB9 : Hid (Below w.heap.size w w9) := HB8.out.trans (hb9.mono HB8.out.size)
  have HZ9 : Hid (OwnIR w9 w1.heap.size w2.heap.size (.slice az p cz) zss) := HZ8.out.later hb9
  have HG9 : Hid (OwnIR w9 w3.heap.size w4.heap.size (.slice ag p cg) zss) := HG8.out.later hb9
  clear hb9 HB8 HZ8 HG8
  have q7 := markII_c ag p cg w3.heap.size w4.heap.size zss w9 HP.out hp20 HZL.out HG9.out
  go_wp2_with fail
  refine q7.mono ?_
  clear q7
  rintro e w10 ⟨rfl, hg10, hr10⟩
  have HB10 : Hid (Below w.heap.size w w10) := HB9.out.trans (hr10.below (Nat.le_trans HS3.out.1 HS3.out.2) HB9.out.size)
  have HZ10 : Hid (OwnIR w10 w1.heap.size w2.heap.size (.slice az p cz) zss) := HZ9.out.rng hr10 (Or.inl HS3.out.2)
  have HG10 : Hid (OwnIR w10 w3.heap.size w4.heap.size (.slice ag p cg) (markL zss)) := hg10
  have q8 := heldII_c ag p cg w3.heap.size w4.heap.size zss w10 HP.out hp20 HZL.out hg10
  obtain ⟨u, hu⟩ : ∃ u : Int, (1 : Int) + (cum zss p : Nat) = u := ⟨_, rfl⟩
  have hcu : ¬ (u < 0) := by omega
  have HU : Hid ((1 : Int) + (cum zss p : Nat) = u) := hu
  have huu : (u != u) = false := by simp
  rw [hu] at q8 ⊢
  clear hg10 hr10 HB9 HZ9 HG9 hu
  go_wp2_with fail
  refine q8.mono ?_
  clear q8
  rintro e w11 ⟨rfl, hb11⟩
  have HB11 : Hid (Below w.heap.size w w11) := HB10.out.trans (hb11.mono HB10.out.size)
  have HZ11 : Hid (OwnIR w11 w1.heap.size w2.heap.size (.slice az p cz) zss) := HZ10.out.later hb11
  have HG11 : Hid (OwnIR w11 w3.heap.size w4.heap.size (.slice ag p cg) (markL zss)) := HG10.out.later hb11
  clear hb11 HB10 HZ10 HG10
  go_wp2_with fail
  refine (toIntS_c ao n c xs w11 HX.out hn17 (HR.out.later HB11.out)).mono ?_
  rintro e w12 ⟨a4, c4, rfl, ho12, hb12⟩
  have HB12 : Hid (Below w.heap.size w w12) := HB11.out.trans (hb12.mono HB11.out.size)
  have HZ12 : Hid (OwnIR w12 w1.heap.size w2.heap.size (.slice az p cz) zss) := HZ11.out.later hb12
  have HG12 : Hid (OwnIR w12 w3.heap.size w4.heap.size (.slice ag p cg) (markL zss)) := HG11.out.later hb12
  have q9 := implCycles_c a4 n c4 xs w12 HX.out hn17 ho12.cap ho12.rd'.2 zss fb p HF.out HP.out
  clear ho12 hb12 HB11 HZ11 HG11
  go_wp2_with fail
  refine q9.mono ?_
  clear q9
  rintro e w13 ⟨ah, ch, rfl, hh13, hb13⟩
  have HB13 : Hid (Below w.heap.size w w13) := HB12.out.trans (hb13.mono HB12.out.size)
  have HZ13 : Hid (OwnIR w13 w1.heap.size w2.heap.size (.slice az p cz) zss) := HZ12.out.later hb13
  have HG13 : Hid (OwnIR w13 w3.heap.size w4.heap.size (.slice ag p cg) (markL zss)) := HG12.out.later hb13
  have q10 := eqII_c ah az p ch cz zss w13 HP.out hp20 HZL.out hh13.rd' HZ13.out.toS.rd'
  clear hh13 hb13 HB12 HZ12 HG12
  go_wp2_with fail
  refine q10.mono ?_
  clear q10
  rintro e w14 ⟨rfl, hb14⟩
  have HB14 : Hid (Below w.heap.size w w14) := HB13.out.trans (hb14.mono HB13.out.size)
  have q11 := heldII_c ag p cg w3.heap.size w4.heap.size zss w14 HP.out hp20 HZL.out (HG13.out.later hb14)
  rw [HU.out] at q11
  clear hb14 HB13 HZ13 HG13
  go_wp2_with fail
  refine q11.mono ?_
  clear q11
  rintro e w15 ⟨rfl, hb15⟩
  have HB15 : Hid (Below w.heap.size w w15) := HB14.out.trans (hb15.mono HB14.out.size)
  clear hb15 HB14
  go_wp2
  go_ret
  exact ⟨rfl, HB15.out⟩

end Go.Proofs.Ytlepejafednlfaa
