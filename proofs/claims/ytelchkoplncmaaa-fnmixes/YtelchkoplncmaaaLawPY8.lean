/- The law on PlayMix, walked: it answers true at every argument and turns nothing that was there. -/
import Derived.Test.YtelchkoplncmaaaMS8
namespace Go.Proofs.Ytelchkoplncmaaa
set_option linter.unusedVariables false
set_option maxRecDepth 1000000
set_option linter.unusedSimpArgs false
open Go.RowKit

theorem playM_small : ∀ (rs : List (List ByteArray)) {m : MixV} {o : List (List ByteArray)}, GoodV m → playM m rs = some o → o.length = rs.length ∧ ∀ l ∈ o, l.length ≤ 12
  | [], m, o, _, h => by
    simp only [playM, Option.some.injEq] at h
    subst h
    exact ⟨rfl, fun l hl => absurd hl (by simp)⟩
  | l :: r, m, o, g, h => by
    unfold playM at h
    by_cases hb : poolB l = true
    · rw [if_pos hb] at h
      obtain ⟨o', ho, rfl⟩ := Option.map_eq_some_iff.1 h
      have gp := good_puts l g (pool_facts hb).2
      obtain ⟨h1, h2⟩ := playM_small r (good_tick gp) ho
      refine ⟨by simp [h1], fun x hx => ?_⟩
      rcases List.mem_cons.1 hx with e | e
      · rw [e]; exact (tickM_small gp.many).2
      · exact h2 x e
    · rw [if_neg hb] at h
      exact absurd h (by simp)
theorem playF_small {a b : Int} {rs zss : List (List ByteArray)} {fb : Bool} (h : playF a b rs = (zss, fb)) : zss.length ≤ 20 ∧ ∀ l ∈ zss, l.length ≤ 1048576 := by
  unfold playF at h
  split at h
  · rename_i hc
    split at h
    · simp only [Prod.mk.injEq] at h
      obtain ⟨rfl, rfl⟩ := h
      exact ⟨by simp, fun l hl => absurd hl (by simp)⟩
    · rename_i o ho
      simp only [Prod.mk.injEq] at h
      obtain ⟨rfl, rfl⟩ := h
      obtain ⟨h1, h2⟩ := playM_small rs (good_new hc.1) ho
      exact ⟨by rw [h1]; exact hc.2, fun l hl => Nat.le_trans (h2 l hl) (by omega)⟩
  · simp only [Prod.mk.injEq] at h
    obtain ⟨rfl, rfl⟩ := h
    exact ⟨by simp, fun l hl => absurd hl (by simp)⟩

set_option maxHeartbeats 4000000 in
theorem lawPlay_c (i0 i1 : Int) (ao : Option Addr) (n c : Nat) (xss : List (List ByteArray)) (w : World) (hw0 : -9223372036854775808 ≤ i0 ∧ i0 ≤ 9223372036854775807) (hw1 : -9223372036854775808 ≤ i1 ∧ i1 ≤ 9223372036854775807) (hx : xss.length = n) (hn0 : n ≤ 9223372036854775807) (hr : RdSS w ao xss) (hl0 : ∀ l ∈ xss, l.length ≤ 9223372036854775807 ∧ ∀ s ∈ l, s.size ≤ 9223372036854775807) :
    Calls Try.prog 9 #[.int .i64 i0, .int .i64 i1, .slice ao n c] w fun e w' => e = .returned (.bool true) ∧ Below w.heap.size w w' := by
  have HX : Hid (xss.length = n) := hx
  have HR : Hid (RdSS w ao xss) := hr
  have HS : Hid (∀ l ∈ xss, ∀ s ∈ l, s.size ≤ 9223372036854775807) := fun l hl => (hl0 l hl).2
  have q0 := szSS_c ao n c xss w hx hn0 hr hl0
  obtain ⟨zss, fb, hF⟩ : ∃ zss fb, playF i0 i1 xss = (zss, fb) := ⟨_, _, rfl⟩
  obtain ⟨p, hp⟩ : ∃ p, zss.length = p := ⟨_, rfl⟩
  have hp20 : p ≤ 1048576 := by have := (playF_small hF).1; omega
  have HZL : Hid (∀ l ∈ zss, l.length ≤ 1048576) := (playF_small hF).2
  have HP : Hid (zss.length = p) := hp
  have HF : Hid (playF i0 i1 xss = (zss, fb)) := hF
  have hfb : (fb != fb) = false := by simp
  clear hx hr hl0 hF hp
  go_enter Try.func9, Try.ntmps9
  go_wp2_with fail
  refine q0.mono ?_
  clear q0
  rintro e w' ⟨rs, rfl, hw, hr2⟩
  subst w'
  by_cases hr0 : rs < 0
  · go_wp2
    go_ret
    exact ⟨rfl, Below.refl _ _⟩
  have hnn : n ≤ 1048576 := (hr2 (by omega)).1
  have HL : Hid (∀ l ∈ xss, l.length ≤ 1048576) := (hr2 (by omega)).2
  have HLS : Hid (∀ l ∈ xss, l.length ≤ 1048576 ∧ ∀ s ∈ l, s.size ≤ 9223372036854775807) := fun l hl => ⟨HL.out l hl, HS.out l hl⟩
  have hrn : ¬ rs < 0 := hr0
  clear hr2 hr0 HS
  go_wp2_with fail
  refine (toSS_c ao n c xss w HX.out hnn HL.out HR.out).mono ?_
  rintro e w1 ⟨a1, c1, rfl, ho1, hb1⟩
  have HB1 : Hid (Below w.heap.size w w1) := hb1
  have q1 := specPlay_c a1 n c1 i0 i1 xss w1 HX.out hnn ho1.rd' HLS.out zss fb p HF.out HP.out
  clear ho1 hb1
  go_wp2_with fail
  refine q1.mono ?_
  clear q1
  rintro e w2 ⟨az, cz, rfl, hz2, hb2⟩
  have HB2 : Hid (Below w.heap.size w w2) := HB1.out.trans (hb2.mono HB1.out.size)
  have HZ2 : Hid (OwnSR w2 w1.heap.size w2.heap.size (.slice az p cz) zss) := hz2.toR
  clear hz2 hb2 HB1
  go_wp2_with fail
  refine (toSS_c ao n c xss w2 HX.out hnn HL.out (HR.out.later HB2.out)).mono ?_
  rintro e w3 ⟨a2, c2, rfl, ho2, hb3⟩
  have HB3 : Hid (Below w.heap.size w w3) := HB2.out.trans (hb3.mono HB2.out.size)
  have HZ3 : Hid (OwnSR w3 w1.heap.size w2.heap.size (.slice az p cz) zss) := HZ2.out.later hb3
  have HO3 : Hid (OwnSR w3 w2.heap.size w3.heap.size (.slice a2 n c2) xss) := ho2.toR
  have HS3 : Hid (w.heap.size ≤ w2.heap.size ∧ w2.heap.size ≤ w3.heap.size) := ⟨HB2.out.size, hb3.size⟩
  have q2 := implPlay_c a2 n c2 i0 i1 xss w3 HX.out hnn ho2.rd' HLS.out zss fb p HF.out HP.out
  clear ho2 hb3 HB2 HZ2
  go_wp2_with fail
  refine q2.mono ?_
  clear q2
  rintro e w4 ⟨ag, cg, rfl, hg4, hb4⟩
  have HB4 : Hid (Below w.heap.size w w4) := HB3.out.trans (hb4.mono HB3.out.size)
  have HZ4 : Hid (OwnSR w4 w1.heap.size w2.heap.size (.slice az p cz) zss) := HZ3.out.later hb4
  have HO4 : Hid (OwnSR w4 w2.heap.size w3.heap.size (.slice a2 n c2) xss) := HO3.out.later hb4
  have HG4 : Hid (OwnSR w4 w3.heap.size w4.heap.size (.slice ag p cg) zss) := hg4.toR
  have q3 := eqSS_c ag az p cg cz zss w4 HP.out hp20 HZL.out hg4.rd' HZ4.out.toS.rd'
  clear hg4 hb4 HB3 HZ3 HO3
  go_wp2_with fail
  refine q3.mono ?_
  clear q3
  rintro e w5 ⟨rfl, hb5⟩
  have HB5 : Hid (Below w.heap.size w w5) := HB4.out.trans (hb5.mono HB4.out.size)
  have HZ5 : Hid (OwnSR w5 w1.heap.size w2.heap.size (.slice az p cz) zss) := HZ4.out.later hb5
  have HO5 : Hid (OwnSR w5 w2.heap.size w3.heap.size (.slice a2 n c2) xss) := HO4.out.later hb5
  have HG5 : Hid (OwnSR w5 w3.heap.size w4.heap.size (.slice ag p cg) zss) := HG4.out.later hb5
  clear hb5 HB4 HZ4 HO4 HG4
  go_wp2_with fail
  refine (toSS_c ao n c xss w5 HX.out hnn HL.out (HR.out.later HB5.out)).mono ?_
  rintro e w6 ⟨a3, c3, rfl, ho6, hb6⟩
  have HB6 : Hid (Below w.heap.size w w6) := HB5.out.trans (hb6.mono HB5.out.size)
  have HZ6 : Hid (OwnSR w6 w1.heap.size w2.heap.size (.slice az p cz) zss) := HZ5.out.later hb6
  have HO6 : Hid (OwnSR w6 w2.heap.size w3.heap.size (.slice a2 n c2) xss) := HO5.out.later hb6
  have HG6 : Hid (OwnSR w6 w3.heap.size w4.heap.size (.slice ag p cg) zss) := HG5.out.later hb6
  have q4 := eqSS_c a2 a3 n c2 c3 xss w6 HX.out hnn HL.out HO6.out.toS.rd' ho6.rd'
  clear ho6 hb6 HB5 HZ5 HO5 HG5
  go_wp2_with fail
  refine q4.mono ?_
  clear q4
  rintro e w7 ⟨rfl, hb7⟩
  have HB7 : Hid (Below w.heap.size w w7) := HB6.out.trans (hb7.mono HB6.out.size)
  have HZ7 : Hid (OwnSR w7 w1.heap.size w2.heap.size (.slice az p cz) zss) := HZ6.out.later hb7
  have HO7 : Hid (OwnSR w7 w2.heap.size w3.heap.size (.slice a2 n c2) xss) := HO6.out.later hb7
  have HG7 : Hid (OwnSR w7 w3.heap.size w4.heap.size (.slice ag p cg) zss) := HG6.out.later hb7
  clear hb7 HB6 HZ6 HO6 HG6
  have q5 := markSS_c a2 n c2 w2.heap.size w3.heap.size xss w7 HX.out hnn HL.out HO7.out
  go_wp2_with fail
  refine q5.mono ?_
  clear q5
  rintro e w8 ⟨rfl, ho8, hr8⟩
  have HB8 : Hid (Below w.heap.size w w8) := HB7.out.trans (hr8.below HS3.out.1 HB7.out.size)
  have HZ8 : Hid (OwnSR w8 w1.heap.size w2.heap.size (.slice az p cz) zss) := HZ7.out.rng hr8 (Or.inl (Nat.le_refl _))
  have HG8 : Hid (OwnSR w8 w3.heap.size w4.heap.size (.slice ag p cg) zss) := HG7.out.rng hr8 (Or.inr (Nat.le_refl _))
  have hc8 : ¬ ((1 : Int) + (cum xss n : Nat) < 0) := by omega
  generalize (1 : Int) + (cum xss n : Nat) = u8 at hc8 ⊢
  have q6 := eqSS_c ag az p cg cz zss w8 HP.out hp20 HZL.out HG8.out.toS.rd' HZ8.out.toS.rd'
  clear ho8 hr8 HB7 HZ7 HO7 HG7
  go_wp2_with fail
  refine q6.mono ?_
  clear q6
  rintro e w9 ⟨rfl, hb9⟩
  have HB9 : Hid (Below w.heap.size w w9) := HB8.out.trans (hb9.mono HB8.out.size)
  have HZ9 : Hid (OwnSR w9 w1.heap.size w2.heap.size (.slice az p cz) zss) := HZ8.out.later hb9
  have HG9 : Hid (OwnSR w9 w3.heap.size w4.heap.size (.slice ag p cg) zss) := HG8.out.later hb9
  clear hb9 HB8 HZ8 HG8
  have q7 := markSS_c ag p cg w3.heap.size w4.heap.size zss w9 HP.out hp20 HZL.out HG9.out
  go_wp2_with fail
  refine q7.mono ?_
  clear q7
  rintro e w10 ⟨rfl, hg10, hr10⟩
  have HB10 : Hid (Below w.heap.size w w10) := HB9.out.trans (hr10.below (Nat.le_trans HS3.out.1 HS3.out.2) HB9.out.size)
  have HZ10 : Hid (OwnSR w10 w1.heap.size w2.heap.size (.slice az p cz) zss) := HZ9.out.rng hr10 (Or.inl HS3.out.2)
  have HG10 : Hid (OwnSR w10 w3.heap.size w4.heap.size (.slice ag p cg) (markL zss)) := hg10
  have q8 := heldSS_c ag p cg w3.heap.size w4.heap.size zss w10 HP.out hp20 HZL.out hg10
  obtain ⟨u, hu⟩ : ∃ u : Int, (1 : Int) + (cum zss p : Nat) = u := ⟨_, rfl⟩
  have hcu : ¬ (u < 0) := by omega
  have HU : Hid ((1 : Int) + (cum zss p : Nat) = u) := hu
  have huu : (u != u) = false := by simp
  rw [hu] at q8 ⊢
  clear hg10 hr10 HB9 HZ9 HG9 hu
  go_wp2_with fail
  refine q8.mono ?_
  clear q8
  rintro e w11 ⟨rfl, hb11⟩
  have HB11 : Hid (Below w.heap.size w w11) := HB10.out.trans (hb11.mono HB10.out.size)
  have HZ11 : Hid (OwnSR w11 w1.heap.size w2.heap.size (.slice az p cz) zss) := HZ10.out.later hb11
  have HG11 : Hid (OwnSR w11 w3.heap.size w4.heap.size (.slice ag p cg) (markL zss)) := HG10.out.later hb11
  clear hb11 HB10 HZ10 HG10
  go_wp2_with fail
  refine (toSS_c ao n c xss w11 HX.out hnn HL.out (HR.out.later HB11.out)).mono ?_
  rintro e w12 ⟨a4, c4, rfl, ho12, hb12⟩
  have HB12 : Hid (Below w.heap.size w w12) := HB11.out.trans (hb12.mono HB11.out.size)
  have HZ12 : Hid (OwnSR w12 w1.heap.size w2.heap.size (.slice az p cz) zss) := HZ11.out.later hb12
  have HG12 : Hid (OwnSR w12 w3.heap.size w4.heap.size (.slice ag p cg) (markL zss)) := HG11.out.later hb12
  have q9 := implPlay_c a4 n c4 i0 i1 xss w12 HX.out hnn ho12.rd' HLS.out zss fb p HF.out HP.out
  clear ho12 hb12 HB11 HZ11 HG11
  go_wp2_with fail
  refine q9.mono ?_
  clear q9
  rintro e w13 ⟨ah, ch, rfl, hh13, hb13⟩
  have HB13 : Hid (Below w.heap.size w w13) := HB12.out.trans (hb13.mono HB12.out.size)
  have HZ13 : Hid (OwnSR w13 w1.heap.size w2.heap.size (.slice az p cz) zss) := HZ12.out.later hb13
  have HG13 : Hid (OwnSR w13 w3.heap.size w4.heap.size (.slice ag p cg) (markL zss)) := HG12.out.later hb13
  have q10 := eqSS_c ah az p ch cz zss w13 HP.out hp20 HZL.out hh13.rd' HZ13.out.toS.rd'
  clear hh13 hb13 HB12 HZ12 HG12
  go_wp2_with fail
  refine q10.mono ?_
  clear q10
  rintro e w14 ⟨rfl, hb14⟩
  have HB14 : Hid (Below w.heap.size w w14) := HB13.out.trans (hb14.mono HB13.out.size)
  have q11 := heldSS_c ag p cg w3.heap.size w4.heap.size zss w14 HP.out hp20 HZL.out (HG13.out.later hb14)
  rw [HU.out] at q11
  clear hb14 HB13 HZ13 HG13
  go_wp2_with fail
  refine q11.mono ?_
  clear q11
  rintro e w15 ⟨rfl, hb15⟩
  have HB15 : Hid (Below w.heap.size w w15) := HB14.out.trans (hb15.mono HB14.out.size)
  clear hb15 HB14
  go_wp2
  go_ret
  exact ⟨rfl, HB15.out⟩

end Go.Proofs.Ytelchkoplncmaaa
