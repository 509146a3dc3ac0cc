/- Chapter 13: GoodBoard, CertifiedIn, CommonHonest, QuorumFor of the program. -/
import Derived.Test.YtaokmjbhgkfnfaaV13s
namespace Go.Proofs.Ytaokmjbhgkfnfaa
set_option linter.unusedVariables false
set_option maxRecDepth 1000000
set_option linter.unusedSimpArgs false
open Go.RowKit

theorem keptAt_X {N : Nat} {li : List Int} {ep : Int} {sg : List (List Int)} : keptAt N li ep sg = keptX N li (sitL N ep sg) := by
  unfold keptAt keptX
  rw [Bool.eq_iff_iff]
  simp only [List.all_eq_true, List.mem_range]
  constructor
  · intro h m hm; rw [sitL_getD ep sg hm]; exact h m hm
  · intro h m hm; have := h m hm; rw [sitL_getD ep sg hm] at this; exact this
theorem sitL_len {N : Nat} {ep : Int} {sg : List (List Int)} (h : sg.length ≤ 200) : ∀ l ∈ sitL N ep sg, l.length ≤ 1000 := by
  intro l hl
  obtain ⟨m, _, rfl⟩ := List.mem_map.1 hl
  have := sitM_len ep (m : Nat) sg []
  simp only [List.length_nil] at this
  omega
/-- What a good board has. -/
structure GoodBV (f e : Int) (sg : List (List Int)) (li ls : List Int) (N : Nat) : Prop where
  f0 : 0 ≤ f
  f2 : f ≤ 2
  fN : 3 * f + 1 = (N : Int)
  N7 : N ≤ 7
  e0 : 0 ≤ e
  e2 : e ≤ 20
  ln : (li.length : Int) ≤ f
  lm : ∀ x ∈ li, 0 ≤ x ∧ x ≤ 3 * f
  lr : Ris ltI li
  tn : ls.length ≤ 10
  tm : ∀ x ∈ ls, 0 ≤ x ∧ x ≤ 9
  tr : Ris ltI ls
  sgOk : sgsB f sg = true
  kp : keptB li sg = true
theorem good_is {f e : Int} {sg : List (List Int)} {li ls : List Int} (h : goodBd ⟨f, e, sg, li, ls⟩ = true) : GoodBV f e sg li ls (3 * f + 1).toNat := by
  simp only [goodBd, couB, lstB, memB, Bool.and_eq_true, decide_eq_true_eq, List.all_eq_true, inB_iff, risB_ris ordI] at h
  obtain ⟨⟨⟨h1, h2⟩, ⟨h3, h4⟩, h5⟩, ⟨h6, h7⟩, ⟨⟨h8, h9⟩, h10⟩, h11, h12⟩ := h
  exact ⟨h1, h2, by omega, by omega, h6, h7, h3, h4, h5, h8, h9, h10, h11, h12⟩
theorem is_good {f e : Int} {sg : List (List Int)} {li ls : List Int} {N : Nat} (h : GoodBV f e sg li ls N) : goodBd ⟨f, e, sg, li, ls⟩ = true := by
  simp only [goodBd, couB, lstB, memB, Bool.and_eq_true, decide_eq_true_eq, List.all_eq_true, inB_iff, risB_ris ordI]
  exact ⟨⟨⟨h.f0, h.f2⟩, ⟨h.ln, h.lm⟩, h.lr⟩, ⟨h.e0, h.e2⟩, ⟨⟨h.tn, h.tm⟩, h.tr⟩, h.sgOk, h.kp⟩

set_option maxHeartbeats 2000000 in
theorem implGood_c (f e : Int) (sa : Option Addr) (sn sc : Nat) (la : Option Addr) (ln lc : Nat) (ta : Option Addr) (tn tc : Nat) (sg : List (List Int)) (li ls : List Int) (w : World) (hs : sg.length = sn) (hsn : sn ≤ 1048576) (hl : li.length = ln) (hln : ln ≤ 1048576) (ht : ls.length = tn) (htn : tn ≤ 1048576) (hrs : RdII w sa sg) (hrl : Rd w la li) (hrt : Rd w ta ls) :
    Calls Try.prog 17 #[.agg #[.int .i64 f, .int .i64 e, .slice sa sn sc, .slice la ln lc, .slice ta tn tc]] w fun x w' => x = .returned (.bool (goodBd ⟨f, e, sg, li, ls⟩)) ∧ Below w.heap.size w w' := by
  have HS : Hid (sg.length = sn) := hs
  have HL : Hid (li.length = ln) := hl
  have HT : Hid (ls.length = tn) := ht
  have q1 := fun wx (h : Rd wx la li) => isCouncil_c f la ln lc li wx hl (by omega) h
  have q2 := fun wx => isEpoch_c e wx
  have q3 := fun wx (h : Rd wx ta ls) => areLists_c ta tn tc ls wx ht (by omega) h
  rw [show goodBd ⟨f, e, sg, li, ls⟩ = (couB f li && (inB e 0 20 && (lstB ls && (sgsB f sg && keptB li sg)))) from rfl]
  cases h1 : couB f li
  · rw [Bool.false_and]
    rw [h1] at q1
    clear q2 q3 h1 hs hl ht
    have HB_0 : Hid (Below w.heap.size w w) := Below.refl _ _
    have RS_0 : Hid (RdII w sa sg) := hrs
    have RL_0 : Hid (Rd w la li) := hrl
    have RT_0 : Hid (Rd w ta ls) := hrt
    clear hrs hrl hrt
    have hHB := HB_0.out.alloc HB_0.out.size (.cells #[.int .i64 f, .int .i64 e, .slice sa sn sc, .slice la ln lc, .slice ta tn tc] 29)
    have hRS := RS_0.out.later (balloc w (.cells #[.int .i64 f, .int .i64 e, .slice sa sn sc, .slice la ln lc, .slice ta tn tc] 29))
    have hRL := RL_0.out.later (balloc w (.cells #[.int .i64 f, .int .i64 e, .slice sa sn sc, .slice la ln lc, .slice ta tn tc] 29))
    have hRT := RT_0.out.later (balloc w (.cells #[.int .i64 f, .int .i64 e, .slice sa sn sc, .slice la ln lc, .slice ta tn tc] 29))
    have hA := x5_new w (.int .i64 f) (.int .i64 e) (.slice sa sn sc) (.slice la ln lc) (.slice ta tn tc) 29 w.heap.size rfl
    have hz : (w.alloc (.cells #[.int .i64 f, .int .i64 e, .slice sa sn sc, .slice la ln lc, .slice ta tn tc] 29)).heap.size = w.heap.size + 1 := by simp
    obtain ⟨w1, hV1⟩ : ∃ V, w.alloc (.cells #[.int .i64 f, .int .i64 e, .slice sa sn sc, .slice la ln lc, .slice ta tn tc] 29) = V := ⟨_, rfl⟩
    rw [hV1] at hHB hRS hRL hRT hA hz
    have HB_1 : Hid (Below w.heap.size w w1) := hHB
    have RS_1 : Hid (RdII w1 sa sg) := hRS
    have RL_1 : Hid (Rd w1 la li) := hRL
    have RT_1 : Hid (Rd w1 ta ls) := hRT
    have A_1 : Hid (X5 w1 w.heap.size (.int .i64 f) (.int .i64 e) (.slice sa sn sc) (.slice la ln lc) (.slice ta tn tc)) := hA
    have z1 : w.heap.size + 1 ≤ w1.heap.size := by omega
    clear HB_0 RS_0 RL_0 RT_0 hHB hRS hRL hRT hA hz
    go_enter Try.func17, Try.ntmps17
    obtain ⟨⟨Aq0, Aq1, Aq2, Aq3, Aq4⟩, Af⟩ := id (A_1.out)
    clear Af
    go_wp2_with fail
    clear hV1
    refine (councilOf_c f e sa sn sc la ln lc ta tn tc _).mono ?_
    clear Aq0 Aq1 Aq2 Aq3 Aq4
    rintro e w2 ⟨rfl, hb⟩
    have hB : Below w1.heap.size w1 w2 := hb
    have HB_2 : Hid (Below w.heap.size w w2) := HB_1.out.trans (hB.mono HB_1.out.size)
    have RS_2 : Hid (RdII w2 sa sg) := RS_1.out.later hB
    have RL_2 : Hid (Rd w2 la li) := RL_1.out.later hB
    have RT_2 : Hid (Rd w2 ta ls) := RT_1.out.later hB
    have A_2 : Hid (X5 w2 w.heap.size (.int .i64 f) (.int .i64 e) (.slice sa sn sc) (.slice la ln lc) (.slice ta tn tc)) := A_1.out.later hB
    have z2 : w1.heap.size ≤ w2.heap.size := hB.size
    clear hb hB HB_1 RS_1 RL_1 RT_1 A_1 
    have hHB := HB_2.out.alloc HB_2.out.size (.cells #[.int .i64 f, .slice la ln lc] 89)
    have hRS := RS_2.out.later (balloc w2 (.cells #[.int .i64 f, .slice la ln lc] 89))
    have hRL := RL_2.out.later (balloc w2 (.cells #[.int .i64 f, .slice la ln lc] 89))
    have hRT := RT_2.out.later (balloc w2 (.cells #[.int .i64 f, .slice la ln lc] 89))
    have hA := A_2.out.later (balloc w2 (.cells #[.int .i64 f, .slice la ln lc] 89))
    have hC := x2_new w2 (.int .i64 f) (.slice la ln lc) 89 w2.heap.size rfl
    have hz : (w2.alloc (.cells #[.int .i64 f, .slice la ln lc] 89)).heap.size = w2.heap.size + 1 := by simp
    obtain ⟨w3, hV3⟩ : ∃ V, w2.alloc (.cells #[.int .i64 f, .slice la ln lc] 89) = V := ⟨_, rfl⟩
    rw [hV3] at hHB hRS hRL hRT hA hC hz
    have HB_3 : Hid (Below w.heap.size w w3) := hHB
    have RS_3 : Hid (RdII w3 sa sg) := hRS
    have RL_3 : Hid (Rd w3 la li) := hRL
    have RT_3 : Hid (Rd w3 ta ls) := hRT
    have A_3 : Hid (X5 w3 w.heap.size (.int .i64 f) (.int .i64 e) (.slice sa sn sc) (.slice la ln lc) (.slice ta tn tc)) := hA
    have C_3 : Hid (X2 w3 w2.heap.size (.int .i64 f) (.slice la ln lc)) := hC
    have z3 : w2.heap.size + 1 ≤ w3.heap.size := by omega
    clear HB_2 RS_2 RL_2 RT_2 A_2 hHB hRS hRL hRT hA hC hz
    obtain ⟨⟨Cq0, Cq1⟩, Cf⟩ := id (C_3.out)
    clear Cf
    go_wp2_with fail
    clear hV3
    refine (q1 _ RL_3.out).mono ?_
    clear Cq0 Cq1
    rintro e w4 ⟨rfl, hb⟩
    have hB : Below w3.heap.size w3 w4 := hb
    have HB_4 : Hid (Below w.heap.size w w4) := HB_3.out.trans (hB.mono HB_3.out.size)
    have RS_4 : Hid (RdII w4 sa sg) := RS_3.out.later hB
    have RL_4 : Hid (Rd w4 la li) := RL_3.out.later hB
    have RT_4 : Hid (Rd w4 ta ls) := RT_3.out.later hB
    have A_4 : Hid (X5 w4 w.heap.size (.int .i64 f) (.int .i64 e) (.slice sa sn sc) (.slice la ln lc) (.slice ta tn tc)) := A_3.out.later hB
    have C_4 : Hid (X2 w4 w2.heap.size (.int .i64 f) (.slice la ln lc)) := C_3.out.later hB
    have z4 : w3.heap.size ≤ w4.heap.size := hB.size
    clear hb hB HB_3 RS_3 RL_3 RT_3 A_3 C_3 
    go_wp2
    go_ret
    exact ⟨rfl, HB_4.out⟩
  have hf : 0 ≤ f ∧ f ≤ 2 := by
    unfold couB at h1
    rw [Bool.and_eq_true] at h1
    exact inB_iff.1 h1.1
  have hlR : Ris ltI li := by
    unfold couB at h1
    rw [Bool.and_eq_true, Bool.and_eq_true] at h1
    exact (risB_ris ordI).1 h1.2.2
  have hl3 : ln ≤ 1000 := by
    unfold couB at h1
    rw [Bool.and_eq_true, Bool.and_eq_true, Bool.and_eq_true] at h1
    have := of_decide_eq_true h1.2.1.1
    omega
  have h0 := hf.1
  have h2' := hf.2
  rw [Bool.true_and]
  rw [h1] at q1
  cases h2 : inB e 0 20
  · rw [Bool.false_and]
    rw [h2] at q2
    clear q3 h1 h2 hf h0 h2' hs hl ht
    have HB_0 : Hid (Below w.heap.size w w) := Below.refl _ _
    have RS_0 : Hid (RdII w sa sg) := hrs
    have RL_0 : Hid (Rd w la li) := hrl
    have RT_0 : Hid (Rd w ta ls) := hrt
    clear hrs hrl hrt
    have hHB := HB_0.out.alloc HB_0.out.size (.cells #[.int .i64 f, .int .i64 e, .slice sa sn sc, .slice la ln lc, .slice ta tn tc] 29)
    have hRS := RS_0.out.later (balloc w (.cells #[.int .i64 f, .int .i64 e, .slice sa sn sc, .slice la ln lc, .slice ta tn tc] 29))
    have hRL := RL_0.out.later (balloc w (.cells #[.int .i64 f, .int .i64 e, .slice sa sn sc, .slice la ln lc, .slice ta tn tc] 29))
    have hRT := RT_0.out.later (balloc w (.cells #[.int .i64 f, .int .i64 e, .slice sa sn sc, .slice la ln lc, .slice ta tn tc] 29))
    have hA := x5_new w (.int .i64 f) (.int .i64 e) (.slice sa sn sc) (.slice la ln lc) (.slice ta tn tc) 29 w.heap.size rfl
    have hz : (w.alloc (.cells #[.int .i64 f, .int .i64 e, .slice sa sn sc, .slice la ln lc, .slice ta tn tc] 29)).heap.size = w.heap.size + 1 := by simp
    obtain ⟨w1, hV1⟩ : ∃ V, w.alloc (.cells #[.int .i64 f, .int .i64 e, .slice sa sn sc, .slice la ln lc, .slice ta tn tc] 29) = V := ⟨_, rfl⟩
    rw [hV1] at hHB hRS hRL hRT hA hz
    have HB_1 : Hid (Below w.heap.size w w1) := hHB
    have RS_1 : Hid (RdII w1 sa sg) := hRS
    have RL_1 : Hid (Rd w1 la li) := hRL
    have RT_1 : Hid (Rd w1 ta ls) := hRT
    have A_1 : Hid (X5 w1 w.heap.size (.int .i64 f) (.int .i64 e) (.slice sa sn sc) (.slice la ln lc) (.slice ta tn tc)) := hA
    have z1 : w.heap.size + 1 ≤ w1.heap.size := by omega
    clear HB_0 RS_0 RL_0 RT_0 hHB hRS hRL hRT hA hz
    go_enter Try.func17, Try.ntmps17
    obtain ⟨⟨Aq0, Aq1, Aq2, Aq3, Aq4⟩, Af⟩ := id (A_1.out)
    clear Af
    go_wp2_with fail
    clear hV1
    refine (councilOf_c f e sa sn sc la ln lc ta tn tc _).mono ?_
    clear Aq0 Aq1 Aq2 Aq3 Aq4
    rintro e w2 ⟨rfl, hb⟩
    have hB : Below w1.heap.size w1 w2 := hb
    have HB_2 : Hid (Below w.heap.size w w2) := HB_1.out.trans (hB.mono HB_1.out.size)
    have RS_2 : Hid (RdII w2 sa sg) := RS_1.out.later hB
    have RL_2 : Hid (Rd w2 la li) := RL_1.out.later hB
    have RT_2 : Hid (Rd w2 ta ls) := RT_1.out.later hB
    have A_2 : Hid (X5 w2 w.heap.size (.int .i64 f) (.int .i64 e) (.slice sa sn sc) (.slice la ln lc) (.slice ta tn tc)) := A_1.out.later hB
    have z2 : w1.heap.size ≤ w2.heap.size := hB.size
    clear hb hB HB_1 RS_1 RL_1 RT_1 A_1 
    have hHB := HB_2.out.alloc HB_2.out.size (.cells #[.int .i64 f, .slice la ln lc] 89)
    have hRS := RS_2.out.later (balloc w2 (.cells #[.int .i64 f, .slice la ln lc] 89))
    have hRL := RL_2.out.later (balloc w2 (.cells #[.int .i64 f, .slice la ln lc] 89))
    have hRT := RT_2.out.later (balloc w2 (.cells #[.int .i64 f, .slice la ln lc] 89))
    have hA := A_2.out.later (balloc w2 (.cells #[.int .i64 f, .slice la ln lc] 89))
    have hC := x2_new w2 (.int .i64 f) (.slice la ln lc) 89 w2.heap.size rfl
    have hz : (w2.alloc (.cells #[.int .i64 f, .slice la ln lc] 89)).heap.size = w2.heap.size + 1 := by simp
    obtain ⟨w3, hV3⟩ : ∃ V, w2.alloc (.cells #[.int .i64 f, .slice la ln lc] 89) = V := ⟨_, rfl⟩
    rw [hV3] at hHB hRS hRL hRT hA hC hz
    have HB_3 : Hid (Below w.heap.size w w3) := hHB
    have RS_3 : Hid (RdII w3 sa sg) := hRS
    have RL_3 : Hid (Rd w3 la li) := hRL
    have RT_3 : Hid (Rd w3 ta ls) := hRT
    have A_3 : Hid (X5 w3 w.heap.size (.int .i64 f) (.int .i64 e) (.slice sa sn sc) (.slice la ln lc) (.slice ta tn tc)) := hA
    have C_3 : Hid (X2 w3 w2.heap.size (.int .i64 f) (.slice la ln lc)) := hC
    have z3 : w2.heap.size + 1 ≤ w3.heap.size := by omega
    clear HB_2 RS_2 RL_2 RT_2 A_2 hHB hRS hRL hRT hA hC hz
    obtain ⟨⟨Cq0, Cq1⟩, Cf⟩ := id (C_3.out)
    clear Cf
    go_wp2_with fail
    clear hV3
    refine (q1 _ RL_3.out).mono ?_
    clear Cq0 Cq1
    rintro e w4 ⟨rfl, hb⟩
    have hB : Below w3.heap.size w3 w4 := hb
    have HB_4 : Hid (Below w.heap.size w w4) := HB_3.out.trans (hB.mono HB_3.out.size)
    have RS_4 : Hid (RdII w4 sa sg) := RS_3.out.later hB
    have RL_4 : Hid (Rd w4 la li) := RL_3.out.later hB
    have RT_4 : Hid (Rd w4 ta ls) := RT_3.out.later hB
    have A_4 : Hid (X5 w4 w.heap.size (.int .i64 f) (.int .i64 e) (.slice sa sn sc) (.slice la ln lc) (.slice ta tn tc)) := A_3.out.later hB
    have C_4 : Hid (X2 w4 w2.heap.size (.int .i64 f) (.slice la ln lc)) := C_3.out.later hB
    have z4 : w3.heap.size ≤ w4.heap.size := hB.size
    clear hb hB HB_3 RS_3 RL_3 RT_3 A_3 C_3 
    obtain ⟨⟨Aq0, Aq1, Aq2, Aq3, Aq4⟩, Af⟩ := id (A_4.out)
    clear Af
    go_wp2_with fail
    refine (q2 _).mono ?_
    clear Aq0 Aq1 Aq2 Aq3 Aq4
    rintro e w' ⟨rfl, hw⟩
    subst w'
    go_wp2
    go_ret
    exact ⟨rfl, HB_4.out⟩
  rw [Bool.true_and]
  rw [h2] at q2
  cases h3 : lstB ls
  · rw [Bool.false_and]
    rw [h3] at q3
    clear h1 h2 h3 hf h0 h2' hs hl ht
    have HB_0 : Hid (Below w.heap.size w w) := Below.refl _ _
    have RS_0 : Hid (RdII w sa sg) := hrs
    have RL_0 : Hid (Rd w la li) := hrl
    have RT_0 : Hid (Rd w ta ls) := hrt
    clear hrs hrl hrt
    have hHB := HB_0.out.alloc HB_0.out.size (.cells #[.int .i64 f, .int .i64 e, .slice sa sn sc, .slice la ln lc, .slice ta tn tc] 29)
    have hRS := RS_0.out.later (balloc w (.cells #[.int .i64 f, .int .i64 e, .slice sa sn sc, .slice la ln lc, .slice ta tn tc] 29))
    have hRL := RL_0.out.later (balloc w (.cells #[.int .i64 f, .int .i64 e, .slice sa sn sc, .slice la ln lc, .slice ta tn tc] 29))
    have hRT := RT_0.out.later (balloc w (.cells #[.int .i64 f, .int .i64 e, .slice sa sn sc, .slice la ln lc, .slice ta tn tc] 29))
    have hA := x5_new w (.int .i64 f) (.int .i64 e) (.slice sa sn sc) (.slice la ln lc) (.slice ta tn tc) 29 w.heap.size rfl
    have hz : (w.alloc (.cells #[.int .i64 f, .int .i64 e, .slice sa sn sc, .slice la ln lc, .slice ta tn tc] 29)).heap.size = w.heap.size + 1 := by simp
    obtain ⟨w1, hV1⟩ : ∃ V, w.alloc (.cells #[.int .i64 f, .int .i64 e, .slice sa sn sc, .slice la ln lc, .slice ta tn tc] 29) = V := ⟨_, rfl⟩
    rw [hV1] at hHB hRS hRL hRT hA hz
    have HB_1 : Hid (Below w.heap.size w w1) := hHB
    have RS_1 : Hid (RdII w1 sa sg) := hRS
    have RL_1 : Hid (Rd w1 la li) := hRL
    have RT_1 : Hid (Rd w1 ta ls) := hRT
    have A_1 : Hid (X5 w1 w.heap.size (.int .i64 f) (.int .i64 e) (.slice sa sn sc) (.slice la ln lc) (.slice ta tn tc)) := hA
    have z1 : w.heap.size + 1 ≤ w1.heap.size := by omega
    clear HB_0 RS_0 RL_0 RT_0 hHB hRS hRL hRT hA hz
    go_enter Try.func17, Try.ntmps17
    obtain ⟨⟨Aq0, Aq1, Aq2, Aq3, Aq4⟩, Af⟩ := id (A_1.out)
    clear Af
    go_wp2_with fail
    clear hV1
    refine (councilOf_c f e sa sn sc la ln lc ta tn tc _).mono ?_
    clear Aq0 Aq1 Aq2 Aq3 Aq4
    rintro e w2 ⟨rfl, hb⟩
    have hB : Below w1.heap.size w1 w2 := hb
    have HB_2 : Hid (Below w.heap.size w w2) := HB_1.out.trans (hB.mono HB_1.out.size)
    have RS_2 : Hid (RdII w2 sa sg) := RS_1.out.later hB
    have RL_2 : Hid (Rd w2 la li) := RL_1.out.later hB
    have RT_2 : Hid (Rd w2 ta ls) := RT_1.out.later hB
    have A_2 : Hid (X5 w2 w.heap.size (.int .i64 f) (.int .i64 e) (.slice sa sn sc) (.slice la ln lc) (.slice ta tn tc)) := A_1.out.later hB
    have z2 : w1.heap.size ≤ w2.heap.size := hB.size
    clear hb hB HB_1 RS_1 RL_1 RT_1 A_1 
    have hHB := HB_2.out.alloc HB_2.out.size (.cells #[.int .i64 f, .slice la ln lc] 89)
    have hRS := RS_2.out.later (balloc w2 (.cells #[.int .i64 f, .slice la ln lc] 89))
    have hRL := RL_2.out.later (balloc w2 (.cells #[.int .i64 f, .slice la ln lc] 89))
    have hRT := RT_2.out.later (balloc w2 (.cells #[.int .i64 f, .slice la ln lc] 89))
    have hA := A_2.out.later (balloc w2 (.cells #[.int .i64 f, .slice la ln lc] 89))
    have hC := x2_new w2 (.int .i64 f) (.slice la ln lc) 89 w2.heap.size rfl
    have hz : (w2.alloc (.cells #[.int .i64 f, .slice la ln lc] 89)).heap.size = w2.heap.size + 1 := by simp
    obtain ⟨w3, hV3⟩ : ∃ V, w2.alloc (.cells #[.int .i64 f, .slice la ln lc] 89) = V := ⟨_, rfl⟩
    rw [hV3] at hHB hRS hRL hRT hA hC hz
    have HB_3 : Hid (Below w.heap.size w w3) := hHB
    have RS_3 : Hid (RdII w3 sa sg) := hRS
    have RL_3 : Hid (Rd w3 la li) := hRL
    have RT_3 : Hid (Rd w3 ta ls) := hRT
    have A_3 : Hid (X5 w3 w.heap.size (.int .i64 f) (.int .i64 e) (.slice sa sn sc) (.slice la ln lc) (.slice ta tn tc)) := hA
    have C_3 : Hid (X2 w3 w2.heap.size (.int .i64 f) (.slice la ln lc)) := hC
    have z3 : w2.heap.size + 1 ≤ w3.heap.size := by omega
    clear HB_2 RS_2 RL_2 RT_2 A_2 hHB hRS hRL hRT hA hC hz
    obtain ⟨⟨Cq0, Cq1⟩, Cf⟩ := id (C_3.out)
    clear Cf
    go_wp2_with fail
    clear hV3
    refine (q1 _ RL_3.out).mono ?_
    clear Cq0 Cq1
    rintro e w4 ⟨rfl, hb⟩
    have hB : Below w3.heap.size w3 w4 := hb
    have HB_4 : Hid (Below w.heap.size w w4) := HB_3.out.trans (hB.mono HB_3.out.size)
    have RS_4 : Hid (RdII w4 sa sg) := RS_3.out.later hB
    have RL_4 : Hid (Rd w4 la li) := RL_3.out.later hB
    have RT_4 : Hid (Rd w4 ta ls) := RT_3.out.later hB
    have A_4 : Hid (X5 w4 w.heap.size (.int .i64 f) (.int .i64 e) (.slice sa sn sc) (.slice la ln lc) (.slice ta tn tc)) := A_3.out.later hB
    have C_4 : Hid (X2 w4 w2.heap.size (.int .i64 f) (.slice la ln lc)) := C_3.out.later hB
    have z4 : w3.heap.size ≤ w4.heap.size := hB.size
    clear hb hB HB_3 RS_3 RL_3 RT_3 A_3 C_3 
    obtain ⟨⟨Aq0, Aq1, Aq2, Aq3, Aq4⟩, Af⟩ := id (A_4.out)
    clear Af
    go_wp2_with fail
    refine (q2 _).mono ?_
    clear Aq0 Aq1 Aq2 Aq3 Aq4
    rintro e w' ⟨rfl, hw⟩
    subst w'
    obtain ⟨⟨Aq0, Aq1, Aq2, Aq3, Aq4⟩, Af⟩ := id (A_4.out)
    clear Af
    go_wp2_with fail
    refine (q3 _ RT_4.out).mono ?_
    clear Aq0 Aq1 Aq2 Aq3 Aq4
    rintro e w5 ⟨rfl, hb⟩
    have hB : Below w4.heap.size w4 w5 := hb
    have HB_5 : Hid (Below w.heap.size w w5) := HB_4.out.trans (hB.mono HB_4.out.size)
    have RS_5 : Hid (RdII w5 sa sg) := RS_4.out.later hB
    have RL_5 : Hid (Rd w5 la li) := RL_4.out.later hB
    have RT_5 : Hid (Rd w5 ta ls) := RT_4.out.later hB
    have A_5 : Hid (X5 w5 w.heap.size (.int .i64 f) (.int .i64 e) (.slice sa sn sc) (.slice la ln lc) (.slice ta tn tc)) := A_4.out.later hB
    have C_5 : Hid (X2 w5 w2.heap.size (.int .i64 f) (.slice la ln lc)) := C_4.out.later hB
    have z5 : w4.heap.size ≤ w5.heap.size := hB.size
    clear hb hB HB_4 RS_4 RL_4 RT_4 A_4 C_4 
    go_wp2
    go_ret
    exact ⟨rfl, HB_5.out⟩
  rw [Bool.true_and]
  rw [h3] at q3
  have q4 := fun wx (h : RdII wx sa sg) => fewSig_c f (.slice la ln lc) sa sn sc sg wx h0 h2' hs (by omega) h
  cases h4 : sgsB f sg
  · rw [Bool.false_and]
    rw [h4] at q4
    clear h1 h2 h3 h4 hf h0 h2' hs hl ht
    have HB_0 : Hid (Below w.heap.size w w) := Below.refl _ _
    have RS_0 : Hid (RdII w sa sg) := hrs
    have RL_0 : Hid (Rd w la li) := hrl
    have RT_0 : Hid (Rd w ta ls) := hrt
    clear hrs hrl hrt
    have hHB := HB_0.out.alloc HB_0.out.size (.cells #[.int .i64 f, .int .i64 e, .slice sa sn sc, .slice la ln lc, .slice ta tn tc] 29)
    have hRS := RS_0.out.later (balloc w (.cells #[.int .i64 f, .int .i64 e, .slice sa sn sc, .slice la ln lc, .slice ta tn tc] 29))
    have hRL := RL_0.out.later (balloc w (.cells #[.int .i64 f, .int .i64 e, .slice sa sn sc, .slice la ln lc, .slice ta tn tc] 29))
    have hRT := RT_0.out.later (balloc w (.cells #[.int .i64 f, .int .i64 e, .slice sa sn sc, .slice la ln lc, .slice ta tn tc] 29))
    have hA := x5_new w (.int .i64 f) (.int .i64 e) (.slice sa sn sc) (.slice la ln lc) (.slice ta tn tc) 29 w.heap.size rfl
    have hz : (w.alloc (.cells #[.int .i64 f, .int .i64 e, .slice sa sn sc, .slice la ln lc, .slice ta tn tc] 29)).heap.size = w.heap.size + 1 := by simp
    obtain ⟨w1, hV1⟩ : ∃ V, w.alloc (.cells #[.int .i64 f, .int .i64 e, .slice sa sn sc, .slice la ln lc, .slice ta tn tc] 29) = V := ⟨_, rfl⟩
    rw [hV1] at hHB hRS hRL hRT hA hz
    have HB_1 : Hid (Below w.heap.size w w1) := hHB
    have RS_1 : Hid (RdII w1 sa sg) := hRS
    have RL_1 : Hid (Rd w1 la li) := hRL
    have RT_1 : Hid (Rd w1 ta ls) := hRT
    have A_1 : Hid (X5 w1 w.heap.size (.int .i64 f) (.int .i64 e) (.slice sa sn sc) (.slice la ln lc) (.slice ta tn tc)) := hA
    have z1 : w.heap.size + 1 ≤ w1.heap.size := by omega
    clear HB_0 RS_0 RL_0 RT_0 hHB hRS hRL hRT hA hz
    go_enter Try.func17, Try.ntmps17
    obtain ⟨⟨Aq0, Aq1, Aq2, Aq3, Aq4⟩, Af⟩ := id (A_1.out)
    clear Af
    go_wp2_with fail
    clear hV1
    refine (councilOf_c f e sa sn sc la ln lc ta tn tc _).mono ?_
    clear Aq0 Aq1 Aq2 Aq3 Aq4
    rintro e w2 ⟨rfl, hb⟩
    have hB : Below w1.heap.size w1 w2 := hb
    have HB_2 : Hid (Below w.heap.size w w2) := HB_1.out.trans (hB.mono HB_1.out.size)
    have RS_2 : Hid (RdII w2 sa sg) := RS_1.out.later hB
    have RL_2 : Hid (Rd w2 la li) := RL_1.out.later hB
    have RT_2 : Hid (Rd w2 ta ls) := RT_1.out.later hB
    have A_2 : Hid (X5 w2 w.heap.size (.int .i64 f) (.int .i64 e) (.slice sa sn sc) (.slice la ln lc) (.slice ta tn tc)) := A_1.out.later hB
    have z2 : w1.heap.size ≤ w2.heap.size := hB.size
    clear hb hB HB_1 RS_1 RL_1 RT_1 A_1 
    have hHB := HB_2.out.alloc HB_2.out.size (.cells #[.int .i64 f, .slice la ln lc] 89)
    have hRS := RS_2.out.later (balloc w2 (.cells #[.int .i64 f, .slice la ln lc] 89))
    have hRL := RL_2.out.later (balloc w2 (.cells #[.int .i64 f, .slice la ln lc] 89))
    have hRT := RT_2.out.later (balloc w2 (.cells #[.int .i64 f, .slice la ln lc] 89))
    have hA := A_2.out.later (balloc w2 (.cells #[.int .i64 f, .slice la ln lc] 89))
    have hC := x2_new w2 (.int .i64 f) (.slice la ln lc) 89 w2.heap.size rfl
    have hz : (w2.alloc (.cells #[.int .i64 f, .slice la ln lc] 89)).heap.size = w2.heap.size + 1 := by simp
    obtain ⟨w3, hV3⟩ : ∃ V, w2.alloc (.cells #[.int .i64 f, .slice la ln lc] 89) = V := ⟨_, rfl⟩
    rw [hV3] at hHB hRS hRL hRT hA hC hz
    have HB_3 : Hid (Below w.heap.size w w3) := hHB
    have RS_3 : Hid (RdII w3 sa sg) := hRS
    have RL_3 : Hid (Rd w3 la li) := hRL
    have RT_3 : Hid (Rd w3 ta ls) := hRT
    have A_3 : Hid (X5 w3 w.heap.size (.int .i64 f) (.int .i64 e) (.slice sa sn sc) (.slice la ln lc) (.slice ta tn tc)) := hA
    have C_3 : Hid (X2 w3 w2.heap.size (.int .i64 f) (.slice la ln lc)) := hC
    have z3 : w2.heap.size + 1 ≤ w3.heap.size := by omega
    clear HB_2 RS_2 RL_2 RT_2 A_2 hHB hRS hRL hRT hA hC hz
    obtain ⟨⟨Cq0, Cq1⟩, Cf⟩ := id (C_3.out)
    clear Cf
    go_wp2_with fail
    clear hV3
    refine (q1 _ RL_3.out).mono ?_
    clear Cq0 Cq1
    rintro e w4 ⟨rfl, hb⟩
    have hB : Below w3.heap.size w3 w4 := hb
    have HB_4 : Hid (Below w.heap.size w w4) := HB_3.out.trans (hB.mono HB_3.out.size)
    have RS_4 : Hid (RdII w4 sa sg) := RS_3.out.later hB
    have RL_4 : Hid (Rd w4 la li) := RL_3.out.later hB
    have RT_4 : Hid (Rd w4 ta ls) := RT_3.out.later hB
    have A_4 : Hid (X5 w4 w.heap.size (.int .i64 f) (.int .i64 e) (.slice sa sn sc) (.slice la ln lc) (.slice ta tn tc)) := A_3.out.later hB
    have C_4 : Hid (X2 w4 w2.heap.size (.int .i64 f) (.slice la ln lc)) := C_3.out.later hB
    have z4 : w3.heap.size ≤ w4.heap.size := hB.size
    clear hb hB HB_3 RS_3 RL_3 RT_3 A_3 C_3 
    obtain ⟨⟨Aq0, Aq1, Aq2, Aq3, Aq4⟩, Af⟩ := id (A_4.out)
    clear Af
    go_wp2_with fail
    refine (q2 _).mono ?_
    clear Aq0 Aq1 Aq2 Aq3 Aq4
    rintro e w' ⟨rfl, hw⟩
    subst w'
    obtain ⟨⟨Aq0, Aq1, Aq2, Aq3, Aq4⟩, Af⟩ := id (A_4.out)
    clear Af
    go_wp2_with fail
    refine (q3 _ RT_4.out).mono ?_
    clear Aq0 Aq1 Aq2 Aq3 Aq4
    rintro e w5 ⟨rfl, hb⟩
    have hB : Below w4.heap.size w4 w5 := hb
    have HB_5 : Hid (Below w.heap.size w w5) := HB_4.out.trans (hB.mono HB_4.out.size)
    have RS_5 : Hid (RdII w5 sa sg) := RS_4.out.later hB
    have RL_5 : Hid (Rd w5 la li) := RL_4.out.later hB
    have RT_5 : Hid (Rd w5 ta ls) := RT_4.out.later hB
    have A_5 : Hid (X5 w5 w.heap.size (.int .i64 f) (.int .i64 e) (.slice sa sn sc) (.slice la ln lc) (.slice ta tn tc)) := A_4.out.later hB
    have C_5 : Hid (X2 w5 w2.heap.size (.int .i64 f) (.slice la ln lc)) := C_4.out.later hB
    have z5 : w4.heap.size ≤ w5.heap.size := hB.size
    clear hb hB HB_4 RS_4 RL_4 RT_4 A_4 C_4 
    obtain ⟨⟨Aq0, Aq1, Aq2, Aq3, Aq4⟩, Af⟩ := id (A_5.out)
    clear Af
    obtain ⟨⟨Cq0, Cq1⟩, Cf⟩ := id (C_5.out)
    clear Cf
    go_wp2_with fail
    refine (q4 _ RS_5.out).mono ?_
    clear Aq0 Aq1 Aq2 Aq3 Aq4
    clear Cq0 Cq1
    rintro e w6 ⟨rfl, hb⟩
    have hB : Below w5.heap.size w5 w6 := hb
    have HB_6 : Hid (Below w.heap.size w w6) := HB_5.out.trans (hB.mono HB_5.out.size)
    have RS_6 : Hid (RdII w6 sa sg) := RS_5.out.later hB
    have RL_6 : Hid (Rd w6 la li) := RL_5.out.later hB
    have RT_6 : Hid (Rd w6 ta ls) := RT_5.out.later hB
    have A_6 : Hid (X5 w6 w.heap.size (.int .i64 f) (.int .i64 e) (.slice sa sn sc) (.slice la ln lc) (.slice ta tn tc)) := A_5.out.later hB
    have C_6 : Hid (X2 w6 w2.heap.size (.int .i64 f) (.slice la ln lc)) := C_5.out.later hB
    have z6 : w5.heap.size ≤ w6.heap.size := hB.size
    clear hb hB HB_5 RS_5 RL_5 RT_5 A_5 C_5 
    go_wp2
    go_ret
    exact ⟨rfl, HB_6.out⟩
  rw [Bool.true_and]
  rw [h4] at q4
  obtain ⟨N, hN⟩ : ∃ N : Nat, 3 * f + 1 = (N : Int) := ⟨(3 * f + 1).toNat, by omega⟩
  have hN7 : N ≤ 7 := by omega
  have hkp := kept_iff (li := li) hN h4
  have HSI : Hid (∀ ep wx, RdII wx sa sg → Calls Try.prog 63 #[.agg #[.int .i64 f, .int .i64 e, .slice sa sn sc, .slice la ln lc, .slice ta tn tc], .int .i64 ep] wx fun x w' => ∃ g, x = .returned (.agg #[.int .i64 f, .slice la ln lc, .slice (some ⟨g, 0, none⟩) N N]) ∧ RdII w' (some ⟨g, 0, none⟩) (sitL N ep sg) ∧ Below wx.heap.size wx w') := fun ep wx h => sittingIn_c f e sa sn sc la ln lc ta tn tc ep N sg wx h0 h2' hN hs h h4
  have HKE : Hid (∀ ep g wx, Rd wx la li → RdII wx (some ⟨g, 0, none⟩) (sitL N ep sg) → Calls Try.prog 64 #[.agg #[.int .i64 f, .slice la ln lc, .slice (some ⟨g, 0, none⟩) N N]] wx fun e w' => e = .returned (.bool (keptAt N li ep sg)) ∧ Below wx.heap.size wx w') := fun ep g wx h h' => by
    rw [keptAt_X]
    exact isKept_c f la ln lc _ N li (sitL N ep sg) wx hl hl3 h hlR (sitL_length _ _ _) hN7 h' (sitL_ris _ _ _) (sitL_len (sgsB_all h4).1)
  have HF : Hid (∀ k, k < 21 → keptAt N li (k : Nat) sg = false → keptB li sg = false) := fun k hk h => by rw [hkp]; exact all_range_false hk h
  have HE : Hid ((∀ j, j < 21 → keptAt N li (j : Nat) sg = true) → keptB li sg = true) := fun h => by rw [hkp]; exact all_range_true h
  generalize keptB li sg = zb at HF HE ⊢
  clear h1 h2 h3 h4 hf h0 h2' hs hl ht hkp hlR
  have HB_0 : Hid (Below w.heap.size w w) := Below.refl _ _
  have RS_0 : Hid (RdII w sa sg) := hrs
  have RL_0 : Hid (Rd w la li) := hrl
  have RT_0 : Hid (Rd w ta ls) := hrt
  clear hrs hrl hrt
  have hHB := HB_0.out.alloc HB_0.out.size (.cells #[.int .i64 f, .int .i64 e, .slice sa sn sc, .slice la ln lc, .slice ta tn tc] 29)
  have hRS := RS_0.out.later (balloc w (.cells #[.int .i64 f, .int .i64 e, .slice sa sn sc, .slice la ln lc, .slice ta tn tc] 29))
  have hRL := RL_0.out.later (balloc w (.cells #[.int .i64 f, .int .i64 e, .slice sa sn sc, .slice la ln lc, .slice ta tn tc] 29))
  have hRT := RT_0.out.later (balloc w (.cells #[.int .i64 f, .int .i64 e, .slice sa sn sc, .slice la ln lc, .slice ta tn tc] 29))
  have hA := x5_new w (.int .i64 f) (.int .i64 e) (.slice sa sn sc) (.slice la ln lc) (.slice ta tn tc) 29 w.heap.size rfl
  have hz : (w.alloc (.cells #[.int .i64 f, .int .i64 e, .slice sa sn sc, .slice la ln lc, .slice ta tn tc] 29)).heap.size = w.heap.size + 1 := by simp
  obtain ⟨w1, hV1⟩ : ∃ V, w.alloc (.cells #[.int .i64 f, .int .i64 e, .slice sa sn sc, .slice la ln lc, .slice ta tn tc] 29) = V := ⟨_, rfl⟩
  rw [hV1] at hHB hRS hRL hRT hA hz
  have HB_1 : Hid (Below w.heap.size w w1) := hHB
  have RS_1 : Hid (RdII w1 sa sg) := hRS
  have RL_1 : Hid (Rd w1 la li) := hRL
  have RT_1 : Hid (Rd w1 ta ls) := hRT
  have A_1 : Hid (X5 w1 w.heap.size (.int .i64 f) (.int .i64 e) (.slice sa sn sc) (.slice la ln lc) (.slice ta tn tc)) := hA
  have z1 : w.heap.size + 1 ≤ w1.heap.size := by omega
  clear HB_0 RS_0 RL_0 RT_0 hHB hRS hRL hRT hA hz
  go_enter Try.func17, Try.ntmps17
  obtain ⟨⟨Aq0, Aq1, Aq2, Aq3, Aq4⟩, Af⟩ := id (A_1.out)
  clear Af
  go_wp2_with fail
  clear hV1
  refine (councilOf_c f e sa sn sc la ln lc ta tn tc _).mono ?_
  clear Aq0 Aq1 Aq2 Aq3 Aq4
  rintro e w2 ⟨rfl, hb⟩
  have hB : Below w1.heap.size w1 w2 := hb
  have HB_2 : Hid (Below w.heap.size w w2) := HB_1.out.trans (hB.mono HB_1.out.size)
  have RS_2 : Hid (RdII w2 sa sg) := RS_1.out.later hB
  have RL_2 : Hid (Rd w2 la li) := RL_1.out.later hB
  have RT_2 : Hid (Rd w2 ta ls) := RT_1.out.later hB
  have A_2 : Hid (X5 w2 w.heap.size (.int .i64 f) (.int .i64 e) (.slice sa sn sc) (.slice la ln lc) (.slice ta tn tc)) := A_1.out.later hB
  have z2 : w1.heap.size ≤ w2.heap.size := hB.size
  clear hb hB HB_1 RS_1 RL_1 RT_1 A_1 
  have hHB := HB_2.out.alloc HB_2.out.size (.cells #[.int .i64 f, .slice la ln lc] 89)
  have hRS := RS_2.out.later (balloc w2 (.cells #[.int .i64 f, .slice la ln lc] 89))
  have hRL := RL_2.out.later (balloc w2 (.cells #[.int .i64 f, .slice la ln lc] 89))
  have hRT := RT_2.out.later (balloc w2 (.cells #[.int .i64 f, .slice la ln lc] 89))
  have hA := A_2.out.later (balloc w2 (.cells #[.int .i64 f, .slice la ln lc] 89))
  have hC := x2_new w2 (.int .i64 f) (.slice la ln lc) 89 w2.heap.size rfl
  have hz : (w2.alloc (.cells #[.int .i64 f, .slice la ln lc] 89)).heap.size = w2.heap.size + 1 := by simp
  obtain ⟨w3, hV3⟩ : ∃ V, w2.alloc (.cells #[.int .i64 f, .slice la ln lc] 89) = V := ⟨_, rfl⟩
  rw [hV3] at hHB hRS hRL hRT hA hC hz
  have HB_3 : Hid (Below w.heap.size w w3) := hHB
  have RS_3 : Hid (RdII w3 sa sg) := hRS
  have RL_3 : Hid (Rd w3 la li) := hRL
  have RT_3 : Hid (Rd w3 ta ls) := hRT
  have A_3 : Hid (X5 w3 w.heap.size (.int .i64 f) (.int .i64 e) (.slice sa sn sc) (.slice la ln lc) (.slice ta tn tc)) := hA
  have C_3 : Hid (X2 w3 w2.heap.size (.int .i64 f) (.slice la ln lc)) := hC
  have z3 : w2.heap.size + 1 ≤ w3.heap.size := by omega
  clear HB_2 RS_2 RL_2 RT_2 A_2 hHB hRS hRL hRT hA hC hz
  obtain ⟨⟨Cq0, Cq1⟩, Cf⟩ := id (C_3.out)
  clear Cf
  go_wp2_with fail
  clear hV3
  refine (q1 _ RL_3.out).mono ?_
  clear Cq0 Cq1
  rintro e w4 ⟨rfl, hb⟩
  have hB : Below w3.heap.size w3 w4 := hb
  have HB_4 : Hid (Below w.heap.size w w4) := HB_3.out.trans (hB.mono HB_3.out.size)
  have RS_4 : Hid (RdII w4 sa sg) := RS_3.out.later hB
  have RL_4 : Hid (Rd w4 la li) := RL_3.out.later hB
  have RT_4 : Hid (Rd w4 ta ls) := RT_3.out.later hB
  have A_4 : Hid (X5 w4 w.heap.size (.int .i64 f) (.int .i64 e) (.slice sa sn sc) (.slice la ln lc) (.slice ta tn tc)) := A_3.out.later hB
  have C_4 : Hid (X2 w4 w2.heap.size (.int .i64 f) (.slice la ln lc)) := C_3.out.later hB
  have z4 : w3.heap.size ≤ w4.heap.size := hB.size
  clear hb hB HB_3 RS_3 RL_3 RT_3 A_3 C_3 
  obtain ⟨⟨Aq0, Aq1, Aq2, Aq3, Aq4⟩, Af⟩ := id (A_4.out)
  clear Af
  go_wp2_with fail
  refine (q2 _).mono ?_
  clear Aq0 Aq1 Aq2 Aq3 Aq4
  rintro e w' ⟨rfl, hw⟩
  subst w'
  obtain ⟨⟨Aq0, Aq1, Aq2, Aq3, Aq4⟩, Af⟩ := id (A_4.out)
  clear Af
  go_wp2_with fail
  refine (q3 _ RT_4.out).mono ?_
  clear Aq0 Aq1 Aq2 Aq3 Aq4
  rintro e w5 ⟨rfl, hb⟩
  have hB : Below w4.heap.size w4 w5 := hb
  have HB_5 : Hid (Below w.heap.size w w5) := HB_4.out.trans (hB.mono HB_4.out.size)
  have RS_5 : Hid (RdII w5 sa sg) := RS_4.out.later hB
  have RL_5 : Hid (Rd w5 la li) := RL_4.out.later hB
  have RT_5 : Hid (Rd w5 ta ls) := RT_4.out.later hB
  have A_5 : Hid (X5 w5 w.heap.size (.int .i64 f) (.int .i64 e) (.slice sa sn sc) (.slice la ln lc) (.slice ta tn tc)) := A_4.out.later hB
  have C_5 : Hid (X2 w5 w2.heap.size (.int .i64 f) (.slice la ln lc)) := C_4.out.later hB
  have z5 : w4.heap.size ≤ w5.heap.size := hB.size
  clear hb hB HB_4 RS_4 RL_4 RT_4 A_4 C_4 
  obtain ⟨⟨Aq0, Aq1, Aq2, Aq3, Aq4⟩, Af⟩ := id (A_5.out)
  clear Af
  obtain ⟨⟨Cq0, Cq1⟩, Cf⟩ := id (C_5.out)
  clear Cf
  go_wp2_with fail
  refine (q4 _ RS_5.out).mono ?_
  clear Aq0 Aq1 Aq2 Aq3 Aq4
  clear Cq0 Cq1
  rintro e w6 ⟨rfl, hb⟩
  have hB : Below w5.heap.size w5 w6 := hb
  have HB_6 : Hid (Below w.heap.size w w6) := HB_5.out.trans (hB.mono HB_5.out.size)
  have RS_6 : Hid (RdII w6 sa sg) := RS_5.out.later hB
  have RL_6 : Hid (Rd w6 la li) := RL_5.out.later hB
  have RT_6 : Hid (Rd w6 ta ls) := RT_5.out.later hB
  have A_6 : Hid (X5 w6 w.heap.size (.int .i64 f) (.int .i64 e) (.slice sa sn sc) (.slice la ln lc) (.slice ta tn tc)) := A_5.out.later hB
  have C_6 : Hid (X2 w6 w2.heap.size (.int .i64 f) (.slice la ln lc)) := C_5.out.later hB
  have z6 : w5.heap.size ≤ w6.heap.size := hB.size
  clear hb hB HB_5 RS_5 RL_5 RT_5 A_5 C_5 
  go_wp2
  go_loopw [30] (fun iv wr => ∃ (k : Nat), k ≤ 21 ∧ iv = .int .i64 k ∧ Hid (∀ j, j < k → keptAt N li (j : Nat) sg = true) ∧ Hid (Below w6.heap.size w6 wr)) (fun iv _ => 21 - (intOf iv).toNat)
  case atStart => exact ⟨0, Nat.zero_le _, rfl, fun j h => absurd h (by omega), Below.refl _ _⟩
  case round =>
    obtain ⟨k, hk, rfl, HP, HBR⟩ := hrel
    by_cases hlt : k < 21
    · have k0 : (0 : Int) ≤ (k : Int) := by omega
      have k1 : (k : Int) < 21 := by omega
      obtain ⟨⟨a0, a1, a2, a3, a4⟩, _⟩ := A_6.out.later HBR.out
      have HSk : Hid (keptAt N li (k : Nat) sg = true → ∀ j, j < k + 1 → keptAt N li (j : Nat) sg = true) := fun h j hj => by
        by_cases e : j = k
        · rw [e]; exact h
        · exact HP.out j (by omega)
      have HFk : Hid (keptAt N li (k : Nat) sg = false → zb = false) := HF.out k hlt
      have HKk : Hid (∀ g wx, Rd wx la li → RdII wx (some ⟨g, 0, none⟩) (sitL N (k : Int) sg) → Calls Try.prog 64 #[.agg #[.int .i64 f, .slice la ln lc, .slice (some ⟨g, 0, none⟩) N N]] wx fun e w' => e = .returned (.bool (keptAt N li (k : Nat) sg)) ∧ Below wx.heap.size wx w') := HKE.out (k : Int)
      go_wp2_with fail
      refine (HSI.out (k : Int) _ (RS_6.out.later HBR.out)).mono ?_
      rintro e w8 ⟨g, rfl, hri, hb⟩
      have HB8 : Hid (Below w6.heap.size w6 w8) := HBR.out.trans (hb.mono HBR.out.size)
      have q := HKk.out g w8 (RL_6.out.later HB8.out) hri
      clear hri hb HKk a0 a1 a2 a3 a4
      cases hz : keptAt N li (k : Nat) sg
      · have HN : Hid (zb = false) := HFk.out hz
        rw [hz] at q
        clear hz HFk HSk
        go_wp2_with fail
        refine q.mono ?_
        clear q
        rintro e w9 ⟨rfl, hb⟩
        go_wp2
        go_ret
        exact ⟨ret_bool HN.out.symm, HB_6.out.trans ((HB8.out.trans (hb.mono HB8.out.size)).mono HB_6.out.size)⟩
      · have HN : Hid (∀ j, j < k + 1 → keptAt N li (j : Nat) sg = true) := HSk.out hz
        rw [hz] at q
        clear hz HFk HSk
        go_wp2_with fail
        refine q.mono ?_
        clear q
        rintro e w9 ⟨rfl, hb⟩
        go_wp2
        exact ⟨⟨k + 1, by omega, by go_num, HN, HB8.out.trans (hb.mono HB8.out.size)⟩, by simp [intOf]; omega⟩
    · obtain rfl : k = 21 := by omega
      have HM : Hid (zb = true) := HE.out HP.out
      go_wp2
      go_ret
      exact ⟨ret_bool HM.out.symm, HB_6.out.trans (HBR.out.mono HB_6.out.size)⟩

end Go.Proofs.Ytaokmjbhgkfnfaa
