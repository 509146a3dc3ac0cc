/- Chapter 13: l13Step of the specification: steps that are done; whole. -/
import Derived.Test.YtaokmjbhgkfnfaaSL13s
namespace Go.Proofs.Ytaokmjbhgkfnfaa
set_option linter.unusedVariables false
set_option maxRecDepth 1000000
set_option linter.unusedSimpArgs false
open Go.RowKit

/-- A signature is put behind the others; what else turns then, of what was there and is not of the board. -/
theorem OwnBd.pushW {w : World} {lo hi : Nat} {sa : Option Addr} {sn sc : Nat} {L T : Value} {b : BdV} (h : OwnBd w lo hi (.slice sa sn sc) L T b) (hs : hi ≤ w.heap.size) (hlo : lo ≤ w.heap.size) (hn : b.sg.length ≤ 1000) (x y z f e : Int) :
    ∃ g cap w', (∀ ty, (Builtin.append_ #[27, 27] ty #[.slice sa sn sc, .slice (some ⟨w.heap.size + 1, 0, none⟩) 1 1]).run Try.prog ((w.alloc (.cells #[.int .i64 x, .int .i64 y, .int .i64 z] 3)).alloc (.cells #[.slice (some ⟨w.heap.size, 0, none⟩) 3 3] 23)) = .ok (.slice (some ⟨g, 0, none⟩) (b.sg.length + 1) cap) w') ∧ (∀ w2, RngP (fun k => hi ≤ k ∧ k < w.heap.size) w' w2 → OwnBd w2 lo w2.heap.size (.slice (some ⟨g, 0, none⟩) (b.sg.length + 1) cap) L T ⟨f, e, b.sg ++ [[x, y, z]], b.li, b.ls⟩) ∧ RngP (fun k => lo ≤ k ∧ k < hi) w w' := by
  have hb := balloc w (.cells #[.int .i64 x, .int .i64 y, .int .i64 z] 3)
  have hsz : (w.alloc (.cells #[.int .i64 x, .int .i64 y, .int .i64 z] 3)).heap.size = w.heap.size + 1 := by simp
  obtain ⟨pp, h1, h2, h3, h4⟩ := h.ex
  have hu : Own (w.alloc (.cells #[.int .i64 x, .int .i64 y, .int .i64 z] 3)) w.heap.size (.slice (some ⟨w.heap.size, 0, none⟩) 3 3) [x, y, z] :=
    ⟨rfl, .inr ⟨w.heap.size, 3, #[.int .i64 x, .int .i64 y, .int .i64 z], rfl, Nat.le_refl _, (by show (w.heap.push _)[w.heap.size]? = _; simp), Nat.le_refl _, by unfold maxLen; omega, rfl, rfl⟩⟩
  obtain ⟨g, cap, w', r1, o1, rg⟩ := pushIP_run (w.alloc (.cells #[.int .i64 x, .int .i64 y, .int .i64 z] 3)) lo pp (.slice sa sn sc) b.sg (some ⟨w.heap.size, 0, none⟩) 3 3 [x, y, z] (h1.later hb) (hu.mono hlo) (fun k hk hp => by simp only [Value.ownBlock, Option.some.injEq] at hk; have := h2 k hp; omega) (by omega) (by omega) (fun k hk => by have := h2 k hk; omega)
  rw [hsz] at r1 o1
  have hr0 : RngP pp w (w.alloc (.cells #[.int .i64 x, .int .i64 y, .int .i64 z] 3)) := ⟨hb.os, hb.tape, hb.output, hb.size, fun q hq _ => hb.block q hq⟩
  have hr := hr0.trans rg
  have hbd : ∀ k, (pp k ∨ (Value.slice (some ⟨w.heap.size, 0, none⟩) 3 3).ownBlock = some k ∨ k = w.heap.size + 1 + 1) → lo ≤ k := fun k hk => by
    rcases hk with hk | hk | hk
    · exact (h2 k hk).1
    · simp only [Value.ownBlock, Option.some.injEq] at hk; omega
    · omega
  refine ⟨g, cap, w', r1, fun w2 hq => ⟨⟨fun k => (pp k ∨ (Value.slice (some ⟨w.heap.size, 0, none⟩) 3 3).ownBlock = some k ∨ k = w.heap.size + 1 + 1) ∧ k < w'.heap.size, ?_, fun k hk => ⟨hbd k hk.1, by have := hq.size; omega⟩, fun k hk => ?_, fun k hk => ?_⟩, (h.li.rngP hr (fun k hk => (h3 k hk).1)).rngP hq (fun k hk e => by have := (h3 k hk).2; omega), (h.ls.rngP hr (fun k hk => (h4 k hk).1)).rngP hq (fun k hk e => by have := (h4 k hk).2; omega), h.sep⟩, hr.imp h2⟩
  · refine OwnIP.rng (qq := fun k => hi ≤ k ∧ k < w.heap.size) ?_ hq (fun k hk hq2 => ?_)
    rotate_left
    · rcases hk.1 with hk | hk | hk
      · have := h2 k hk; omega
      · simp only [Value.ownBlock, Option.some.injEq] at hk; omega
      · omega
    obtain ⟨vs, a1, a2, a3, a4, a5, a6⟩ := o1
    exact ⟨vs, a1, a2, a3, a4, fun k hk => ⟨a5 k hk, (World.ownsRow.lt a2 k hk).2⟩, fun j hj k hk => ⟨a6 j hj k hk, (World.ownsRow.lt (a3 j hj) k hk).2⟩⟩
  · refine ⟨fun hq => ?_, by have := (h3 k hk).2; have := hr.size; have := hq.size; omega⟩
    have h5 := (h3 k hk).2
    rcases hq.1 with hq | hq | hq
    · exact (h3 k hk).1 hq
    · simp only [Value.ownBlock, Option.some.injEq] at hq; omega
    · omega
  · refine ⟨fun hq => ?_, by have := (h4 k hk).2; have := hr.size; have := hq.size; omega⟩
    have h5 := (h4 k hk).2
    rcases hq.1 with hq | hq | hq
    · exact (h4 k hk).1 hq
    · simp only [Value.ownBlock, Option.some.injEq] at hq; omega
    · omega

set_option maxHeartbeats 4000000 in
theorem l13Step_p (f e : Int) (sa : Option Addr) (sn sc : Nat) (la : Option Addr) (ln lc : Nat) (ta : Option Addr) (tn tc : Nat) (sg : List (List Int)) (li ls : List Int) (k m l : Int) (lo hi : Nat) (w : World) (hg : goodBd ⟨f, e, sg, li, ls⟩ = true) (ho : OwnBd w lo hi (.slice sa sn sc) (.slice la ln lc) (.slice ta tn tc) ⟨f, e, sg, li, ls⟩) (hhi : hi ≤ w.heap.size) (hlo : lo ≤ hi) (hk : k = 1) (hm : m = 0) (hq1 : inB l 0 9 = true) (hq2 : decide (l ∈ ls) = false) :
    Calls Try.prog 54 #[.agg #[.int .i64 f, .int .i64 e, .slice sa sn sc, .slice la ln lc, .slice ta tn tc], .agg #[.int .i64 k, .int .i64 m, .int .i64 l]] w fun r w' => StOk r w w' lo hi ⟨f, e, sg, li, insL ltI l ls⟩ true := by
  have G := good_is hg
  have HS : Hid (sg.length = sn) := ho.rd.sl
  have HL : Hid (li.length = ln) := ho.rd.ll
  have HT : Hid (ls.length = tn) := ho.rd.tl
  have hsn : sn ≤ 200 := by rw [← HS.out]; exact (sgsB_all G.sgOk).1
  have hln : ln ≤ 2 := by have := G.ln; have := G.f2; rw [HL.out] at *; omega
  have htn : tn ≤ 10 := by rw [← HT.out]; exact G.tn
  have HG : Hid (sgsB f sg = true) := G.sgOk
  obtain ⟨M, hM⟩ : ∃ M, 3 * f + 1 = M := ⟨_, rfl⟩
  have hM1 : 1 ≤ M := by have := G.f0; omega
  have hM7 : M ≤ 7 := by have := G.f2; omega
  have q0 : ∀ wx, Calls Try.prog 31 #[.int .i64 f] wx fun e w' => e = .returned (.tuple #[.int .i64 M, .int .i64 (2 * f + 1), .bool true]) ∧ w' = wx := fun wx => by
    have h := specQuo_c f wx
    have h2 : inB f 0 2 = true := inB_iff.2 ⟨G.f0, G.f2⟩
    simp only [quoF, h2, if_true, hM] at h
    exact h
  have q1 := fun wx => l13List_c l wx
  rw [hq1] at q1
  have q2 := fun wx (h : Rd wx ta ls) => l1Has_c ta tn tc l ls wx HT.out (by omega) h
  rw [hq2] at q2
  have HNI : Hid (l ∉ ls) := of_decide_eq_false hq2
  subst hk
  subst hm
  clear G hg hM hq1 hq2 
  have HB_0 : Hid (Below w.heap.size w w) := Below.refl _ _
  have OB_0 : Hid (OwnBd w lo hi (.slice sa sn sc) (.slice la ln lc) (.slice ta tn tc) ⟨f, e, sg, li, ls⟩) := ho
  clear ho
  have hHB := HB_0.out.alloc HB_0.out.size (.cells #[.int .i64 f, .int .i64 e, .slice sa sn sc, .slice la ln lc, .slice ta tn tc] 29)
  have hOB := OB_0.out.later (balloc w (.cells #[.int .i64 f, .int .i64 e, .slice sa sn sc, .slice la ln lc, .slice ta tn tc] 29))
  have hA := x5_new w (.int .i64 f) (.int .i64 e) (.slice sa sn sc) (.slice la ln lc) (.slice ta tn tc) 29 w.heap.size rfl
  have hz : (w.alloc (.cells #[.int .i64 f, .int .i64 e, .slice sa sn sc, .slice la ln lc, .slice ta tn tc] 29)).heap.size = w.heap.size + 1 := by simp
  obtain ⟨w1, hV1⟩ : ∃ V, w.alloc (.cells #[.int .i64 f, .int .i64 e, .slice sa sn sc, .slice la ln lc, .slice ta tn tc] 29) = V := ⟨_, rfl⟩
  rw [hV1] at hHB hOB hA hz
  have HB_1 : Hid (Below w.heap.size w w1) := hHB
  have OB_1 : Hid (OwnBd w1 lo hi (.slice sa sn sc) (.slice la ln lc) (.slice ta tn tc) ⟨f, e, sg, li, ls⟩) := hOB
  have A_1 : Hid (X5 w1 w.heap.size (.int .i64 f) (.int .i64 e) (.slice sa sn sc) (.slice la ln lc) (.slice ta tn tc)) := hA
  have z1 : w.heap.size + 1 ≤ w1.heap.size := by omega
  clear HB_0 OB_0 hHB hOB hA hz
  have hHB := HB_1.out.alloc HB_1.out.size (.cells #[.int .i64 1, .int .i64 0, .int .i64 l] 40)
  have hOB := OB_1.out.later (balloc w1 (.cells #[.int .i64 1, .int .i64 0, .int .i64 l] 40))
  have hA := A_1.out.later (balloc w1 (.cells #[.int .i64 1, .int .i64 0, .int .i64 l] 40))
  have hB := x3_new w1 (.int .i64 1) (.int .i64 0) (.int .i64 l) 40 w1.heap.size rfl
  have hz : (w1.alloc (.cells #[.int .i64 1, .int .i64 0, .int .i64 l] 40)).heap.size = w1.heap.size + 1 := by simp
  obtain ⟨w2, hV2⟩ : ∃ V, w1.alloc (.cells #[.int .i64 1, .int .i64 0, .int .i64 l] 40) = V := ⟨_, rfl⟩
  rw [hV2] at hHB hOB hA hB hz
  have HB_2 : Hid (Below w.heap.size w w2) := hHB
  have OB_2 : Hid (OwnBd w2 lo hi (.slice sa sn sc) (.slice la ln lc) (.slice ta tn tc) ⟨f, e, sg, li, ls⟩) := hOB
  have A_2 : Hid (X5 w2 w.heap.size (.int .i64 f) (.int .i64 e) (.slice sa sn sc) (.slice la ln lc) (.slice ta tn tc)) := hA
  have B_2 : Hid (X3 w2 w1.heap.size (.int .i64 1) (.int .i64 0) (.int .i64 l)) := hB
  have z2 : w1.heap.size + 1 ≤ w2.heap.size := by omega
  clear HB_1 OB_1 A_1 hHB hOB hA hB hz
  have hHB := HB_2.out.alloc HB_2.out.size (.cells #[.int .i64 0, .int .i64 0, .slice none 0 0, .slice none 0 0, .slice none 0 0] 29)
  have hOB := OB_2.out.later (balloc w2 (.cells #[.int .i64 0, .int .i64 0, .slice none 0 0, .slice none 0 0, .slice none 0 0] 29))
  have hA := A_2.out.later (balloc w2 (.cells #[.int .i64 0, .int .i64 0, .slice none 0 0, .slice none 0 0, .slice none 0 0] 29))
  have hB := B_2.out.later (balloc w2 (.cells #[.int .i64 0, .int .i64 0, .slice none 0 0, .slice none 0 0, .slice none 0 0] 29))
  have hR := x5_new w2 (.int .i64 0) (.int .i64 0) (.slice none 0 0) (.slice none 0 0) (.slice none 0 0) 29 w2.heap.size rfl
  have hz : (w2.alloc (.cells #[.int .i64 0, .int .i64 0, .slice none 0 0, .slice none 0 0, .slice none 0 0] 29)).heap.size = w2.heap.size + 1 := by simp
  obtain ⟨w3, hV3⟩ : ∃ V, w2.alloc (.cells #[.int .i64 0, .int .i64 0, .slice none 0 0, .slice none 0 0, .slice none 0 0] 29) = V := ⟨_, rfl⟩
  rw [hV3] at hHB hOB hA hB hR hz
  have HB_3 : Hid (Below w.heap.size w w3) := hHB
  have OB_3 : Hid (OwnBd w3 lo hi (.slice sa sn sc) (.slice la ln lc) (.slice ta tn tc) ⟨f, e, sg, li, ls⟩) := hOB
  have A_3 : Hid (X5 w3 w.heap.size (.int .i64 f) (.int .i64 e) (.slice sa sn sc) (.slice la ln lc) (.slice ta tn tc)) := hA
  have B_3 : Hid (X3 w3 w1.heap.size (.int .i64 1) (.int .i64 0) (.int .i64 l)) := hB
  have R_3 : Hid (X5 w3 w2.heap.size (.int .i64 0) (.int .i64 0) (.slice none 0 0) (.slice none 0 0) (.slice none 0 0)) := hR
  have z3 : w2.heap.size + 1 ≤ w3.heap.size := by omega
  clear HB_2 OB_2 A_2 B_2 hHB hOB hA hB hR hz
  go_enter Try.func54, Try.ntmps54
  obtain ⟨⟨Aq0, Aq1, Aq2, Aq3, Aq4⟩, Af⟩ := id (A_3.out)
  clear Af
  go_wp2_with fail
  clear hV1 hV2 hV3
  refine (q0 _).mono ?_
  clear Aq0 Aq1 Aq2 Aq3 Aq4
  rintro e w' ⟨rfl, hw⟩
  subst w'
  obtain ⟨⟨Aq0, Aq1, Aq2, Aq3, Aq4⟩, Af⟩ := id (A_3.out)
  clear Af
  obtain ⟨⟨Bq0, Bq1, Bq2⟩, Bf⟩ := id (B_3.out)
  clear Bf
  go_wp2_with fail
  refine (q1 _).mono ?_
  clear Aq0 Aq1 Aq2 Aq3 Aq4
  clear Bq0 Bq1 Bq2
  rintro e w' ⟨rfl, hw⟩
  subst w'
  obtain ⟨⟨Aq0, Aq1, Aq2, Aq3, Aq4⟩, Af⟩ := id (A_3.out)
  clear Af
  obtain ⟨⟨Bq0, Bq1, Bq2⟩, Bf⟩ := id (B_3.out)
  clear Bf
  go_wp2_with fail
  refine (q2 _ OB_3.out.rd.t).mono ?_
  clear Aq0 Aq1 Aq2 Aq3 Aq4
  clear Bq0 Bq1 Bq2
  rintro e w' ⟨rfl, hw⟩
  subst w'
  obtain ⟨⟨Aq0, Aq1, Aq2, Aq3, Aq4⟩, Af⟩ := id (A_3.out)
  clear Af
  obtain ⟨⟨Bq0, Bq1, Bq2⟩, Bf⟩ := id (B_3.out)
  clear Bf
  go_wp2_with fail
  refine (l1Put_c lo ta tn tc ls l _ HT.out (by omega) OB_3.out.ls HNI.out).mono ?_
  clear Aq0 Aq1 Aq2 Aq3 Aq4
  clear Bq0 Bq1 Bq2
  rintro e w4 ⟨a5, c5, rfl, hn5, hb⟩
  have hB : Below w3.heap.size w3 w4 := hb
  have HB_4 : Hid (Below w.heap.size w w4) := HB_3.out.trans (hB.mono HB_3.out.size)
  have OB_4 : Hid (OwnBd w4 lo hi (.slice sa sn sc) (.slice la ln lc) (.slice ta tn tc) ⟨f, e, sg, li, ls⟩) := OB_3.out.later hB
  have A_4 : Hid (X5 w4 w.heap.size (.int .i64 f) (.int .i64 e) (.slice sa sn sc) (.slice la ln lc) (.slice ta tn tc)) := A_3.out.later hB
  have B_4 : Hid (X3 w4 w1.heap.size (.int .i64 1) (.int .i64 0) (.int .i64 l)) := B_3.out.later hB
  have R_4 : Hid (X5 w4 w2.heap.size (.int .i64 0) (.int .i64 0) (.slice none 0 0) (.slice none 0 0) (.slice none 0 0)) := R_3.out.later hB
  have z4 : w3.heap.size ≤ w4.heap.size := hB.size
  have T5_4 : Hid (Own w4 w3.heap.size (.slice a5 (tn + 1) c5) (insL ltI l ls)) := hn5
  clear hb hB HB_3 OB_3 A_3 B_3 R_3 hn5
  obtain ⟨⟨pA0, pA1, pA2, pA3, pA4⟩, _⟩ := id (A_4.out)
  obtain ⟨⟨pB0, pB1, pB2⟩, _⟩ := id (B_4.out)
  have hA := (A_4.out.set4 (.slice a5 (tn + 1) c5))
  have hHB : Below w.heap.size w (w4.setCell ⟨w.heap.size, 4, none⟩ (.slice a5 (tn + 1) c5)) := (HB_4.out.setCell (by show w.heap.size ≤ w.heap.size; omega) _)
  have hOB := (OB_4.out.cell (r := w.heap.size) (j := 4) (by omega) (.slice a5 (tn + 1) c5))
  have hB := (B_4.out.other (r' := w.heap.size) (j' := 4) (u := .slice a5 (tn + 1) c5) (by omega))
  have hR := (R_4.out.other (r' := w.heap.size) (j' := 4) (u := .slice a5 (tn + 1) c5) (by omega))
  have hT5 := (T5_4.out.setBox (r := w.heap.size) (j := 4) (by omega) (.slice a5 (tn + 1) c5))
  have hz : (w4.setCell ⟨w.heap.size, 4, none⟩ (.slice a5 (tn + 1) c5)).heap.size = w4.heap.size := by simp
  obtain ⟨w5, hV5⟩ : ∃ V, (w4.setCell ⟨w.heap.size, 4, none⟩ (.slice a5 (tn + 1) c5)) = V := ⟨_, rfl⟩
  rw [hV5] at hA hHB hOB hB hR hT5 hz
  have A_5 : Hid (X5 w5 (w.heap.size) (.int .i64 f) (.int .i64 e) (.slice sa sn sc) (.slice la ln lc) (.slice a5 (tn + 1) c5)) := hA
  have HB_5 : Hid (Below w.heap.size w w5) := hHB
  have OB_5 : Hid (OwnBd w5 lo hi (.slice sa sn sc) (.slice la ln lc) (.slice ta tn tc) ⟨f, e, sg, li, ls⟩) := hOB
  have B_5 : Hid (X3 w5 w1.heap.size (.int .i64 1) (.int .i64 0) (.int .i64 l)) := hB
  have R_5 : Hid (X5 w5 w2.heap.size (.int .i64 0) (.int .i64 0) (.slice none 0 0) (.slice none 0 0) (.slice none 0 0)) := hR
  have T5_5 : Hid (Own w5 w3.heap.size (.slice a5 (tn + 1) c5) (insL ltI l ls)) := hT5
  have z5 : w4.heap.size ≤ w5.heap.size := by omega
  obtain ⟨⟨oA0, oA1, oA2, oA3, oA4⟩, oAf⟩ := id (A_4.out)
  have oAf4 := oAf 4
  clear oAf hz hA hHB hOB hB hR hT5
  have hZF := (((((R_5.out.set0 (.int .i64 f)).set1 (.int .i64 e)).set2 (.slice sa sn sc)).set3 (.slice la ln lc)).set4 (.slice a5 (tn + 1) c5))
  have hBF : Below w.heap.size w (((((w5.setCell ⟨w2.heap.size, 0, none⟩ (.int .i64 f)).setCell ⟨w2.heap.size, 1, none⟩ (.int .i64 e)).setCell ⟨w2.heap.size, 2, none⟩ (.slice sa sn sc)).setCell ⟨w2.heap.size, 3, none⟩ (.slice la ln lc)).setCell ⟨w2.heap.size, 4, none⟩ (.slice a5 (tn + 1) c5)) := (((((HB_5.out.setCell (by show w.heap.size ≤ w2.heap.size; omega) _).setCell (by show w.heap.size ≤ w2.heap.size; omega) _).setCell (by show w.heap.size ≤ w2.heap.size; omega) _).setCell (by show w.heap.size ≤ w2.heap.size; omega) _).setCell (by show w.heap.size ≤ w2.heap.size; omega) _)
  have hOF := (((((OB_5.out.cell (r := w2.heap.size) (j := 0) (by omega) (.int .i64 f)).cell (r := w2.heap.size) (j := 1) (by omega) (.int .i64 e)).cell (r := w2.heap.size) (j := 2) (by omega) (.slice sa sn sc)).cell (r := w2.heap.size) (j := 3) (by omega) (.slice la ln lc)).cell (r := w2.heap.size) (j := 4) (by omega) (.slice a5 (tn + 1) c5))
  have hTF := (((((T5_5.out.setBox (r := w2.heap.size) (j := 0) (by omega) (.int .i64 f)).setBox (r := w2.heap.size) (j := 1) (by omega) (.int .i64 e)).setBox (r := w2.heap.size) (j := 2) (by omega) (.slice sa sn sc)).setBox (r := w2.heap.size) (j := 3) (by omega) (.slice la ln lc)).setBox (r := w2.heap.size) (j := 4) (by omega) (.slice a5 (tn + 1) c5))
  have hszF : (((((w5.setCell ⟨w2.heap.size, 0, none⟩ (.int .i64 f)).setCell ⟨w2.heap.size, 1, none⟩ (.int .i64 e)).setCell ⟨w2.heap.size, 2, none⟩ (.slice sa sn sc)).setCell ⟨w2.heap.size, 3, none⟩ (.slice la ln lc)).setCell ⟨w2.heap.size, 4, none⟩ (.slice a5 (tn + 1) c5)).heap.size = w5.heap.size := by simp
  obtain ⟨⟨y0, y1, y2, y3, y4⟩, yf⟩ := id (R_5.out)
  have yf0 := yf 0
  have yf1 := yf 1
  have yf2 := yf 2
  have yf3 := yf 3
  have yf4 := yf 4
  obtain ⟨FW, hFW⟩ : ∃ F, (((((w5.setCell ⟨w2.heap.size, 0, none⟩ (.int .i64 f)).setCell ⟨w2.heap.size, 1, none⟩ (.int .i64 e)).setCell ⟨w2.heap.size, 2, none⟩ (.slice sa sn sc)).setCell ⟨w2.heap.size, 3, none⟩ (.slice la ln lc)).setCell ⟨w2.heap.size, 4, none⟩ (.slice a5 (tn + 1) c5)) = F := ⟨_, rfl⟩
  rw [hFW] at hZF hBF hszF hOF hTF
  obtain ⟨⟨t0, t1, t2, t3, t4⟩, _⟩ := hZF
  have HBF : Hid (Below w.heap.size w FW) := hBF
  have HSF : Hid (FW.heap.size = w5.heap.size) := hszF
  have HOF := hid_of hOF
  have HTF := hid_of hTF
  clear hBF yf hszF hOF hTF
  obtain ⟨⟨Aq0, Aq1, Aq2, Aq3, Aq4⟩, Af⟩ := id (A_5.out)
  clear Af
  obtain ⟨⟨Bq0, Bq1, Bq2⟩, Bf⟩ := id (B_5.out)
  clear Bf
  go_wp2
  clear hV5
  refine bodyPost_ret (v := .tuple #[.agg #[.int .i64 f, .int .i64 e, .slice sa sn sc, .slice la ln lc, .slice a5 (tn + 1) c5], .bool true]) (by simp [results, Try.results54, go_sem, t0, t1, t2, t3, t4]; try rfl) rfl ?_
  have h9 := HSF.out
  refine ⟨sa, sc, la, lc, a5, c5, ?_, ?_, below_toP HBF.out⟩
  · simp only [HS.out, HL.out, insL_length, HT.out]
  · simp only [HS.out, HL.out, insL_length, HT.out]
    exact HOF.out.newT HTF.out (by omega) (by omega) (by omega) f e

set_option maxHeartbeats 4000000 in
theorem l13Step_e1 (f e : Int) (sa : Option Addr) (sn sc : Nat) (la : Option Addr) (ln lc : Nat) (ta : Option Addr) (tn tc : Nat) (sg : List (List Int)) (li ls : List Int) (k m l : Int) (lo hi : Nat) (w : World) (hg : goodBd ⟨f, e, sg, li, ls⟩ = true) (ho : OwnBd w lo hi (.slice sa sn sc) (.slice la ln lc) (.slice ta tn tc) ⟨f, e, sg, li, ls⟩) (hhi : hi ≤ w.heap.size) (hlo : lo ≤ hi) (hk : k = 3) (hm : m = 0) (hl : l = 0) (he : e < 20)  :
    Calls Try.prog 54 #[.agg #[.int .i64 f, .int .i64 e, .slice sa sn sc, .slice la ln lc, .slice ta tn tc], .agg #[.int .i64 k, .int .i64 m, .int .i64 l]] w fun r w' => StOk r w w' lo hi ⟨f, e + 1, sg, li, []⟩ true := by
  have G := good_is hg
  have HS : Hid (sg.length = sn) := ho.rd.sl
  have HL : Hid (li.length = ln) := ho.rd.ll
  have HT : Hid (ls.length = tn) := ho.rd.tl
  have hsn : sn ≤ 200 := by rw [← HS.out]; exact (sgsB_all G.sgOk).1
  have hln : ln ≤ 2 := by have := G.ln; have := G.f2; rw [HL.out] at *; omega
  have htn : tn ≤ 10 := by rw [← HT.out]; exact G.tn
  have HG : Hid (sgsB f sg = true) := G.sgOk
  obtain ⟨M, hM⟩ : ∃ M, 3 * f + 1 = M := ⟨_, rfl⟩
  have hM1 : 1 ≤ M := by have := G.f0; omega
  have hM7 : M ≤ 7 := by have := G.f2; omega
  have q0 : ∀ wx, Calls Try.prog 31 #[.int .i64 f] wx fun e w' => e = .returned (.tuple #[.int .i64 M, .int .i64 (2 * f + 1), .bool true]) ∧ w' = wx := fun wx => by
    have h := specQuo_c f wx
    have h2 : inB f 0 2 = true := inB_iff.2 ⟨G.f0, G.f2⟩
    simp only [quoF, h2, if_true, hM] at h
    exact h
  subst hk
  subst hm
  subst hl
  have he1 : -1 ≤ e := by have := G.e0; omega
  clear G hg hM  
  have HB_0 : Hid (Below w.heap.size w w) := Below.refl _ _
  have OB_0 : Hid (OwnBd w lo hi (.slice sa sn sc) (.slice la ln lc) (.slice ta tn tc) ⟨f, e, sg, li, ls⟩) := ho
  clear ho
  have hHB := HB_0.out.alloc HB_0.out.size (.cells #[.int .i64 f, .int .i64 e, .slice sa sn sc, .slice la ln lc, .slice ta tn tc] 29)
  have hOB := OB_0.out.later (balloc w (.cells #[.int .i64 f, .int .i64 e, .slice sa sn sc, .slice la ln lc, .slice ta tn tc] 29))
  have hA := x5_new w (.int .i64 f) (.int .i64 e) (.slice sa sn sc) (.slice la ln lc) (.slice ta tn tc) 29 w.heap.size rfl
  have hz : (w.alloc (.cells #[.int .i64 f, .int .i64 e, .slice sa sn sc, .slice la ln lc, .slice ta tn tc] 29)).heap.size = w.heap.size + 1 := by simp
  obtain ⟨w1, hV1⟩ : ∃ V, w.alloc (.cells #[.int .i64 f, .int .i64 e, .slice sa sn sc, .slice la ln lc, .slice ta tn tc] 29) = V := ⟨_, rfl⟩
  rw [hV1] at hHB hOB hA hz
  have HB_1 : Hid (Below w.heap.size w w1) := hHB
  have OB_1 : Hid (OwnBd w1 lo hi (.slice sa sn sc) (.slice la ln lc) (.slice ta tn tc) ⟨f, e, sg, li, ls⟩) := hOB
  have A_1 : Hid (X5 w1 w.heap.size (.int .i64 f) (.int .i64 e) (.slice sa sn sc) (.slice la ln lc) (.slice ta tn tc)) := hA
  have z1 : w.heap.size + 1 ≤ w1.heap.size := by omega
  clear HB_0 OB_0 hHB hOB hA hz
  have hHB := HB_1.out.alloc HB_1.out.size (.cells #[.int .i64 3, .int .i64 0, .int .i64 0] 40)
  have hOB := OB_1.out.later (balloc w1 (.cells #[.int .i64 3, .int .i64 0, .int .i64 0] 40))
  have hA := A_1.out.later (balloc w1 (.cells #[.int .i64 3, .int .i64 0, .int .i64 0] 40))
  have hB := x3_new w1 (.int .i64 3) (.int .i64 0) (.int .i64 0) 40 w1.heap.size rfl
  have hz : (w1.alloc (.cells #[.int .i64 3, .int .i64 0, .int .i64 0] 40)).heap.size = w1.heap.size + 1 := by simp
  obtain ⟨w2, hV2⟩ : ∃ V, w1.alloc (.cells #[.int .i64 3, .int .i64 0, .int .i64 0] 40) = V := ⟨_, rfl⟩
  rw [hV2] at hHB hOB hA hB hz
  have HB_2 : Hid (Below w.heap.size w w2) := hHB
  have OB_2 : Hid (OwnBd w2 lo hi (.slice sa sn sc) (.slice la ln lc) (.slice ta tn tc) ⟨f, e, sg, li, ls⟩) := hOB
  have A_2 : Hid (X5 w2 w.heap.size (.int .i64 f) (.int .i64 e) (.slice sa sn sc) (.slice la ln lc) (.slice ta tn tc)) := hA
  have B_2 : Hid (X3 w2 w1.heap.size (.int .i64 3) (.int .i64 0) (.int .i64 0)) := hB
  have z2 : w1.heap.size + 1 ≤ w2.heap.size := by omega
  clear HB_1 OB_1 A_1 hHB hOB hA hB hz
  have hHB := HB_2.out.alloc HB_2.out.size (.cells #[.int .i64 0, .int .i64 0, .slice none 0 0, .slice none 0 0, .slice none 0 0] 29)
  have hOB := OB_2.out.later (balloc w2 (.cells #[.int .i64 0, .int .i64 0, .slice none 0 0, .slice none 0 0, .slice none 0 0] 29))
  have hA := A_2.out.later (balloc w2 (.cells #[.int .i64 0, .int .i64 0, .slice none 0 0, .slice none 0 0, .slice none 0 0] 29))
  have hB := B_2.out.later (balloc w2 (.cells #[.int .i64 0, .int .i64 0, .slice none 0 0, .slice none 0 0, .slice none 0 0] 29))
  have hR := x5_new w2 (.int .i64 0) (.int .i64 0) (.slice none 0 0) (.slice none 0 0) (.slice none 0 0) 29 w2.heap.size rfl
  have hz : (w2.alloc (.cells #[.int .i64 0, .int .i64 0, .slice none 0 0, .slice none 0 0, .slice none 0 0] 29)).heap.size = w2.heap.size + 1 := by simp
  obtain ⟨w3, hV3⟩ : ∃ V, w2.alloc (.cells #[.int .i64 0, .int .i64 0, .slice none 0 0, .slice none 0 0, .slice none 0 0] 29) = V := ⟨_, rfl⟩
  rw [hV3] at hHB hOB hA hB hR hz
  have HB_3 : Hid (Below w.heap.size w w3) := hHB
  have OB_3 : Hid (OwnBd w3 lo hi (.slice sa sn sc) (.slice la ln lc) (.slice ta tn tc) ⟨f, e, sg, li, ls⟩) := hOB
  have A_3 : Hid (X5 w3 w.heap.size (.int .i64 f) (.int .i64 e) (.slice sa sn sc) (.slice la ln lc) (.slice ta tn tc)) := hA
  have B_3 : Hid (X3 w3 w1.heap.size (.int .i64 3) (.int .i64 0) (.int .i64 0)) := hB
  have R_3 : Hid (X5 w3 w2.heap.size (.int .i64 0) (.int .i64 0) (.slice none 0 0) (.slice none 0 0) (.slice none 0 0)) := hR
  have z3 : w2.heap.size + 1 ≤ w3.heap.size := by omega
  clear HB_2 OB_2 A_2 B_2 hHB hOB hA hB hR hz
  go_enter Try.func54, Try.ntmps54
  obtain ⟨⟨Aq0, Aq1, Aq2, Aq3, Aq4⟩, Af⟩ := id (A_3.out)
  clear Af
  go_wp2_with fail
  clear hV1 hV2 hV3
  refine (q0 _).mono ?_
  clear Aq0 Aq1 Aq2 Aq3 Aq4
  rintro e w' ⟨rfl, hw⟩
  subst w'
  obtain ⟨⟨pA0, pA1, pA2, pA3, pA4⟩, _⟩ := id (A_3.out)
  obtain ⟨⟨pB0, pB1, pB2⟩, _⟩ := id (B_3.out)
  have hA := ((A_3.out.set1 (.int .i64 (e + 1))).set4 (.slice none 0 0))
  have hHB : Below w.heap.size w ((w3.setCell ⟨w.heap.size, 1, none⟩ (.int .i64 (e + 1))).setCell ⟨w.heap.size, 4, none⟩ (.slice none 0 0)) := ((HB_3.out.setCell (by show w.heap.size ≤ w.heap.size; omega) _).setCell (by show w.heap.size ≤ w.heap.size; omega) _)
  have hOB := ((OB_3.out.cell (r := w.heap.size) (j := 1) (by omega) (.int .i64 (e + 1))).cell (r := w.heap.size) (j := 4) (by omega) (.slice none 0 0))
  have hB := ((B_3.out.other (r' := w.heap.size) (j' := 1) (u := .int .i64 (e + 1)) (by omega)).other (r' := w.heap.size) (j' := 4) (u := .slice none 0 0) (by omega))
  have hR := ((R_3.out.other (r' := w.heap.size) (j' := 1) (u := .int .i64 (e + 1)) (by omega)).other (r' := w.heap.size) (j' := 4) (u := .slice none 0 0) (by omega))
  have hz : ((w3.setCell ⟨w.heap.size, 1, none⟩ (.int .i64 (e + 1))).setCell ⟨w.heap.size, 4, none⟩ (.slice none 0 0)).heap.size = w3.heap.size := by simp
  obtain ⟨w4, hV4⟩ : ∃ V, ((w3.setCell ⟨w.heap.size, 1, none⟩ (.int .i64 (e + 1))).setCell ⟨w.heap.size, 4, none⟩ (.slice none 0 0)) = V := ⟨_, rfl⟩
  rw [hV4] at hA hHB hOB hB hR hz
  have A_4 : Hid (X5 w4 (w.heap.size) (.int .i64 f) (.int .i64 (e + 1)) (.slice sa sn sc) (.slice la ln lc) (.slice none 0 0)) := hA
  have HB_4 : Hid (Below w.heap.size w w4) := hHB
  have OB_4 : Hid (OwnBd w4 lo hi (.slice sa sn sc) (.slice la ln lc) (.slice ta tn tc) ⟨f, e, sg, li, ls⟩) := hOB
  have B_4 : Hid (X3 w4 w1.heap.size (.int .i64 3) (.int .i64 0) (.int .i64 0)) := hB
  have R_4 : Hid (X5 w4 w2.heap.size (.int .i64 0) (.int .i64 0) (.slice none 0 0) (.slice none 0 0) (.slice none 0 0)) := hR
  have z4 : w3.heap.size ≤ w4.heap.size := by omega
  obtain ⟨⟨oA0, oA1, oA2, oA3, oA4⟩, oAf⟩ := id (A_3.out)
  have oAf1 := oAf 1
  have oAf4 := oAf 4
  clear oAf hz hA hHB hOB hB hR
  have hZF := (((((R_4.out.set0 (.int .i64 f)).set1 (.int .i64 (e + 1))).set2 (.slice sa sn sc)).set3 (.slice la ln lc)).set4 (.slice none 0 0))
  have hBF : Below w.heap.size w (((((w4.setCell ⟨w2.heap.size, 0, none⟩ (.int .i64 f)).setCell ⟨w2.heap.size, 1, none⟩ (.int .i64 (e + 1))).setCell ⟨w2.heap.size, 2, none⟩ (.slice sa sn sc)).setCell ⟨w2.heap.size, 3, none⟩ (.slice la ln lc)).setCell ⟨w2.heap.size, 4, none⟩ (.slice none 0 0)) := (((((HB_4.out.setCell (by show w.heap.size ≤ w2.heap.size; omega) _).setCell (by show w.heap.size ≤ w2.heap.size; omega) _).setCell (by show w.heap.size ≤ w2.heap.size; omega) _).setCell (by show w.heap.size ≤ w2.heap.size; omega) _).setCell (by show w.heap.size ≤ w2.heap.size; omega) _)
  have hOF := ((((((OB_4.out.noT f (e + 1)).cell (r := w2.heap.size) (j := 0) (by omega) (.int .i64 f)).cell (r := w2.heap.size) (j := 1) (by omega) (.int .i64 (e + 1))).cell (r := w2.heap.size) (j := 2) (by omega) (.slice sa sn sc)).cell (r := w2.heap.size) (j := 3) (by omega) (.slice la ln lc)).cell (r := w2.heap.size) (j := 4) (by omega) (.slice none 0 0))
  have hszF : (((((w4.setCell ⟨w2.heap.size, 0, none⟩ (.int .i64 f)).setCell ⟨w2.heap.size, 1, none⟩ (.int .i64 (e + 1))).setCell ⟨w2.heap.size, 2, none⟩ (.slice sa sn sc)).setCell ⟨w2.heap.size, 3, none⟩ (.slice la ln lc)).setCell ⟨w2.heap.size, 4, none⟩ (.slice none 0 0)).heap.size = w4.heap.size := by simp
  obtain ⟨⟨y0, y1, y2, y3, y4⟩, yf⟩ := id (R_4.out)
  have yf0 := yf 0
  have yf1 := yf 1
  have yf2 := yf 2
  have yf3 := yf 3
  have yf4 := yf 4
  obtain ⟨FW, hFW⟩ : ∃ F, (((((w4.setCell ⟨w2.heap.size, 0, none⟩ (.int .i64 f)).setCell ⟨w2.heap.size, 1, none⟩ (.int .i64 (e + 1))).setCell ⟨w2.heap.size, 2, none⟩ (.slice sa sn sc)).setCell ⟨w2.heap.size, 3, none⟩ (.slice la ln lc)).setCell ⟨w2.heap.size, 4, none⟩ (.slice none 0 0)) = F := ⟨_, rfl⟩
  rw [hFW] at hZF hBF hszF hOF
  obtain ⟨⟨t0, t1, t2, t3, t4⟩, _⟩ := hZF
  have HBF : Hid (Below w.heap.size w FW) := hBF
  have HSF : Hid (FW.heap.size = w4.heap.size) := hszF
  have HOF := hid_of hOF
  clear hBF yf hszF hOF
  obtain ⟨⟨Aq0, Aq1, Aq2, Aq3, Aq4⟩, Af⟩ := id (A_4.out)
  clear Af
  obtain ⟨⟨Bq0, Bq1, Bq2⟩, Bf⟩ := id (B_4.out)
  clear Bf
  go_wp2
  clear hV4
  refine bodyPost_ret (v := .tuple #[.agg #[.int .i64 f, .int .i64 (e + 1), .slice sa sn sc, .slice la ln lc, .slice none 0 0], .bool true]) (by simp [results, Try.results54, go_sem, t0, t1, t2, t3, t4]; try rfl) rfl ?_
  have h9 := HSF.out
  refine ⟨sa, sc, la, lc, none, 0, ?_, ?_, below_toP HBF.out⟩
  · simp only [HS.out, HL.out, List.length_nil]
  · simp only [HS.out, HL.out, List.length_nil]
    exact HOF.out.mono (Nat.le_refl _) (by omega)

set_option maxHeartbeats 4000000 in
theorem l13Step_s5 (f e : Int) (sa : Option Addr) (sn sc : Nat) (la : Option Addr) (ln lc : Nat) (ta : Option Addr) (tn tc : Nat) (sg : List (List Int)) (li ls : List Int) (k m l : Int) (lo hi : Nat) (w : World) (hg : goodBd ⟨f, e, sg, li, ls⟩ = true) (ho : OwnBd w lo hi (.slice sa sn sc) (.slice la ln lc) (.slice ta tn tc) ⟨f, e, sg, li, ls⟩) (hhi : hi ≤ w.heap.size) (hlo : lo ≤ hi) (hk : k = 2) (h2 : sg.length < 200) (hq3 : memB f m = true) (hq2 : decide (l ∈ ls) = true) (hq4 : hasP e m l sg = false) (hq5 : decide (m ∈ li) = true) :
    Calls Try.prog 54 #[.agg #[.int .i64 f, .int .i64 e, .slice sa sn sc, .slice la ln lc, .slice ta tn tc], .agg #[.int .i64 k, .int .i64 m, .int .i64 l]] w fun r w' => StOk r w w' lo hi ⟨f, e, sg ++ [[e, m, l]], li, ls⟩ true := by
  have G := good_is hg
  have HS : Hid (sg.length = sn) := ho.rd.sl
  have HL : Hid (li.length = ln) := ho.rd.ll
  have HT : Hid (ls.length = tn) := ho.rd.tl
  have hsn : sn ≤ 200 := by rw [← HS.out]; exact (sgsB_all G.sgOk).1
  have hln : ln ≤ 2 := by have := G.ln; have := G.f2; rw [HL.out] at *; omega
  have htn : tn ≤ 10 := by rw [← HT.out]; exact G.tn
  have HG : Hid (sgsB f sg = true) := G.sgOk
  obtain ⟨M, hM⟩ : ∃ M, 3 * f + 1 = M := ⟨_, rfl⟩
  have hM1 : 1 ≤ M := by have := G.f0; omega
  have hM7 : M ≤ 7 := by have := G.f2; omega
  have q0 : ∀ wx, Calls Try.prog 31 #[.int .i64 f] wx fun e w' => e = .returned (.tuple #[.int .i64 M, .int .i64 (2 * f + 1), .bool true]) ∧ w' = wx := fun wx => by
    have h := specQuo_c f wx
    have h2 : inB f 0 2 = true := inB_iff.2 ⟨G.f0, G.f2⟩
    simp only [quoF, h2, if_true, hM] at h
    exact h
  have q3 : ∀ wx, Calls Try.prog 73 #[.int .i64 m, .int .i64 0, .int .i64 (M - 1)] wx fun e w' => e = .returned (.bool true) ∧ w' = wx := fun wx => by
    have h := l1In_c m 0 (M - 1) wx
    rw [show M - 1 = 3 * f by omega, show decide (0 ≤ m ∧ m ≤ 3 * f) = true from hq3, show 3 * f = M - 1 by omega] at h
    exact h
  have q2 := fun wx (h : Rd wx ta ls) => l1Has_c ta tn tc l ls wx HT.out (by omega) h
  rw [hq2] at q2
  have q4 := fun wx (h : RdII wx sa sg) => l13Has_c f e sa sn sc la ln lc ta tn tc sg li ls e m l wx HS.out h HG.out
  rw [hq4] at q4
  have q5 := fun wx (h : Rd wx la li) => l1Has_c la ln lc m li wx HL.out (by omega) h
  rw [hq5] at q5
  subst hk
  have h3 : (sn : Int) < 200 := by rw [HS.out] at h2; omega
  clear G hg hM hq3 hq2 hq4 hq5 h2
  have HB_0 : Hid (Below w.heap.size w w) := Below.refl _ _
  have OB_0 : Hid (OwnBd w lo hi (.slice sa sn sc) (.slice la ln lc) (.slice ta tn tc) ⟨f, e, sg, li, ls⟩) := ho
  clear ho
  have hHB := HB_0.out.alloc HB_0.out.size (.cells #[.int .i64 f, .int .i64 e, .slice sa sn sc, .slice la ln lc, .slice ta tn tc] 29)
  have hOB := OB_0.out.later (balloc w (.cells #[.int .i64 f, .int .i64 e, .slice sa sn sc, .slice la ln lc, .slice ta tn tc] 29))
  have hA := x5_new w (.int .i64 f) (.int .i64 e) (.slice sa sn sc) (.slice la ln lc) (.slice ta tn tc) 29 w.heap.size rfl
  have hz : (w.alloc (.cells #[.int .i64 f, .int .i64 e, .slice sa sn sc, .slice la ln lc, .slice ta tn tc] 29)).heap.size = w.heap.size + 1 := by simp
  obtain ⟨w1, hV1⟩ : ∃ V, w.alloc (.cells #[.int .i64 f, .int .i64 e, .slice sa sn sc, .slice la ln lc, .slice ta tn tc] 29) = V := ⟨_, rfl⟩
  rw [hV1] at hHB hOB hA hz
  have HB_1 : Hid (Below w.heap.size w w1) := hHB
  have OB_1 : Hid (OwnBd w1 lo hi (.slice sa sn sc) (.slice la ln lc) (.slice ta tn tc) ⟨f, e, sg, li, ls⟩) := hOB
  have A_1 : Hid (X5 w1 w.heap.size (.int .i64 f) (.int .i64 e) (.slice sa sn sc) (.slice la ln lc) (.slice ta tn tc)) := hA
  have z1 : w.heap.size + 1 ≤ w1.heap.size := by omega
  clear HB_0 OB_0 hHB hOB hA hz
  have hHB := HB_1.out.alloc HB_1.out.size (.cells #[.int .i64 2, .int .i64 m, .int .i64 l] 40)
  have hOB := OB_1.out.later (balloc w1 (.cells #[.int .i64 2, .int .i64 m, .int .i64 l] 40))
  have hA := A_1.out.later (balloc w1 (.cells #[.int .i64 2, .int .i64 m, .int .i64 l] 40))
  have hB := x3_new w1 (.int .i64 2) (.int .i64 m) (.int .i64 l) 40 w1.heap.size rfl
  have hz : (w1.alloc (.cells #[.int .i64 2, .int .i64 m, .int .i64 l] 40)).heap.size = w1.heap.size + 1 := by simp
  obtain ⟨w2, hV2⟩ : ∃ V, w1.alloc (.cells #[.int .i64 2, .int .i64 m, .int .i64 l] 40) = V := ⟨_, rfl⟩
  rw [hV2] at hHB hOB hA hB hz
  have HB_2 : Hid (Below w.heap.size w w2) := hHB
  have OB_2 : Hid (OwnBd w2 lo hi (.slice sa sn sc) (.slice la ln lc) (.slice ta tn tc) ⟨f, e, sg, li, ls⟩) := hOB
  have A_2 : Hid (X5 w2 w.heap.size (.int .i64 f) (.int .i64 e) (.slice sa sn sc) (.slice la ln lc) (.slice ta tn tc)) := hA
  have B_2 : Hid (X3 w2 w1.heap.size (.int .i64 2) (.int .i64 m) (.int .i64 l)) := hB
  have z2 : w1.heap.size + 1 ≤ w2.heap.size := by omega
  clear HB_1 OB_1 A_1 hHB hOB hA hB hz
  have hHB := HB_2.out.alloc HB_2.out.size (.cells #[.int .i64 0, .int .i64 0, .slice none 0 0, .slice none 0 0, .slice none 0 0] 29)
  have hOB := OB_2.out.later (balloc w2 (.cells #[.int .i64 0, .int .i64 0, .slice none 0 0, .slice none 0 0, .slice none 0 0] 29))
  have hA := A_2.out.later (balloc w2 (.cells #[.int .i64 0, .int .i64 0, .slice none 0 0, .slice none 0 0, .slice none 0 0] 29))
  have hB := B_2.out.later (balloc w2 (.cells #[.int .i64 0, .int .i64 0, .slice none 0 0, .slice none 0 0, .slice none 0 0] 29))
  have hR := x5_new w2 (.int .i64 0) (.int .i64 0) (.slice none 0 0) (.slice none 0 0) (.slice none 0 0) 29 w2.heap.size rfl
  have hz : (w2.alloc (.cells #[.int .i64 0, .int .i64 0, .slice none 0 0, .slice none 0 0, .slice none 0 0] 29)).heap.size = w2.heap.size + 1 := by simp
  obtain ⟨w3, hV3⟩ : ∃ V, w2.alloc (.cells #[.int .i64 0, .int .i64 0, .slice none 0 0, .slice none 0 0, .slice none 0 0] 29) = V := ⟨_, rfl⟩
  rw [hV3] at hHB hOB hA hB hR hz
  have HB_3 : Hid (Below w.heap.size w w3) := hHB
  have OB_3 : Hid (OwnBd w3 lo hi (.slice sa sn sc) (.slice la ln lc) (.slice ta tn tc) ⟨f, e, sg, li, ls⟩) := hOB
  have A_3 : Hid (X5 w3 w.heap.size (.int .i64 f) (.int .i64 e) (.slice sa sn sc) (.slice la ln lc) (.slice ta tn tc)) := hA
  have B_3 : Hid (X3 w3 w1.heap.size (.int .i64 2) (.int .i64 m) (.int .i64 l)) := hB
  have R_3 : Hid (X5 w3 w2.heap.size (.int .i64 0) (.int .i64 0) (.slice none 0 0) (.slice none 0 0) (.slice none 0 0)) := hR
  have z3 : w2.heap.size + 1 ≤ w3.heap.size := by omega
  clear HB_2 OB_2 A_2 B_2 hHB hOB hA hB hR hz
  go_enter Try.func54, Try.ntmps54
  obtain ⟨⟨Aq0, Aq1, Aq2, Aq3, Aq4⟩, Af⟩ := id (A_3.out)
  clear Af
  go_wp2_with fail
  clear hV1 hV2 hV3
  refine (q0 _).mono ?_
  clear Aq0 Aq1 Aq2 Aq3 Aq4
  rintro e w' ⟨rfl, hw⟩
  subst w'
  obtain ⟨⟨Aq0, Aq1, Aq2, Aq3, Aq4⟩, Af⟩ := id (A_3.out)
  clear Af
  obtain ⟨⟨Bq0, Bq1, Bq2⟩, Bf⟩ := id (B_3.out)
  clear Bf
  go_wp2_with fail
  refine (q3 _).mono ?_
  clear Aq0 Aq1 Aq2 Aq3 Aq4
  clear Bq0 Bq1 Bq2
  rintro e w' ⟨rfl, hw⟩
  subst w'
  obtain ⟨⟨Aq0, Aq1, Aq2, Aq3, Aq4⟩, Af⟩ := id (A_3.out)
  clear Af
  obtain ⟨⟨Bq0, Bq1, Bq2⟩, Bf⟩ := id (B_3.out)
  clear Bf
  go_wp2_with fail
  refine (q2 _ OB_3.out.rd.t).mono ?_
  clear Aq0 Aq1 Aq2 Aq3 Aq4
  clear Bq0 Bq1 Bq2
  rintro e w' ⟨rfl, hw⟩
  subst w'
  obtain ⟨⟨Aq0, Aq1, Aq2, Aq3, Aq4⟩, Af⟩ := id (A_3.out)
  clear Af
  obtain ⟨⟨Bq0, Bq1, Bq2⟩, Bf⟩ := id (B_3.out)
  clear Bf
  go_wp2_with fail
  refine (q4 _ OB_3.out.rd.s).mono ?_
  clear Aq0 Aq1 Aq2 Aq3 Aq4
  clear Bq0 Bq1 Bq2
  rintro e w4 ⟨rfl, hb⟩
  have hB : Below w3.heap.size w3 w4 := hb
  have HB_4 : Hid (Below w.heap.size w w4) := HB_3.out.trans (hB.mono HB_3.out.size)
  have OB_4 : Hid (OwnBd w4 lo hi (.slice sa sn sc) (.slice la ln lc) (.slice ta tn tc) ⟨f, e, sg, li, ls⟩) := OB_3.out.later hB
  have A_4 : Hid (X5 w4 w.heap.size (.int .i64 f) (.int .i64 e) (.slice sa sn sc) (.slice la ln lc) (.slice ta tn tc)) := A_3.out.later hB
  have B_4 : Hid (X3 w4 w1.heap.size (.int .i64 2) (.int .i64 m) (.int .i64 l)) := B_3.out.later hB
  have R_4 : Hid (X5 w4 w2.heap.size (.int .i64 0) (.int .i64 0) (.slice none 0 0) (.slice none 0 0) (.slice none 0 0)) := R_3.out.later hB
  have z4 : w3.heap.size ≤ w4.heap.size := hB.size
  clear hb hB HB_3 OB_3 A_3 B_3 R_3 
  obtain ⟨⟨Aq0, Aq1, Aq2, Aq3, Aq4⟩, Af⟩ := id (A_4.out)
  clear Af
  obtain ⟨⟨Bq0, Bq1, Bq2⟩, Bf⟩ := id (B_4.out)
  clear Bf
  go_wp2_with fail
  refine (q5 _ OB_4.out.rd.l).mono ?_
  clear Aq0 Aq1 Aq2 Aq3 Aq4
  clear Bq0 Bq1 Bq2
  rintro e w' ⟨rfl, hw⟩
  subst w'
  obtain ⟨gq, cap, w99, r1, hpu, hrg⟩ := OB_4.out.pushW (by omega) (by omega) (by show sg.length ≤ 1000; rw [HS.out]; omega) e m l f e
  simp only [HS.out] at r1 hpu
  have hz9 : w4.heap.size ≤ w99.heap.size := hrg.size
  obtain ⟨⟨pA0, pA1, pA2, pA3, pA4⟩, _⟩ := id (A_4.out)
  obtain ⟨⟨pB0, pB1, pB2⟩, _⟩ := id (B_4.out)
  have hA9 := A_4.out.rngP hrg (by omega)
  have hR9 := R_4.out.rngP hrg (by omega)
  have hW9 : RngP (fun k => lo ≤ k ∧ k < hi) w w99 := (below_toP HB_4.out).trans hrg
  have hA10 := hA9.set2 (.slice (some ⟨gq, 0, none⟩) (sn + 1) cap)
  have hR10 := hR9.other (r' := w.heap.size) (j' := 2) (u := .slice (some ⟨gq, 0, none⟩) (sn + 1) cap) (by omega)
  obtain ⟨⟨oA0, oA1, oA2, oA3, oA4⟩, oAf⟩ := hA9
  have oAf2 := oAf 2
  have hrF : RngP (fun k => w.heap.size ≤ k ∧ k < w4.heap.size) w99 ((((((w99.setCell ⟨w.heap.size, 2, none⟩ (.slice (some ⟨gq, 0, none⟩) (sn + 1) cap)).setCell ⟨w2.heap.size, 0, none⟩ (.int .i64 f)).setCell ⟨w2.heap.size, 1, none⟩ (.int .i64 e)).setCell ⟨w2.heap.size, 2, none⟩ (.slice (some ⟨gq, 0, none⟩) (sn + 1) cap)).setCell ⟨w2.heap.size, 3, none⟩ (.slice la ln lc)).setCell ⟨w2.heap.size, 4, none⟩ (.slice ta tn tc)) := ((((((RngP.ofGrown (pp := fun k => w.heap.size ≤ k ∧ k < w4.heap.size) (grown_setCell w99 (w.heap.size) 2 (.slice (some ⟨gq, 0, none⟩) (sn + 1) cap)) (fun k e => by have := Option.some.inj e; omega)).trans (RngP.ofGrown (grown_setCell (w99.setCell ⟨w.heap.size, 2, none⟩ (.slice (some ⟨gq, 0, none⟩) (sn + 1) cap)) (w2.heap.size) 0 (.int .i64 f)) (fun k e => by have := Option.some.inj e; omega))).trans (RngP.ofGrown (grown_setCell ((w99.setCell ⟨w.heap.size, 2, none⟩ (.slice (some ⟨gq, 0, none⟩) (sn + 1) cap)).setCell ⟨w2.heap.size, 0, none⟩ (.int .i64 f)) (w2.heap.size) 1 (.int .i64 e)) (fun k e => by have := Option.some.inj e; omega))).trans (RngP.ofGrown (grown_setCell (((w99.setCell ⟨w.heap.size, 2, none⟩ (.slice (some ⟨gq, 0, none⟩) (sn + 1) cap)).setCell ⟨w2.heap.size, 0, none⟩ (.int .i64 f)).setCell ⟨w2.heap.size, 1, none⟩ (.int .i64 e)) (w2.heap.size) 2 (.slice (some ⟨gq, 0, none⟩) (sn + 1) cap)) (fun k e => by have := Option.some.inj e; omega))).trans (RngP.ofGrown (grown_setCell ((((w99.setCell ⟨w.heap.size, 2, none⟩ (.slice (some ⟨gq, 0, none⟩) (sn + 1) cap)).setCell ⟨w2.heap.size, 0, none⟩ (.int .i64 f)).setCell ⟨w2.heap.size, 1, none⟩ (.int .i64 e)).setCell ⟨w2.heap.size, 2, none⟩ (.slice (some ⟨gq, 0, none⟩) (sn + 1) cap)) (w2.heap.size) 3 (.slice la ln lc)) (fun k e => by have := Option.some.inj e; omega))).trans (RngP.ofGrown (grown_setCell (((((w99.setCell ⟨w.heap.size, 2, none⟩ (.slice (some ⟨gq, 0, none⟩) (sn + 1) cap)).setCell ⟨w2.heap.size, 0, none⟩ (.int .i64 f)).setCell ⟨w2.heap.size, 1, none⟩ (.int .i64 e)).setCell ⟨w2.heap.size, 2, none⟩ (.slice (some ⟨gq, 0, none⟩) (sn + 1) cap)).setCell ⟨w2.heap.size, 3, none⟩ (.slice la ln lc)) (w2.heap.size) 4 (.slice ta tn tc)) (fun k e => by have := Option.some.inj e; omega)))
  have hZF := (((((hR10.set0 (.int .i64 f)).set1 (.int .i64 e)).set2 (.slice (some ⟨gq, 0, none⟩) (sn + 1) cap)).set3 (.slice la ln lc)).set4 (.slice ta tn tc))
  obtain ⟨⟨y0, y1, y2, y3, y4⟩, yf⟩ := id hR10
  have yf0 := yf 0
  have yf1 := yf 1
  have yf2 := yf 2
  have yf3 := yf 3
  have yf4 := yf 4
  obtain ⟨w10, hV10⟩ : ∃ V, (w99.setCell ⟨w.heap.size, 2, none⟩ (.slice (some ⟨gq, 0, none⟩) (sn + 1) cap)) = V := ⟨_, rfl⟩
  obtain ⟨⟨uA0, uA1, uA2, uA3, uA4⟩, _⟩ := id hA10
  rw [hV10] at hZF hrF y0 y1 y2 y3 y4 yf0 yf1 yf2 yf3 yf4 uA0 uA1 uA2 uA3 uA4
  obtain ⟨FW, hFW⟩ : ∃ F, (((((w10.setCell ⟨w2.heap.size, 0, none⟩ (.int .i64 f)).setCell ⟨w2.heap.size, 1, none⟩ (.int .i64 e)).setCell ⟨w2.heap.size, 2, none⟩ (.slice (some ⟨gq, 0, none⟩) (sn + 1) cap)).setCell ⟨w2.heap.size, 3, none⟩ (.slice la ln lc)).setCell ⟨w2.heap.size, 4, none⟩ (.slice ta tn tc)) = F := ⟨_, rfl⟩
  rw [hFW] at hZF hrF
  obtain ⟨⟨t0, t1, t2, t3, t4⟩, _⟩ := hZF
  have HFB := hid_of (hpu FW (hrF.imp (fun k h => ⟨by omega, h.2⟩)))
  have hz10 := hrF.size
  have HWF : Hid (RngP (fun k => lo ≤ k ∧ k < hi) w FW) := ⟨hrF.os.trans hW9.os, hrF.tape.trans hW9.tape, hrF.output.trans hW9.output, Nat.le_trans hW9.size hrF.size, fun q hq hn => (hrF.block q (by have := hW9.size; omega) (fun h => by omega)).trans (hW9.block q hq hn)⟩
  clear hpu hrg hrF hW9 hA10 hR10 hR9 oAf yf HB_4 OB_4 A_4 B_4 R_4
  go_wp2_with (first | (at_builtin; refine Lib.wpList_append_run _ rfl _ _ _ _ rfl _ _ rfl rfl _ _ (r1 _) ?_; clear r1) | fail)
  refine bodyPost_ret (v := .tuple #[.agg #[.int .i64 f, .int .i64 e, .slice (some ⟨gq, 0, none⟩) (sn + 1) cap, .slice la ln lc, .slice ta tn tc], .bool true]) (by simp [results, Try.results54, go_sem, t0, t1, t2, t3, t4]; try rfl) rfl ?_
  refine ⟨some ⟨gq, 0, none⟩, cap, la, lc, ta, tc, ?_, ?_, HWF.out⟩
  · simp only [List.length_append, List.length_cons, List.length_nil, Nat.zero_add, HS.out, HL.out, HT.out]
  · simp only [List.length_append, List.length_cons, List.length_nil, Nat.zero_add, HS.out, HL.out, HT.out]
    exact HFB.out

set_option maxHeartbeats 4000000 in
theorem l13Step_s7 (f e : Int) (sa : Option Addr) (sn sc : Nat) (la : Option Addr) (ln lc : Nat) (ta : Option Addr) (tn tc : Nat) (sg : List (List Int)) (li ls : List Int) (k m l : Int) (lo hi : Nat) (w : World) (hg : goodBd ⟨f, e, sg, li, ls⟩ = true) (ho : OwnBd w lo hi (.slice sa sn sc) (.slice la ln lc) (.slice ta tn tc) ⟨f, e, sg, li, ls⟩) (hhi : hi ≤ w.heap.size) (hlo : lo ≤ hi) (hk : k = 2) (h2 : sg.length < 200) (hq3 : memB f m = true) (hq2 : decide (l ∈ ls) = true) (hq4 : hasP e m l sg = false) (hq5 : decide (m ∈ li) = false) (hq6 : hasP e m (-1) sg = false) :
    Calls Try.prog 54 #[.agg #[.int .i64 f, .int .i64 e, .slice sa sn sc, .slice la ln lc, .slice ta tn tc], .agg #[.int .i64 k, .int .i64 m, .int .i64 l]] w fun r w' => StOk r w w' lo hi ⟨f, e, sg ++ [[e, m, l]], li, ls⟩ true := by
  have G := good_is hg
  have HS : Hid (sg.length = sn) := ho.rd.sl
  have HL : Hid (li.length = ln) := ho.rd.ll
  have HT : Hid (ls.length = tn) := ho.rd.tl
  have hsn : sn ≤ 200 := by rw [← HS.out]; exact (sgsB_all G.sgOk).1
  have hln : ln ≤ 2 := by have := G.ln; have := G.f2; rw [HL.out] at *; omega
  have htn : tn ≤ 10 := by rw [← HT.out]; exact G.tn
  have HG : Hid (sgsB f sg = true) := G.sgOk
  obtain ⟨M, hM⟩ : ∃ M, 3 * f + 1 = M := ⟨_, rfl⟩
  have hM1 : 1 ≤ M := by have := G.f0; omega
  have hM7 : M ≤ 7 := by have := G.f2; omega
  have q0 : ∀ wx, Calls Try.prog 31 #[.int .i64 f] wx fun e w' => e = .returned (.tuple #[.int .i64 M, .int .i64 (2 * f + 1), .bool true]) ∧ w' = wx := fun wx => by
    have h := specQuo_c f wx
    have h2 : inB f 0 2 = true := inB_iff.2 ⟨G.f0, G.f2⟩
    simp only [quoF, h2, if_true, hM] at h
    exact h
  have q3 : ∀ wx, Calls Try.prog 73 #[.int .i64 m, .int .i64 0, .int .i64 (M - 1)] wx fun e w' => e = .returned (.bool true) ∧ w' = wx := fun wx => by
    have h := l1In_c m 0 (M - 1) wx
    rw [show M - 1 = 3 * f by omega, show decide (0 ≤ m ∧ m ≤ 3 * f) = true from hq3, show 3 * f = M - 1 by omega] at h
    exact h
  have q2 := fun wx (h : Rd wx ta ls) => l1Has_c ta tn tc l ls wx HT.out (by omega) h
  rw [hq2] at q2
  have q4 := fun wx (h : RdII wx sa sg) => l13Has_c f e sa sn sc la ln lc ta tn tc sg li ls e m l wx HS.out h HG.out
  rw [hq4] at q4
  have q5 := fun wx (h : Rd wx la li) => l1Has_c la ln lc m li wx HL.out (by omega) h
  rw [hq5] at q5
  have q6 := fun wx (h : RdII wx sa sg) => l13Has_c f e sa sn sc la ln lc ta tn tc sg li ls e m (-1) wx HS.out h HG.out
  rw [hq6] at q6
  subst hk
  have h3 : (sn : Int) < 200 := by rw [HS.out] at h2; omega
  clear G hg hM hq3 hq2 hq4 hq5 hq6 h2
  have HB_0 : Hid (Below w.heap.size w w) := Below.refl _ _
  have OB_0 : Hid (OwnBd w lo hi (.slice sa sn sc) (.slice la ln lc) (.slice ta tn tc) ⟨f, e, sg, li, ls⟩) := ho
  clear ho
  have hHB := HB_0.out.alloc HB_0.out.size (.cells #[.int .i64 f, .int .i64 e, .slice sa sn sc, .slice la ln lc, .slice ta tn tc] 29)
  have hOB := OB_0.out.later (balloc w (.cells #[.int .i64 f, .int .i64 e, .slice sa sn sc, .slice la ln lc, .slice ta tn tc] 29))
  have hA := x5_new w (.int .i64 f) (.int .i64 e) (.slice sa sn sc) (.slice la ln lc) (.slice ta tn tc) 29 w.heap.size rfl
  have hz : (w.alloc (.cells #[.int .i64 f, .int .i64 e, .slice sa sn sc, .slice la ln lc, .slice ta tn tc] 29)).heap.size = w.heap.size + 1 := by simp
  obtain ⟨w1, hV1⟩ : ∃ V, w.alloc (.cells #[.int .i64 f, .int .i64 e, .slice sa sn sc, .slice la ln lc, .slice ta tn tc] 29) = V := ⟨_, rfl⟩
  rw [hV1] at hHB hOB hA hz
  have HB_1 : Hid (Below w.heap.size w w1) := hHB
  have OB_1 : Hid (OwnBd w1 lo hi (.slice sa sn sc) (.slice la ln lc) (.slice ta tn tc) ⟨f, e, sg, li, ls⟩) := hOB
  have A_1 : Hid (X5 w1 w.heap.size (.int .i64 f) (.int .i64 e) (.slice sa sn sc) (.slice la ln lc) (.slice ta tn tc)) := hA
  have z1 : w.heap.size + 1 ≤ w1.heap.size := by omega
  clear HB_0 OB_0 hHB hOB hA hz
  have hHB := HB_1.out.alloc HB_1.out.size (.cells #[.int .i64 2, .int .i64 m, .int .i64 l] 40)
  have hOB := OB_1.out.later (balloc w1 (.cells #[.int .i64 2, .int .i64 m, .int .i64 l] 40))
  have hA := A_1.out.later (balloc w1 (.cells #[.int .i64 2, .int .i64 m, .int .i64 l] 40))
  have hB := x3_new w1 (.int .i64 2) (.int .i64 m) (.int .i64 l) 40 w1.heap.size rfl
  have hz : (w1.alloc (.cells #[.int .i64 2, .int .i64 m, .int .i64 l] 40)).heap.size = w1.heap.size + 1 := by simp
  obtain ⟨w2, hV2⟩ : ∃ V, w1.alloc (.cells #[.int .i64 2, .int .i64 m, .int .i64 l] 40) = V := ⟨_, rfl⟩
  rw [hV2] at hHB hOB hA hB hz
  have HB_2 : Hid (Below w.heap.size w w2) := hHB
  have OB_2 : Hid (OwnBd w2 lo hi (.slice sa sn sc) (.slice la ln lc) (.slice ta tn tc) ⟨f, e, sg, li, ls⟩) := hOB
  have A_2 : Hid (X5 w2 w.heap.size (.int .i64 f) (.int .i64 e) (.slice sa sn sc) (.slice la ln lc) (.slice ta tn tc)) := hA
  have B_2 : Hid (X3 w2 w1.heap.size (.int .i64 2) (.int .i64 m) (.int .i64 l)) := hB
  have z2 : w1.heap.size + 1 ≤ w2.heap.size := by omega
  clear HB_1 OB_1 A_1 hHB hOB hA hB hz
  have hHB := HB_2.out.alloc HB_2.out.size (.cells #[.int .i64 0, .int .i64 0, .slice none 0 0, .slice none 0 0, .slice none 0 0] 29)
  have hOB := OB_2.out.later (balloc w2 (.cells #[.int .i64 0, .int .i64 0, .slice none 0 0, .slice none 0 0, .slice none 0 0] 29))
  have hA := A_2.out.later (balloc w2 (.cells #[.int .i64 0, .int .i64 0, .slice none 0 0, .slice none 0 0, .slice none 0 0] 29))
  have hB := B_2.out.later (balloc w2 (.cells #[.int .i64 0, .int .i64 0, .slice none 0 0, .slice none 0 0, .slice none 0 0] 29))
  have hR := x5_new w2 (.int .i64 0) (.int .i64 0) (.slice none 0 0) (.slice none 0 0) (.slice none 0 0) 29 w2.heap.size rfl
  have hz : (w2.alloc (.cells #[.int .i64 0, .int .i64 0, .slice none 0 0, .slice none 0 0, .slice none 0 0] 29)).heap.size = w2.heap.size + 1 := by simp
  obtain ⟨w3, hV3⟩ : ∃ V, w2.alloc (.cells #[.int .i64 0, .int .i64 0, .slice none 0 0, .slice none 0 0, .slice none 0 0] 29) = V := ⟨_, rfl⟩
  rw [hV3] at hHB hOB hA hB hR hz
  have HB_3 : Hid (Below w.heap.size w w3) := hHB
  have OB_3 : Hid (OwnBd w3 lo hi (.slice sa sn sc) (.slice la ln lc) (.slice ta tn tc) ⟨f, e, sg, li, ls⟩) := hOB
  have A_3 : Hid (X5 w3 w.heap.size (.int .i64 f) (.int .i64 e) (.slice sa sn sc) (.slice la ln lc) (.slice ta tn tc)) := hA
  have B_3 : Hid (X3 w3 w1.heap.size (.int .i64 2) (.int .i64 m) (.int .i64 l)) := hB
  have R_3 : Hid (X5 w3 w2.heap.size (.int .i64 0) (.int .i64 0) (.slice none 0 0) (.slice none 0 0) (.slice none 0 0)) := hR
  have z3 : w2.heap.size + 1 ≤ w3.heap.size := by omega
  clear HB_2 OB_2 A_2 B_2 hHB hOB hA hB hR hz
  go_enter Try.func54, Try.ntmps54
  obtain ⟨⟨Aq0, Aq1, Aq2, Aq3, Aq4⟩, Af⟩ := id (A_3.out)
  clear Af
  go_wp2_with fail
  clear hV1 hV2 hV3
  refine (q0 _).mono ?_
  clear Aq0 Aq1 Aq2 Aq3 Aq4
  rintro e w' ⟨rfl, hw⟩
  subst w'
  obtain ⟨⟨Aq0, Aq1, Aq2, Aq3, Aq4⟩, Af⟩ := id (A_3.out)
  clear Af
  obtain ⟨⟨Bq0, Bq1, Bq2⟩, Bf⟩ := id (B_3.out)
  clear Bf
  go_wp2_with fail
  refine (q3 _).mono ?_
  clear Aq0 Aq1 Aq2 Aq3 Aq4
  clear Bq0 Bq1 Bq2
  rintro e w' ⟨rfl, hw⟩
  subst w'
  obtain ⟨⟨Aq0, Aq1, Aq2, Aq3, Aq4⟩, Af⟩ := id (A_3.out)
  clear Af
  obtain ⟨⟨Bq0, Bq1, Bq2⟩, Bf⟩ := id (B_3.out)
  clear Bf
  go_wp2_with fail
  refine (q2 _ OB_3.out.rd.t).mono ?_
  clear Aq0 Aq1 Aq2 Aq3 Aq4
  clear Bq0 Bq1 Bq2
  rintro e w' ⟨rfl, hw⟩
  subst w'
  obtain ⟨⟨Aq0, Aq1, Aq2, Aq3, Aq4⟩, Af⟩ := id (A_3.out)
  clear Af
  obtain ⟨⟨Bq0, Bq1, Bq2⟩, Bf⟩ := id (B_3.out)
  clear Bf
  go_wp2_with fail
  refine (q4 _ OB_3.out.rd.s).mono ?_
  clear Aq0 Aq1 Aq2 Aq3 Aq4
  clear Bq0 Bq1 Bq2
  rintro e w4 ⟨rfl, hb⟩
  have hB : Below w3.heap.size w3 w4 := hb
  have HB_4 : Hid (Below w.heap.size w w4) := HB_3.out.trans (hB.mono HB_3.out.size)
  have OB_4 : Hid (OwnBd w4 lo hi (.slice sa sn sc) (.slice la ln lc) (.slice ta tn tc) ⟨f, e, sg, li, ls⟩) := OB_3.out.later hB
  have A_4 : Hid (X5 w4 w.heap.size (.int .i64 f) (.int .i64 e) (.slice sa sn sc) (.slice la ln lc) (.slice ta tn tc)) := A_3.out.later hB
  have B_4 : Hid (X3 w4 w1.heap.size (.int .i64 2) (.int .i64 m) (.int .i64 l)) := B_3.out.later hB
  have R_4 : Hid (X5 w4 w2.heap.size (.int .i64 0) (.int .i64 0) (.slice none 0 0) (.slice none 0 0) (.slice none 0 0)) := R_3.out.later hB
  have z4 : w3.heap.size ≤ w4.heap.size := hB.size
  clear hb hB HB_3 OB_3 A_3 B_3 R_3 
  obtain ⟨⟨Aq0, Aq1, Aq2, Aq3, Aq4⟩, Af⟩ := id (A_4.out)
  clear Af
  obtain ⟨⟨Bq0, Bq1, Bq2⟩, Bf⟩ := id (B_4.out)
  clear Bf
  go_wp2_with fail
  refine (q5 _ OB_4.out.rd.l).mono ?_
  clear Aq0 Aq1 Aq2 Aq3 Aq4
  clear Bq0 Bq1 Bq2
  rintro e w' ⟨rfl, hw⟩
  subst w'
  obtain ⟨⟨Aq0, Aq1, Aq2, Aq3, Aq4⟩, Af⟩ := id (A_4.out)
  clear Af
  obtain ⟨⟨Bq0, Bq1, Bq2⟩, Bf⟩ := id (B_4.out)
  clear Bf
  go_wp2_with fail
  refine (q6 _ OB_4.out.rd.s).mono ?_
  clear Aq0 Aq1 Aq2 Aq3 Aq4
  clear Bq0 Bq1 Bq2
  rintro e w5 ⟨rfl, hb⟩
  have hB : Below w4.heap.size w4 w5 := hb
  have HB_5 : Hid (Below w.heap.size w w5) := HB_4.out.trans (hB.mono HB_4.out.size)
  have OB_5 : Hid (OwnBd w5 lo hi (.slice sa sn sc) (.slice la ln lc) (.slice ta tn tc) ⟨f, e, sg, li, ls⟩) := OB_4.out.later hB
  have A_5 : Hid (X5 w5 w.heap.size (.int .i64 f) (.int .i64 e) (.slice sa sn sc) (.slice la ln lc) (.slice ta tn tc)) := A_4.out.later hB
  have B_5 : Hid (X3 w5 w1.heap.size (.int .i64 2) (.int .i64 m) (.int .i64 l)) := B_4.out.later hB
  have R_5 : Hid (X5 w5 w2.heap.size (.int .i64 0) (.int .i64 0) (.slice none 0 0) (.slice none 0 0) (.slice none 0 0)) := R_4.out.later hB
  have z5 : w4.heap.size ≤ w5.heap.size := hB.size
  clear hb hB HB_4 OB_4 A_4 B_4 R_4 
  obtain ⟨gq, cap, w99, r1, hpu, hrg⟩ := OB_5.out.pushW (by omega) (by omega) (by show sg.length ≤ 1000; rw [HS.out]; omega) e m l f e
  simp only [HS.out] at r1 hpu
  have hz9 : w5.heap.size ≤ w99.heap.size := hrg.size
  obtain ⟨⟨pA0, pA1, pA2, pA3, pA4⟩, _⟩ := id (A_5.out)
  obtain ⟨⟨pB0, pB1, pB2⟩, _⟩ := id (B_5.out)
  have hA9 := A_5.out.rngP hrg (by omega)
  have hR9 := R_5.out.rngP hrg (by omega)
  have hW9 : RngP (fun k => lo ≤ k ∧ k < hi) w w99 := (below_toP HB_5.out).trans hrg
  have hA10 := hA9.set2 (.slice (some ⟨gq, 0, none⟩) (sn + 1) cap)
  have hR10 := hR9.other (r' := w.heap.size) (j' := 2) (u := .slice (some ⟨gq, 0, none⟩) (sn + 1) cap) (by omega)
  obtain ⟨⟨oA0, oA1, oA2, oA3, oA4⟩, oAf⟩ := hA9
  have oAf2 := oAf 2
  have hrF : RngP (fun k => w.heap.size ≤ k ∧ k < w5.heap.size) w99 ((((((w99.setCell ⟨w.heap.size, 2, none⟩ (.slice (some ⟨gq, 0, none⟩) (sn + 1) cap)).setCell ⟨w2.heap.size, 0, none⟩ (.int .i64 f)).setCell ⟨w2.heap.size, 1, none⟩ (.int .i64 e)).setCell ⟨w2.heap.size, 2, none⟩ (.slice (some ⟨gq, 0, none⟩) (sn + 1) cap)).setCell ⟨w2.heap.size, 3, none⟩ (.slice la ln lc)).setCell ⟨w2.heap.size, 4, none⟩ (.slice ta tn tc)) := ((((((RngP.ofGrown (pp := fun k => w.heap.size ≤ k ∧ k < w5.heap.size) (grown_setCell w99 (w.heap.size) 2 (.slice (some ⟨gq, 0, none⟩) (sn + 1) cap)) (fun k e => by have := Option.some.inj e; omega)).trans (RngP.ofGrown (grown_setCell (w99.setCell ⟨w.heap.size, 2, none⟩ (.slice (some ⟨gq, 0, none⟩) (sn + 1) cap)) (w2.heap.size) 0 (.int .i64 f)) (fun k e => by have := Option.some.inj e; omega))).trans (RngP.ofGrown (grown_setCell ((w99.setCell ⟨w.heap.size, 2, none⟩ (.slice (some ⟨gq, 0, none⟩) (sn + 1) cap)).setCell ⟨w2.heap.size, 0, none⟩ (.int .i64 f)) (w2.heap.size) 1 (.int .i64 e)) (fun k e => by have := Option.some.inj e; omega))).trans (RngP.ofGrown (grown_setCell (((w99.setCell ⟨w.heap.size, 2, none⟩ (.slice (some ⟨gq, 0, none⟩) (sn + 1) cap)).setCell ⟨w2.heap.size, 0, none⟩ (.int .i64 f)).setCell ⟨w2.heap.size, 1, none⟩ (.int .i64 e)) (w2.heap.size) 2 (.slice (some ⟨gq, 0, none⟩) (sn + 1) cap)) (fun k e => by have := Option.some.inj e; omega))).trans (RngP.ofGrown (grown_setCell ((((w99.setCell ⟨w.heap.size, 2, none⟩ (.slice (some ⟨gq, 0, none⟩) (sn + 1) cap)).setCell ⟨w2.heap.size, 0, none⟩ (.int .i64 f)).setCell ⟨w2.heap.size, 1, none⟩ (.int .i64 e)).setCell ⟨w2.heap.size, 2, none⟩ (.slice (some ⟨gq, 0, none⟩) (sn + 1) cap)) (w2.heap.size) 3 (.slice la ln lc)) (fun k e => by have := Option.some.inj e; omega))).trans (RngP.ofGrown (grown_setCell (((((w99.setCell ⟨w.heap.size, 2, none⟩ (.slice (some ⟨gq, 0, none⟩) (sn + 1) cap)).setCell ⟨w2.heap.size, 0, none⟩ (.int .i64 f)).setCell ⟨w2.heap.size, 1, none⟩ (.int .i64 e)).setCell ⟨w2.heap.size, 2, none⟩ (.slice (some ⟨gq, 0, none⟩) (sn + 1) cap)).setCell ⟨w2.heap.size, 3, none⟩ (.slice la ln lc)) (w2.heap.size) 4 (.slice ta tn tc)) (fun k e => by have := Option.some.inj e; omega)))
  have hZF := (((((hR10.set0 (.int .i64 f)).set1 (.int .i64 e)).set2 (.slice (some ⟨gq, 0, none⟩) (sn + 1) cap)).set3 (.slice la ln lc)).set4 (.slice ta tn tc))
  obtain ⟨⟨y0, y1, y2, y3, y4⟩, yf⟩ := id hR10
  have yf0 := yf 0
  have yf1 := yf 1
  have yf2 := yf 2
  have yf3 := yf 3
  have yf4 := yf 4
  obtain ⟨w10, hV10⟩ : ∃ V, (w99.setCell ⟨w.heap.size, 2, none⟩ (.slice (some ⟨gq, 0, none⟩) (sn + 1) cap)) = V := ⟨_, rfl⟩
  obtain ⟨⟨uA0, uA1, uA2, uA3, uA4⟩, _⟩ := id hA10
  rw [hV10] at hZF hrF y0 y1 y2 y3 y4 yf0 yf1 yf2 yf3 yf4 uA0 uA1 uA2 uA3 uA4
  obtain ⟨FW, hFW⟩ : ∃ F, (((((w10.setCell ⟨w2.heap.size, 0, none⟩ (.int .i64 f)).setCell ⟨w2.heap.size, 1, none⟩ (.int .i64 e)).setCell ⟨w2.heap.size, 2, none⟩ (.slice (some ⟨gq, 0, none⟩) (sn + 1) cap)).setCell ⟨w2.heap.size, 3, none⟩ (.slice la ln lc)).setCell ⟨w2.heap.size, 4, none⟩ (.slice ta tn tc)) = F := ⟨_, rfl⟩
  rw [hFW] at hZF hrF
  obtain ⟨⟨t0, t1, t2, t3, t4⟩, _⟩ := hZF
  have HFB := hid_of (hpu FW (hrF.imp (fun k h => ⟨by omega, h.2⟩)))
  have hz10 := hrF.size
  have HWF : Hid (RngP (fun k => lo ≤ k ∧ k < hi) w FW) := ⟨hrF.os.trans hW9.os, hrF.tape.trans hW9.tape, hrF.output.trans hW9.output, Nat.le_trans hW9.size hrF.size, fun q hq hn => (hrF.block q (by have := hW9.size; omega) (fun h => by omega)).trans (hW9.block q hq hn)⟩
  clear hpu hrg hrF hW9 hA10 hR10 hR9 oAf yf HB_5 OB_5 A_5 B_5 R_5
  go_wp2_with (first | (at_builtin; refine Lib.wpList_append_run _ rfl _ _ _ _ rfl _ _ rfl rfl _ _ (r1 _) ?_; clear r1) | fail)
  refine bodyPost_ret (v := .tuple #[.agg #[.int .i64 f, .int .i64 e, .slice (some ⟨gq, 0, none⟩) (sn + 1) cap, .slice la ln lc, .slice ta tn tc], .bool true]) (by simp [results, Try.results54, go_sem, t0, t1, t2, t3, t4]; try rfl) rfl ?_
  refine ⟨some ⟨gq, 0, none⟩, cap, la, lc, ta, tc, ?_, ?_, HWF.out⟩
  · simp only [List.length_append, List.length_cons, List.length_nil, Nat.zero_add, HS.out, HL.out, HT.out]
  · simp only [List.length_append, List.length_cons, List.length_nil, Nat.zero_add, HS.out, HL.out, HT.out]
    exact HFB.out

theorem stepO_p {b : BdV} {m l : Int} : stepO b 1 m l = if m = 0 ∧ inB l 0 9 = true ∧ l ∉ b.ls then some ⟨b.f, b.e, b.sg, b.li, insL ltI l b.ls⟩ else none := by
  unfold stepO
  by_cases h : m = 0 ∧ inB l 0 9 = true ∧ l ∉ b.ls
  · rw [if_pos ⟨rfl, h⟩, if_pos h]
  · rw [if_neg (fun x => h x.2), if_neg (fun x => by have := x.1; omega), if_neg (fun x => by have := x.1; omega), if_neg h]
theorem stepO_s {b : BdV} {m l : Int} : stepO b 2 m l = if maySB b m l = true ∧ b.sg.length < 200 then some ⟨b.f, b.e, b.sg ++ [[b.e, m, l]], b.li, b.ls⟩ else none := by
  unfold stepO
  rw [if_neg (fun x => by have := x.1; omega)]
  by_cases h : maySB b m l = true ∧ b.sg.length < 200
  · rw [if_pos ⟨rfl, h⟩, if_pos h]
  · rw [if_neg (fun x => h x.2), if_neg (fun x => by have := x.1; omega), if_neg h]
theorem stepO_e {b : BdV} {m l : Int} : stepO b 3 m l = if m = 0 ∧ l = 0 ∧ b.e < 20 then some ⟨b.f, b.e + 1, b.sg, b.li, []⟩ else none := by
  unfold stepO
  rw [if_neg (fun x => by have := x.1; omega), if_neg (fun x => by have := x.1; omega)]
  by_cases h : m = 0 ∧ l = 0 ∧ b.e < 20
  · rw [if_pos ⟨rfl, h⟩, if_pos h]
  · rw [if_neg (fun x => h x.2), if_neg h]
theorem l13Step_c (f e : Int) (sa : Option Addr) (sn sc : Nat) (la : Option Addr) (ln lc : Nat) (ta : Option Addr) (tn tc : Nat) (sg : List (List Int)) (li ls : List Int) (k m l : Int) (lo hi : Nat) (w : World) (hg : goodBd ⟨f, e, sg, li, ls⟩ = true) (ho : OwnBd w lo hi (.slice sa sn sc) (.slice la ln lc) (.slice ta tn tc) ⟨f, e, sg, li, ls⟩) (hhi : hi ≤ w.heap.size) (hlo : lo ≤ hi) :
    Calls Try.prog 54 #[.agg #[.int .i64 f, .int .i64 e, .slice sa sn sc, .slice la ln lc, .slice ta tn tc], .agg #[.int .i64 k, .int .i64 m, .int .i64 l]] w fun r w' => StOk r w w' lo hi ((stepO ⟨f, e, sg, li, ls⟩ k m l).getD ⟨f, e, sg, li, ls⟩) (stepO ⟨f, e, sg, li, ls⟩ k m l).isSome := by
  have hl0 : l ∈ ls → 0 ≤ l := fun h => by
    exact ((good_is hg).tm l h).1
  by_cases h1 : k = 1
  · rw [h1, stepO_p, ← h1]
    by_cases h2 : m = 0
    · cases hq1 : inB l 0 9
      · rw [if_neg (fun h => by simp at h)]
        exact l13Step_a1 f e sa sn sc la ln lc ta tn tc sg li ls k m l lo hi w hg ho hhi hlo h1 h2 hq1
      · by_cases hq2 : l ∈ ls
        · rw [if_neg (fun h => h.2.2 hq2)]
          exact l13Step_a2 f e sa sn sc la ln lc ta tn tc sg li ls k m l lo hi w hg ho hhi hlo h1 h2 hq1 (decide_eq_true hq2)
        · rw [if_pos ⟨h2, rfl, hq2⟩]
          exact l13Step_p f e sa sn sc la ln lc ta tn tc sg li ls k m l lo hi w hg ho hhi hlo h1 h2 hq1 (decide_eq_false hq2)
    · rw [if_neg (fun h => h2 h.1)]
      exact l13Step_a3 f e sa sn sc la ln lc ta tn tc sg li ls k m l lo hi w hg ho hhi hlo h1 h2
  by_cases h2 : k = 2
  · rw [h2, stepO_s, ← h2, may_spec (b := ⟨f, e, sg, li, ls⟩) hl0]
    simp only []
    cases hq3 : memB f m
    · rw [if_neg (fun h => by simp at h)]
      exact l13Step_s1 f e sa sn sc la ln lc ta tn tc sg li ls k m l lo hi w hg ho hhi hlo h2 hq3
    by_cases hq2 : l ∈ ls
    case neg =>
      rw [if_neg (fun h => by simp [hq2] at h)]
      exact l13Step_s2 f e sa sn sc la ln lc ta tn tc sg li ls k m l lo hi w hg ho hhi hlo h2 hq3 (decide_eq_false hq2)
    by_cases h3 : sg.length < 200
    case neg =>
      rw [if_neg (fun h => h3 h.2)]
      exact l13Step_s3 f e sa sn sc la ln lc ta tn tc sg li ls k m l lo hi w hg ho hhi hlo h2 (by omega) hq3 (decide_eq_true hq2)
    cases hq4 : hasP e m l sg
    case true =>
      rw [if_neg (fun h => by simp at h)]
      exact l13Step_s4 f e sa sn sc la ln lc ta tn tc sg li ls k m l lo hi w hg ho hhi hlo h2 h3 hq3 (decide_eq_true hq2) hq4
    by_cases hq5 : m ∈ li
    case pos =>
      rw [if_pos ⟨by simp [hq2, hq5], h3⟩]
      exact l13Step_s5 f e sa sn sc la ln lc ta tn tc sg li ls k m l lo hi w hg ho hhi hlo h2 h3 hq3 (decide_eq_true hq2) hq4 (decide_eq_true hq5)
    cases hq6 : hasP e m (-1) sg
    · rw [if_pos ⟨by simp [hq2], h3⟩]
      exact l13Step_s7 f e sa sn sc la ln lc ta tn tc sg li ls k m l lo hi w hg ho hhi hlo h2 h3 hq3 (decide_eq_true hq2) hq4 (decide_eq_false hq5) hq6
    · rw [if_neg (fun h => by simp [hq5] at h)]
      exact l13Step_s6 f e sa sn sc la ln lc ta tn tc sg li ls k m l lo hi w hg ho hhi hlo h2 h3 hq3 (decide_eq_true hq2) hq4 (decide_eq_false hq5) hq6
  by_cases h3 : k = 3
  · rw [h3, stepO_e, ← h3]
    by_cases h4 : m = 0
    · by_cases h5 : l = 0
      · by_cases h6 : e < 20
        · rw [if_pos ⟨h4, h5, h6⟩]
          exact l13Step_e1 f e sa sn sc la ln lc ta tn tc sg li ls k m l lo hi w hg ho hhi hlo h3 h4 h5 h6
        · rw [if_neg (fun h => h6 h.2.2)]
          exact l13Step_e2 f e sa sn sc la ln lc ta tn tc sg li ls k m l lo hi w hg ho hhi hlo h3 h4 h5 (by omega)
      · rw [if_neg (fun h => h5 h.2.1)]
        exact l13Step_e4 f e sa sn sc la ln lc ta tn tc sg li ls k m l lo hi w hg ho hhi hlo h3 h4 h5
    · rw [if_neg (fun h => h4 h.1)]
      exact l13Step_e3 f e sa sn sc la ln lc ta tn tc sg li ls k m l lo hi w hg ho hhi hlo h3 h4
  rw [stepO, if_neg (fun h => h1 h.1), if_neg (fun h => h2 h.1), if_neg (fun h => h3 h.1)]
  exact l13Step_o f e sa sn sc la ln lc ta tn tc sg li ls k m l lo hi w hg ho hhi hlo h1 h2 h3

end Go.Proofs.Ytaokmjbhgkfnfaa
