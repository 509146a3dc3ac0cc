/- Chapter 13: StepBoard of the program: steps that are done. -/
import Derived.Test.YtaokmjbhgkfnfaaSI13s
import Derived.ChangeKeysEq
namespace Go.Proofs.Ytaokmjbhgkfnfaa
set_option linter.unusedVariables false
set_option maxRecDepth 1000000
set_option linter.unusedSimpArgs false
open Go.RowKit

theorem OwnBd.cell {w : World} {lo hi : Nat} {S L T : Value} {b : BdV} (h : OwnBd w lo hi S L T b) {r j : Nat} (hr : r < lo ∨ hi ≤ r) (u : Value) : OwnBd (w.setCell ⟨r, j, none⟩ u) lo hi S L T b :=
  h.rng (qq := fun k => k = r) (RngP.ofGrown (grown_setCell w r j u) (fun k e => by simpa using e.symm)) (fun k h1 h2 e => by omega)

/-- A signature is put behind the others. -/
theorem OwnBd.pushAt {w : World} {lo hi : Nat} {sa : Option Addr} {sn sc : Nat} {L T : Value} {b : BdV} (h : OwnBd w lo hi (.slice sa sn sc) L T b) (hs : hi ≤ w.heap.size) (hlo : lo ≤ w.heap.size) (hn : b.sg.length ≤ 1000) (x y z f e : Int) (r j : Nat) (hr1 : hi ≤ r) (hr2 : r < w.heap.size) :
    ∃ g cap w', (∀ ty, (Builtin.append_ #[27, 27] ty #[.slice sa sn sc, .slice (some ⟨w.heap.size + 1, 0, none⟩) 1 1]).run Try.prog ((w.alloc (.cells #[.int .i64 x, .int .i64 y, .int .i64 z] 3)).alloc (.cells #[.slice (some ⟨w.heap.size, 0, none⟩) 3 3] 23)) = .ok (.slice (some ⟨g, 0, none⟩) (b.sg.length + 1) cap) w') ∧ OwnBd (w'.setCell ⟨r, j, none⟩ (.slice (some ⟨g, 0, none⟩) (b.sg.length + 1) cap)) lo w'.heap.size (.slice (some ⟨g, 0, none⟩) (b.sg.length + 1) cap) L T ⟨f, e, b.sg ++ [[x, y, z]], b.li, b.ls⟩ ∧ RngP (fun k => lo ≤ k ∧ k < hi) w w' := by
  have hb := balloc w (.cells #[.int .i64 x, .int .i64 y, .int .i64 z] 3)
  have hsz : (w.alloc (.cells #[.int .i64 x, .int .i64 y, .int .i64 z] 3)).heap.size = w.heap.size + 1 := by simp
  obtain ⟨pp, h1, h2, h3, h4⟩ := h.ex
  have hu : Own (w.alloc (.cells #[.int .i64 x, .int .i64 y, .int .i64 z] 3)) w.heap.size (.slice (some ⟨w.heap.size, 0, none⟩) 3 3) [x, y, z] :=
    ⟨rfl, .inr ⟨w.heap.size, 3, #[.int .i64 x, .int .i64 y, .int .i64 z], rfl, Nat.le_refl _, (by show (w.heap.push _)[w.heap.size]? = _; simp), Nat.le_refl _, by unfold maxLen; omega, rfl, rfl⟩⟩
  obtain ⟨g, cap, w', r1, o1, rg⟩ := pushIP_run (w.alloc (.cells #[.int .i64 x, .int .i64 y, .int .i64 z] 3)) lo pp (.slice sa sn sc) b.sg (some ⟨w.heap.size, 0, none⟩) 3 3 [x, y, z] (h1.later hb) (hu.mono hlo) (fun k hk hp => by simp only [Value.ownBlock, Option.some.injEq] at hk; have := h2 k hp; omega) (by omega) (by omega) (fun k hk => by have := h2 k hk; omega)
  rw [hsz] at r1 o1
  have hr0 : RngP pp w (w.alloc (.cells #[.int .i64 x, .int .i64 y, .int .i64 z] 3)) := ⟨hb.os, hb.tape, hb.output, hb.size, fun q hq _ => hb.block q hq⟩
  have hr := hr0.trans rg
  have hrs : RngP (fun k => k = r) w' (w'.setCell ⟨r, j, none⟩ (.slice (some ⟨g, 0, none⟩) (b.sg.length + 1) cap)) := RngP.ofGrown (grown_setCell _ _ _ _) (fun k e => by simpa using e.symm)
  have hbd : ∀ k, (pp k ∨ (Value.slice (some ⟨w.heap.size, 0, none⟩) 3 3).ownBlock = some k ∨ k = w.heap.size + 1 + 1) → lo ≤ k := fun k hk => by
    rcases hk with hk | hk | hk
    · exact (h2 k hk).1
    · simp only [Value.ownBlock, Option.some.injEq] at hk; omega
    · omega
  refine ⟨g, cap, w', r1, ⟨⟨fun k => (pp k ∨ (Value.slice (some ⟨w.heap.size, 0, none⟩) 3 3).ownBlock = some k ∨ k = w.heap.size + 1 + 1) ∧ k < w'.heap.size, ?_, fun k hk => ⟨hbd k hk.1, hk.2⟩, fun k hk => ?_, fun k hk => ?_⟩, (h.li.rngP hr (fun k hk => (h3 k hk).1)).rngP hrs (fun k hk e => by have := (h3 k hk).2; omega), (h.ls.rngP hr (fun k hk => (h4 k hk).1)).rngP hrs (fun k hk e => by have := (h4 k hk).2; omega), h.sep⟩, hr.imp h2⟩
  · refine OwnIP.setBox ?_ (fun hq => ?_) _
    rotate_left
    · rcases hq.1 with hq | hq | hq
      · have := h2 r hq; omega
      · simp only [Value.ownBlock, Option.some.injEq] at hq; omega
      · omega
    obtain ⟨vs, a1, a2, a3, a4, a5, a6⟩ := o1
    exact ⟨vs, a1, a2, a3, a4, fun k hk => ⟨a5 k hk, (World.ownsRow.lt a2 k hk).2⟩, fun j hj k hk => ⟨a6 j hj k hk, (World.ownsRow.lt (a3 j hj) k hk).2⟩⟩
  · refine ⟨fun hq => ?_, by have := (h3 k hk).2; have := hr.size; omega⟩
    have h5 := (h3 k hk).2
    rcases hq.1 with hq | hq | hq
    · exact (h3 k hk).1 hq
    · simp only [Value.ownBlock, Option.some.injEq] at hq; omega
    · omega
  · refine ⟨fun hq => ?_, by have := (h4 k hk).2; have := hr.size; omega⟩
    have h5 := (h4 k hk).2
    rcases hq.1 with hq | hq | hq
    · exact (h4 k hk).1 hq
    · simp only [Value.ownBlock, Option.some.injEq] at hq; omega
    · omega

set_option maxHeartbeats 4000000 in
theorem implStep_bad (f e : Int) (sa : Option Addr) (sn sc : Nat) (la : Option Addr) (ln lc : Nat) (ta : Option Addr) (tn tc : Nat) (sg : List (List Int)) (li ls : List Int) (k m l : Int) (w : World) (hg : goodBd ⟨f, e, sg, li, ls⟩ = false) (hr : RdBd w sa sn sc la ln lc ta tn tc ⟨f, e, sg, li, ls⟩) (hnn : RdNN w sa sg) (hsn : sn ≤ 1048576) (hln : ln ≤ 1048576) (htn : tn ≤ 1048576) :
    Calls Try.prog 20 #[.agg #[.int .i64 f, .int .i64 e, .slice sa sn sc, .slice la ln lc, .slice ta tn tc], .agg #[.int .i64 k, .int .i64 m, .int .i64 l]] w fun r w' => BdOk r w w' (stepV ⟨f, e, sg, li, ls⟩ k m l) (stepB ⟨f, e, sg, li, ls⟩ k m l) := by
  have q0 := fun wx (h1 : RdII wx sa sg) (h2 : Rd wx la li) (h3 : Rd wx ta ls) => implGood_c f e sa sn sc la ln lc ta tn tc sg li ls wx hr.sl (by omega) hr.ll (by omega) hr.tl (by omega) h1 h2 h3
  rw [hg] at q0
  have HV : Hid (stepB ⟨f, e, sg, li, ls⟩ k m l = false ∧ stepV ⟨f, e, sg, li, ls⟩ k m l = zeroBd) := step_bad hg
  clear hg
  have HB_0 : Hid (Below w.heap.size w w) := Below.refl _ _
  have RS_0 : Hid (RdII w sa sg) := hr.s
  have NN_0 : Hid (RdNN w sa sg) := hnn
  have RL_0 : Hid (Rd w la li) := hr.l
  have RT_0 : Hid (Rd w ta ls) := hr.t
  clear hr hnn
  have hHB := HB_0.out.alloc HB_0.out.size (.cells #[.int .i64 f, .int .i64 e, .slice sa sn sc, .slice la ln lc, .slice ta tn tc] 29)
  have hRS := RS_0.out.later (balloc w (.cells #[.int .i64 f, .int .i64 e, .slice sa sn sc, .slice la ln lc, .slice ta tn tc] 29))
  have hNN := NN_0.out.later (balloc w (.cells #[.int .i64 f, .int .i64 e, .slice sa sn sc, .slice la ln lc, .slice ta tn tc] 29))
  have hRL := RL_0.out.later (balloc w (.cells #[.int .i64 f, .int .i64 e, .slice sa sn sc, .slice la ln lc, .slice ta tn tc] 29))
  have hRT := RT_0.out.later (balloc w (.cells #[.int .i64 f, .int .i64 e, .slice sa sn sc, .slice la ln lc, .slice ta tn tc] 29))
  have hA := x5_new w (.int .i64 f) (.int .i64 e) (.slice sa sn sc) (.slice la ln lc) (.slice ta tn tc) 29 w.heap.size rfl
  have hz : (w.alloc (.cells #[.int .i64 f, .int .i64 e, .slice sa sn sc, .slice la ln lc, .slice ta tn tc] 29)).heap.size = w.heap.size + 1 := by simp
  obtain ⟨w1, hV1⟩ : ∃ V, w.alloc (.cells #[.int .i64 f, .int .i64 e, .slice sa sn sc, .slice la ln lc, .slice ta tn tc] 29) = V := ⟨_, rfl⟩
  rw [hV1] at hHB hRS hNN hRL hRT hA hz
  have HB_1 : Hid (Below w.heap.size w w1) := hHB
  have RS_1 : Hid (RdII w1 sa sg) := hRS
  have NN_1 : Hid (RdNN w1 sa sg) := hNN
  have RL_1 : Hid (Rd w1 la li) := hRL
  have RT_1 : Hid (Rd w1 ta ls) := hRT
  have A_1 : Hid (X5 w1 w.heap.size (.int .i64 f) (.int .i64 e) (.slice sa sn sc) (.slice la ln lc) (.slice ta tn tc)) := hA
  have z1 : w.heap.size + 1 ≤ w1.heap.size := by omega
  clear HB_0 RS_0 NN_0 RL_0 RT_0 hHB hRS hNN hRL hRT hA hz
  have hHB := HB_1.out.alloc HB_1.out.size (.cells #[.int .i64 k, .int .i64 m, .int .i64 l] 40)
  have hRS := RS_1.out.later (balloc w1 (.cells #[.int .i64 k, .int .i64 m, .int .i64 l] 40))
  have hNN := NN_1.out.later (balloc w1 (.cells #[.int .i64 k, .int .i64 m, .int .i64 l] 40))
  have hRL := RL_1.out.later (balloc w1 (.cells #[.int .i64 k, .int .i64 m, .int .i64 l] 40))
  have hRT := RT_1.out.later (balloc w1 (.cells #[.int .i64 k, .int .i64 m, .int .i64 l] 40))
  have hA := A_1.out.later (balloc w1 (.cells #[.int .i64 k, .int .i64 m, .int .i64 l] 40))
  have hB := x3_new w1 (.int .i64 k) (.int .i64 m) (.int .i64 l) 40 w1.heap.size rfl
  have hz : (w1.alloc (.cells #[.int .i64 k, .int .i64 m, .int .i64 l] 40)).heap.size = w1.heap.size + 1 := by simp
  obtain ⟨w2, hV2⟩ : ∃ V, w1.alloc (.cells #[.int .i64 k, .int .i64 m, .int .i64 l] 40) = V := ⟨_, rfl⟩
  rw [hV2] at hHB hRS hNN hRL hRT hA hB hz
  have HB_2 : Hid (Below w.heap.size w w2) := hHB
  have RS_2 : Hid (RdII w2 sa sg) := hRS
  have NN_2 : Hid (RdNN w2 sa sg) := hNN
  have RL_2 : Hid (Rd w2 la li) := hRL
  have RT_2 : Hid (Rd w2 ta ls) := hRT
  have A_2 : Hid (X5 w2 w.heap.size (.int .i64 f) (.int .i64 e) (.slice sa sn sc) (.slice la ln lc) (.slice ta tn tc)) := hA
  have B_2 : Hid (X3 w2 w1.heap.size (.int .i64 k) (.int .i64 m) (.int .i64 l)) := hB
  have z2 : w1.heap.size + 1 ≤ w2.heap.size := by omega
  clear HB_1 RS_1 NN_1 RL_1 RT_1 A_1 hHB hRS hNN hRL hRT hA hB hz
  have hHB := HB_2.out.alloc HB_2.out.size (.cells #[.int .i64 0, .int .i64 0, .slice none 0 0, .slice none 0 0, .slice none 0 0] 29)
  have hRS := RS_2.out.later (balloc w2 (.cells #[.int .i64 0, .int .i64 0, .slice none 0 0, .slice none 0 0, .slice none 0 0] 29))
  have hNN := NN_2.out.later (balloc w2 (.cells #[.int .i64 0, .int .i64 0, .slice none 0 0, .slice none 0 0, .slice none 0 0] 29))
  have hRL := RL_2.out.later (balloc w2 (.cells #[.int .i64 0, .int .i64 0, .slice none 0 0, .slice none 0 0, .slice none 0 0] 29))
  have hRT := RT_2.out.later (balloc w2 (.cells #[.int .i64 0, .int .i64 0, .slice none 0 0, .slice none 0 0, .slice none 0 0] 29))
  have hA := A_2.out.later (balloc w2 (.cells #[.int .i64 0, .int .i64 0, .slice none 0 0, .slice none 0 0, .slice none 0 0] 29))
  have hB := B_2.out.later (balloc w2 (.cells #[.int .i64 0, .int .i64 0, .slice none 0 0, .slice none 0 0, .slice none 0 0] 29))
  have hR := x5_new w2 (.int .i64 0) (.int .i64 0) (.slice none 0 0) (.slice none 0 0) (.slice none 0 0) 29 w2.heap.size rfl
  have hz : (w2.alloc (.cells #[.int .i64 0, .int .i64 0, .slice none 0 0, .slice none 0 0, .slice none 0 0] 29)).heap.size = w2.heap.size + 1 := by simp
  obtain ⟨w3, hV3⟩ : ∃ V, w2.alloc (.cells #[.int .i64 0, .int .i64 0, .slice none 0 0, .slice none 0 0, .slice none 0 0] 29) = V := ⟨_, rfl⟩
  rw [hV3] at hHB hRS hNN hRL hRT hA hB hR hz
  have HB_3 : Hid (Below w.heap.size w w3) := hHB
  have RS_3 : Hid (RdII w3 sa sg) := hRS
  have NN_3 : Hid (RdNN w3 sa sg) := hNN
  have RL_3 : Hid (Rd w3 la li) := hRL
  have RT_3 : Hid (Rd w3 ta ls) := hRT
  have A_3 : Hid (X5 w3 w.heap.size (.int .i64 f) (.int .i64 e) (.slice sa sn sc) (.slice la ln lc) (.slice ta tn tc)) := hA
  have B_3 : Hid (X3 w3 w1.heap.size (.int .i64 k) (.int .i64 m) (.int .i64 l)) := hB
  have R_3 : Hid (X5 w3 w2.heap.size (.int .i64 0) (.int .i64 0) (.slice none 0 0) (.slice none 0 0) (.slice none 0 0)) := hR
  have z3 : w2.heap.size + 1 ≤ w3.heap.size := by omega
  clear HB_2 RS_2 NN_2 RL_2 RT_2 A_2 B_2 hHB hRS hNN hRL hRT hA hB hR hz
  go_enter Try.func20, Try.ntmps20
  obtain ⟨⟨Aq0, Aq1, Aq2, Aq3, Aq4⟩, Af⟩ := id (A_3.out)
  clear Af
  go_wp2_with fail
  clear hV1 hV2 hV3
  refine (q0 _ RS_3.out RL_3.out RT_3.out).mono ?_
  clear Aq0 Aq1 Aq2 Aq3 Aq4
  rintro e w4 ⟨rfl, hb⟩
  have hB : Below w3.heap.size w3 w4 := hb
  have HB_4 : Hid (Below w.heap.size w w4) := HB_3.out.trans (hB.mono HB_3.out.size)
  have RS_4 : Hid (RdII w4 sa sg) := RS_3.out.later hB
  have NN_4 : Hid (RdNN w4 sa sg) := NN_3.out.later hB
  have RL_4 : Hid (Rd w4 la li) := RL_3.out.later hB
  have RT_4 : Hid (Rd w4 ta ls) := RT_3.out.later hB
  have A_4 : Hid (X5 w4 w.heap.size (.int .i64 f) (.int .i64 e) (.slice sa sn sc) (.slice la ln lc) (.slice ta tn tc)) := A_3.out.later hB
  have B_4 : Hid (X3 w4 w1.heap.size (.int .i64 k) (.int .i64 m) (.int .i64 l)) := B_3.out.later hB
  have R_4 : Hid (X5 w4 w2.heap.size (.int .i64 0) (.int .i64 0) (.slice none 0 0) (.slice none 0 0) (.slice none 0 0)) := R_3.out.later hB
  have z4 : w3.heap.size ≤ w4.heap.size := hB.size
  clear hb hB HB_3 RS_3 NN_3 RL_3 RT_3 A_3 B_3 R_3 
  have hZF := (((((R_4.out.set0 (.int .i64 0)).set1 (.int .i64 0)).set2 (.slice none 0 0)).set3 (.slice none 0 0)).set4 (.slice none 0 0))
  have hBF : Below w.heap.size w (((((w4.setCell ⟨w2.heap.size, 0, none⟩ (.int .i64 0)).setCell ⟨w2.heap.size, 1, none⟩ (.int .i64 0)).setCell ⟨w2.heap.size, 2, none⟩ (.slice none 0 0)).setCell ⟨w2.heap.size, 3, none⟩ (.slice none 0 0)).setCell ⟨w2.heap.size, 4, none⟩ (.slice none 0 0)) := (((((HB_4.out.setCell (by show w.heap.size ≤ w2.heap.size; omega) _).setCell (by show w.heap.size ≤ w2.heap.size; omega) _).setCell (by show w.heap.size ≤ w2.heap.size; omega) _).setCell (by show w.heap.size ≤ w2.heap.size; omega) _).setCell (by show w.heap.size ≤ w2.heap.size; omega) _)
  obtain ⟨⟨y0, y1, y2, y3, y4⟩, yf⟩ := id (R_4.out)
  have yf0 := yf 0
  have yf1 := yf 1
  have yf2 := yf 2
  have yf3 := yf 3
  have yf4 := yf 4
  obtain ⟨FW, hFW⟩ : ∃ F, (((((w4.setCell ⟨w2.heap.size, 0, none⟩ (.int .i64 0)).setCell ⟨w2.heap.size, 1, none⟩ (.int .i64 0)).setCell ⟨w2.heap.size, 2, none⟩ (.slice none 0 0)).setCell ⟨w2.heap.size, 3, none⟩ (.slice none 0 0)).setCell ⟨w2.heap.size, 4, none⟩ (.slice none 0 0)) = F := ⟨_, rfl⟩
  rw [hFW] at hZF hBF
  obtain ⟨⟨t0, t1, t2, t3, t4⟩, _⟩ := hZF
  have HBF : Hid (Below w.heap.size w FW) := hBF
  clear hBF yf
  obtain ⟨⟨Aq0, Aq1, Aq2, Aq3, Aq4⟩, Af⟩ := id (A_4.out)
  clear Af
  obtain ⟨⟨Bq0, Bq1, Bq2⟩, Bf⟩ := id (B_4.out)
  clear Bf
  go_wp2
  refine bodyPost_ret (v := .tuple #[.agg #[.int .i64 0, .int .i64 0, .slice none 0 0, .slice none 0 0, .slice none 0 0], .bool false]) (by simp [results, Try.results20, go_sem, t0, t1, t2, t3, t4]; try rfl) rfl ?_
  exact ⟨none, 0, none, 0, none, 0, by rw [HV.out.1, HV.out.2]; rfl, by rw [HV.out.2]; exact zeroOwn _ _ _, HBF.out⟩

set_option maxHeartbeats 4000000 in
theorem implStep_p (f e : Int) (sa : Option Addr) (sn sc : Nat) (la : Option Addr) (ln lc : Nat) (ta : Option Addr) (tn tc : Nat) (sg : List (List Int)) (li ls : List Int) (k m l : Int) (w : World) (hg : goodBd ⟨f, e, sg, li, ls⟩ = true) (hr : RdBd w sa sn sc la ln lc ta tn tc ⟨f, e, sg, li, ls⟩) (hnn : RdNN w sa sg) (hk : k = 1) (hm : m = 0) (hz : (inB l 0 9 && !decide (l ∈ ls)) = true) :
    Calls Try.prog 20 #[.agg #[.int .i64 f, .int .i64 e, .slice sa sn sc, .slice la ln lc, .slice ta tn tc], .agg #[.int .i64 k, .int .i64 m, .int .i64 l]] w fun r w' => BdOk r w w' (stepV ⟨f, e, sg, li, ls⟩ k m l) (stepB ⟨f, e, sg, li, ls⟩ k m l) := by
  have G := good_is hg
  have hN0 := G.f0
  have HS : Hid (sg.length = sn) := hr.sl
  have HL : Hid (li.length = ln) := hr.ll
  have HT : Hid (ls.length = tn) := hr.tl
  have hsn : sn ≤ 200 := by rw [← HS.out]; exact (sgsB_all G.sgOk).1
  have hln : ln ≤ 2 := by have := G.ln; have := G.f2; rw [HL.out] at *; omega
  have htn : tn ≤ 10 := by rw [← HT.out]; exact G.tn
  have hsl : ∀ l ∈ sg, l.length ≤ 1000 := fun l hl => by have := (sigB_mem ((sgsB_all G.sgOk).2 l hl)).1; omega
  obtain ⟨N, hN⟩ : ∃ N : Nat, 3 * f + 1 = (N : Int) := ⟨(3 * f + 1).toNat, by have := G.f0; omega⟩
  have q0 := fun wx (h1 : RdII wx sa sg) (h2 : Rd wx la li) (h3 : Rd wx ta ls) => implGood_c f e sa sn sc la ln lc ta tn tc sg li ls wx hr.sl (by omega) hr.ll (by omega) hr.tl (by omega) h1 h2 h3
  rw [hg] at q0
  have q1 := fun wx (h1 : RdII wx sa sg) => openSitting_c f e sa sn sc la ln lc ta tn tc N sg wx G.f0 G.f2 hN hr.sl h1 G.sgOk
  have q2 := fun wx (h1 : RdNN wx sa sg) (h2 : Rd wx la li) (h3 : Rd wx ta ls) => copyOfBoard_c f e sa sn sc la ln lc ta tn tc sg li ls wx hr.sl (by omega) hr.ll (by omega) hr.tl (by omega) h1 h2 h3 hsl hr.lz hr.tz
  have HRl : Hid (Ris ltI li) := G.lr
  have HRt : Hid (Ris ltI ls) := G.tr
  have q3 := fun ga wx (h3 : Rd wx ta ls) => mayPropose_c f la ln lc ga N ta tn tc ls l wx hr.tl (by omega) h3 HRt.out
  have q4 := fun wx ga (h2 : Rd wx la li) (h3 : Rd wx ta ls) (h4 : RdII wx ga (sitL N e sg)) => maySign_c f la ln lc ga N ta tn tc li ls (sitL N e sg) m l wx G.f0 G.f2 hN hr.ll (by omega) h2 HRl.out hr.tl (by omega) h3 HRt.out (sitL_length _ _ _) h4 (sitL_ris _ _ _) (sitL_len (sgsB_all G.sgOk).1)
  have hmay : (memB f m && (decide (l ∈ ls) && (decide (((sitL N e sg).getD m.toNat []).length = 0) || (decide (m ∈ li) && !decide (l ∈ (sitL N e sg).getD m.toNat []))))) = maySB ⟨f, e, sg, li, ls⟩ m l := may_sit hN m l
  rw [hmay] at q4
  clear hmay hsl hN hN0
  have HV : Hid (stepB ⟨f, e, sg, li, ls⟩ k m l = true ∧ stepV ⟨f, e, sg, li, ls⟩ k m l = ⟨f, e, sg, li, insL ltI l ls⟩) := step_some hg (by rw [Bool.and_eq_true] at hz; rw [stepO, if_pos ⟨hk, hm, hz.1, by simpa using hz.2⟩])
  have q5 := fun wx (h3 : Rd wx ta ls) => withI_c ta tn tc ls l wx hr.tl (by omega) h3 hr.tz HRt.out
  rw [hz] at q3
  subst hk
  subst hm
  clear G hg q4 hz
  have HB_0 : Hid (Below w.heap.size w w) := Below.refl _ _
  have RS_0 : Hid (RdII w sa sg) := hr.s
  have NN_0 : Hid (RdNN w sa sg) := hnn
  have RL_0 : Hid (Rd w la li) := hr.l
  have RT_0 : Hid (Rd w ta ls) := hr.t
  clear hr hnn
  have hHB := HB_0.out.alloc HB_0.out.size (.cells #[.int .i64 f, .int .i64 e, .slice sa sn sc, .slice la ln lc, .slice ta tn tc] 29)
  have hRS := RS_0.out.later (balloc w (.cells #[.int .i64 f, .int .i64 e, .slice sa sn sc, .slice la ln lc, .slice ta tn tc] 29))
  have hNN := NN_0.out.later (balloc w (.cells #[.int .i64 f, .int .i64 e, .slice sa sn sc, .slice la ln lc, .slice ta tn tc] 29))
  have hRL := RL_0.out.later (balloc w (.cells #[.int .i64 f, .int .i64 e, .slice sa sn sc, .slice la ln lc, .slice ta tn tc] 29))
  have hRT := RT_0.out.later (balloc w (.cells #[.int .i64 f, .int .i64 e, .slice sa sn sc, .slice la ln lc, .slice ta tn tc] 29))
  have hA := x5_new w (.int .i64 f) (.int .i64 e) (.slice sa sn sc) (.slice la ln lc) (.slice ta tn tc) 29 w.heap.size rfl
  have hz : (w.alloc (.cells #[.int .i64 f, .int .i64 e, .slice sa sn sc, .slice la ln lc, .slice ta tn tc] 29)).heap.size = w.heap.size + 1 := by simp
  obtain ⟨w1, hV1⟩ : ∃ V, w.alloc (.cells #[.int .i64 f, .int .i64 e, .slice sa sn sc, .slice la ln lc, .slice ta tn tc] 29) = V := ⟨_, rfl⟩
  rw [hV1] at hHB hRS hNN hRL hRT hA hz
  have HB_1 : Hid (Below w.heap.size w w1) := hHB
  have RS_1 : Hid (RdII w1 sa sg) := hRS
  have NN_1 : Hid (RdNN w1 sa sg) := hNN
  have RL_1 : Hid (Rd w1 la li) := hRL
  have RT_1 : Hid (Rd w1 ta ls) := hRT
  have A_1 : Hid (X5 w1 w.heap.size (.int .i64 f) (.int .i64 e) (.slice sa sn sc) (.slice la ln lc) (.slice ta tn tc)) := hA
  have z1 : w.heap.size + 1 ≤ w1.heap.size := by omega
  clear HB_0 RS_0 NN_0 RL_0 RT_0 hHB hRS hNN hRL hRT hA hz
  have hHB := HB_1.out.alloc HB_1.out.size (.cells #[.int .i64 1, .int .i64 0, .int .i64 l] 40)
  have hRS := RS_1.out.later (balloc w1 (.cells #[.int .i64 1, .int .i64 0, .int .i64 l] 40))
  have hNN := NN_1.out.later (balloc w1 (.cells #[.int .i64 1, .int .i64 0, .int .i64 l] 40))
  have hRL := RL_1.out.later (balloc w1 (.cells #[.int .i64 1, .int .i64 0, .int .i64 l] 40))
  have hRT := RT_1.out.later (balloc w1 (.cells #[.int .i64 1, .int .i64 0, .int .i64 l] 40))
  have hA := A_1.out.later (balloc w1 (.cells #[.int .i64 1, .int .i64 0, .int .i64 l] 40))
  have hB := x3_new w1 (.int .i64 1) (.int .i64 0) (.int .i64 l) 40 w1.heap.size rfl
  have hz : (w1.alloc (.cells #[.int .i64 1, .int .i64 0, .int .i64 l] 40)).heap.size = w1.heap.size + 1 := by simp
  obtain ⟨w2, hV2⟩ : ∃ V, w1.alloc (.cells #[.int .i64 1, .int .i64 0, .int .i64 l] 40) = V := ⟨_, rfl⟩
  rw [hV2] at hHB hRS hNN hRL hRT hA hB hz
  have HB_2 : Hid (Below w.heap.size w w2) := hHB
  have RS_2 : Hid (RdII w2 sa sg) := hRS
  have NN_2 : Hid (RdNN w2 sa sg) := hNN
  have RL_2 : Hid (Rd w2 la li) := hRL
  have RT_2 : Hid (Rd w2 ta ls) := hRT
  have A_2 : Hid (X5 w2 w.heap.size (.int .i64 f) (.int .i64 e) (.slice sa sn sc) (.slice la ln lc) (.slice ta tn tc)) := hA
  have B_2 : Hid (X3 w2 w1.heap.size (.int .i64 1) (.int .i64 0) (.int .i64 l)) := hB
  have z2 : w1.heap.size + 1 ≤ w2.heap.size := by omega
  clear HB_1 RS_1 NN_1 RL_1 RT_1 A_1 hHB hRS hNN hRL hRT hA hB hz
  have hHB := HB_2.out.alloc HB_2.out.size (.cells #[.int .i64 0, .int .i64 0, .slice none 0 0, .slice none 0 0, .slice none 0 0] 29)
  have hRS := RS_2.out.later (balloc w2 (.cells #[.int .i64 0, .int .i64 0, .slice none 0 0, .slice none 0 0, .slice none 0 0] 29))
  have hNN := NN_2.out.later (balloc w2 (.cells #[.int .i64 0, .int .i64 0, .slice none 0 0, .slice none 0 0, .slice none 0 0] 29))
  have hRL := RL_2.out.later (balloc w2 (.cells #[.int .i64 0, .int .i64 0, .slice none 0 0, .slice none 0 0, .slice none 0 0] 29))
  have hRT := RT_2.out.later (balloc w2 (.cells #[.int .i64 0, .int .i64 0, .slice none 0 0, .slice none 0 0, .slice none 0 0] 29))
  have hA := A_2.out.later (balloc w2 (.cells #[.int .i64 0, .int .i64 0, .slice none 0 0, .slice none 0 0, .slice none 0 0] 29))
  have hB := B_2.out.later (balloc w2 (.cells #[.int .i64 0, .int .i64 0, .slice none 0 0, .slice none 0 0, .slice none 0 0] 29))
  have hR := x5_new w2 (.int .i64 0) (.int .i64 0) (.slice none 0 0) (.slice none 0 0) (.slice none 0 0) 29 w2.heap.size rfl
  have hz : (w2.alloc (.cells #[.int .i64 0, .int .i64 0, .slice none 0 0, .slice none 0 0, .slice none 0 0] 29)).heap.size = w2.heap.size + 1 := by simp
  obtain ⟨w3, hV3⟩ : ∃ V, w2.alloc (.cells #[.int .i64 0, .int .i64 0, .slice none 0 0, .slice none 0 0, .slice none 0 0] 29) = V := ⟨_, rfl⟩
  rw [hV3] at hHB hRS hNN hRL hRT hA hB hR hz
  have HB_3 : Hid (Below w.heap.size w w3) := hHB
  have RS_3 : Hid (RdII w3 sa sg) := hRS
  have NN_3 : Hid (RdNN w3 sa sg) := hNN
  have RL_3 : Hid (Rd w3 la li) := hRL
  have RT_3 : Hid (Rd w3 ta ls) := hRT
  have A_3 : Hid (X5 w3 w.heap.size (.int .i64 f) (.int .i64 e) (.slice sa sn sc) (.slice la ln lc) (.slice ta tn tc)) := hA
  have B_3 : Hid (X3 w3 w1.heap.size (.int .i64 1) (.int .i64 0) (.int .i64 l)) := hB
  have R_3 : Hid (X5 w3 w2.heap.size (.int .i64 0) (.int .i64 0) (.slice none 0 0) (.slice none 0 0) (.slice none 0 0)) := hR
  have z3 : w2.heap.size + 1 ≤ w3.heap.size := by omega
  clear HB_2 RS_2 NN_2 RL_2 RT_2 A_2 B_2 hHB hRS hNN hRL hRT hA hB hR hz
  go_enter Try.func20, Try.ntmps20
  obtain ⟨⟨Aq0, Aq1, Aq2, Aq3, Aq4⟩, Af⟩ := id (A_3.out)
  clear Af
  go_wp2_with fail
  clear hV1 hV2 hV3
  refine (q0 _ RS_3.out RL_3.out RT_3.out).mono ?_
  clear Aq0 Aq1 Aq2 Aq3 Aq4
  rintro e w4 ⟨rfl, hb⟩
  have hB : Below w3.heap.size w3 w4 := hb
  have HB_4 : Hid (Below w.heap.size w w4) := HB_3.out.trans (hB.mono HB_3.out.size)
  have RS_4 : Hid (RdII w4 sa sg) := RS_3.out.later hB
  have NN_4 : Hid (RdNN w4 sa sg) := NN_3.out.later hB
  have RL_4 : Hid (Rd w4 la li) := RL_3.out.later hB
  have RT_4 : Hid (Rd w4 ta ls) := RT_3.out.later hB
  have A_4 : Hid (X5 w4 w.heap.size (.int .i64 f) (.int .i64 e) (.slice sa sn sc) (.slice la ln lc) (.slice ta tn tc)) := A_3.out.later hB
  have B_4 : Hid (X3 w4 w1.heap.size (.int .i64 1) (.int .i64 0) (.int .i64 l)) := B_3.out.later hB
  have R_4 : Hid (X5 w4 w2.heap.size (.int .i64 0) (.int .i64 0) (.slice none 0 0) (.slice none 0 0) (.slice none 0 0)) := R_3.out.later hB
  have z4 : w3.heap.size ≤ w4.heap.size := hB.size
  clear hb hB HB_3 RS_3 NN_3 RL_3 RT_3 A_3 B_3 R_3 
  obtain ⟨⟨Aq0, Aq1, Aq2, Aq3, Aq4⟩, Af⟩ := id (A_4.out)
  clear Af
  go_wp2_with fail
  refine (q1 _ RS_4.out).mono ?_
  clear Aq0 Aq1 Aq2 Aq3 Aq4
  rintro e w5 ⟨g, rfl, hri, hb⟩
  have hB : Below w4.heap.size w4 w5 := hb
  have HB_5 : Hid (Below w.heap.size w w5) := HB_4.out.trans (hB.mono HB_4.out.size)
  have RS_5 : Hid (RdII w5 sa sg) := RS_4.out.later hB
  have NN_5 : Hid (RdNN w5 sa sg) := NN_4.out.later hB
  have RL_5 : Hid (Rd w5 la li) := RL_4.out.later hB
  have RT_5 : Hid (Rd w5 ta ls) := RT_4.out.later hB
  have A_5 : Hid (X5 w5 w.heap.size (.int .i64 f) (.int .i64 e) (.slice sa sn sc) (.slice la ln lc) (.slice ta tn tc)) := A_4.out.later hB
  have B_5 : Hid (X3 w5 w1.heap.size (.int .i64 1) (.int .i64 0) (.int .i64 l)) := B_4.out.later hB
  have R_5 : Hid (X5 w5 w2.heap.size (.int .i64 0) (.int .i64 0) (.slice none 0 0) (.slice none 0 0) (.slice none 0 0)) := R_4.out.later hB
  have z5 : w4.heap.size ≤ w5.heap.size := hB.size
  have RG_5 : Hid (RdII w5 (some ⟨g, 0, none⟩) (sitL N e sg)) := hri
  clear hb hB HB_4 RS_4 NN_4 RL_4 RT_4 A_4 B_4 R_4 hri
  have hHB := HB_5.out.alloc HB_5.out.size (.cells #[.int .i64 f, .slice la ln lc, .slice (some ⟨g, 0, none⟩) N N, .slice ta tn tc] 102)
  have hRS := RS_5.out.later (balloc w5 (.cells #[.int .i64 f, .slice la ln lc, .slice (some ⟨g, 0, none⟩) N N, .slice ta tn tc] 102))
  have hNN := NN_5.out.later (balloc w5 (.cells #[.int .i64 f, .slice la ln lc, .slice (some ⟨g, 0, none⟩) N N, .slice ta tn tc] 102))
  have hRL := RL_5.out.later (balloc w5 (.cells #[.int .i64 f, .slice la ln lc, .slice (some ⟨g, 0, none⟩) N N, .slice ta tn tc] 102))
  have hRT := RT_5.out.later (balloc w5 (.cells #[.int .i64 f, .slice la ln lc, .slice (some ⟨g, 0, none⟩) N N, .slice ta tn tc] 102))
  have hA := A_5.out.later (balloc w5 (.cells #[.int .i64 f, .slice la ln lc, .slice (some ⟨g, 0, none⟩) N N, .slice ta tn tc] 102))
  have hB := B_5.out.later (balloc w5 (.cells #[.int .i64 f, .slice la ln lc, .slice (some ⟨g, 0, none⟩) N N, .slice ta tn tc] 102))
  have hR := R_5.out.later (balloc w5 (.cells #[.int .i64 f, .slice la ln lc, .slice (some ⟨g, 0, none⟩) N N, .slice ta tn tc] 102))
  have hRG := RG_5.out.later (balloc w5 (.cells #[.int .i64 f, .slice la ln lc, .slice (some ⟨g, 0, none⟩) N N, .slice ta tn tc] 102))
  have hO := x4_new w5 (.int .i64 f) (.slice la ln lc) (.slice (some ⟨g, 0, none⟩) N N) (.slice ta tn tc) 102 w5.heap.size rfl
  have hz : (w5.alloc (.cells #[.int .i64 f, .slice la ln lc, .slice (some ⟨g, 0, none⟩) N N, .slice ta tn tc] 102)).heap.size = w5.heap.size + 1 := by simp
  obtain ⟨w6, hV6⟩ : ∃ V, w5.alloc (.cells #[.int .i64 f, .slice la ln lc, .slice (some ⟨g, 0, none⟩) N N, .slice ta tn tc] 102) = V := ⟨_, rfl⟩
  rw [hV6] at hHB hRS hNN hRL hRT hA hB hR hRG hO hz
  have HB_6 : Hid (Below w.heap.size w w6) := hHB
  have RS_6 : Hid (RdII w6 sa sg) := hRS
  have NN_6 : Hid (RdNN w6 sa sg) := hNN
  have RL_6 : Hid (Rd w6 la li) := hRL
  have RT_6 : Hid (Rd w6 ta ls) := hRT
  have A_6 : Hid (X5 w6 w.heap.size (.int .i64 f) (.int .i64 e) (.slice sa sn sc) (.slice la ln lc) (.slice ta tn tc)) := hA
  have B_6 : Hid (X3 w6 w1.heap.size (.int .i64 1) (.int .i64 0) (.int .i64 l)) := hB
  have R_6 : Hid (X5 w6 w2.heap.size (.int .i64 0) (.int .i64 0) (.slice none 0 0) (.slice none 0 0) (.slice none 0 0)) := hR
  have RG_6 : Hid (RdII w6 (some ⟨g, 0, none⟩) (sitL N e sg)) := hRG
  have O_6 : Hid (X4 w6 w5.heap.size (.int .i64 f) (.slice la ln lc) (.slice (some ⟨g, 0, none⟩) N N) (.slice ta tn tc)) := hO
  have z6 : w5.heap.size + 1 ≤ w6.heap.size := by omega
  clear HB_5 RS_5 NN_5 RL_5 RT_5 A_5 B_5 R_5 RG_5 hHB hRS hNN hRL hRT hA hB hR hRG hO hz
  obtain ⟨⟨Aq0, Aq1, Aq2, Aq3, Aq4⟩, Af⟩ := id (A_6.out)
  clear Af
  go_wp2_with fail
  clear hV6
  refine (q2 _ NN_6.out RL_6.out RT_6.out).mono ?_
  clear Aq0 Aq1 Aq2 Aq3 Aq4
  rintro e w7 ⟨sa1, sc1, la1, lc1, ta1, tc1, rfl, ho, hb⟩
  have hB : Below w6.heap.size w6 w7 := hb
  have HB_7 : Hid (Below w.heap.size w w7) := HB_6.out.trans (hB.mono HB_6.out.size)
  have RS_7 : Hid (RdII w7 sa sg) := RS_6.out.later hB
  have NN_7 : Hid (RdNN w7 sa sg) := NN_6.out.later hB
  have RL_7 : Hid (Rd w7 la li) := RL_6.out.later hB
  have RT_7 : Hid (Rd w7 ta ls) := RT_6.out.later hB
  have A_7 : Hid (X5 w7 w.heap.size (.int .i64 f) (.int .i64 e) (.slice sa sn sc) (.slice la ln lc) (.slice ta tn tc)) := A_6.out.later hB
  have B_7 : Hid (X3 w7 w1.heap.size (.int .i64 1) (.int .i64 0) (.int .i64 l)) := B_6.out.later hB
  have R_7 : Hid (X5 w7 w2.heap.size (.int .i64 0) (.int .i64 0) (.slice none 0 0) (.slice none 0 0) (.slice none 0 0)) := R_6.out.later hB
  have RG_7 : Hid (RdII w7 (some ⟨g, 0, none⟩) (sitL N e sg)) := RG_6.out.later hB
  have O_7 : Hid (X4 w7 w5.heap.size (.int .i64 f) (.slice la ln lc) (.slice (some ⟨g, 0, none⟩) N N) (.slice ta tn tc)) := O_6.out.later hB
  have z7 : w6.heap.size ≤ w7.heap.size := hB.size
  have BC_7 : Hid (OwnBd w7 w6.heap.size w7.heap.size (.slice sa1 sn sc1) (.slice la1 ln lc1) (.slice ta1 tn tc1) ⟨f, e, sg, li, ls⟩) := ho
  clear hb hB HB_6 RS_6 NN_6 RL_6 RT_6 A_6 B_6 R_6 RG_6 O_6 ho
  have hHB := HB_7.out.alloc HB_7.out.size (.cells #[.int .i64 f, .int .i64 e, .slice sa1 sn sc1, .slice la1 ln lc1, .slice ta1 tn tc1] 29)
  have hRS := RS_7.out.later (balloc w7 (.cells #[.int .i64 f, .int .i64 e, .slice sa1 sn sc1, .slice la1 ln lc1, .slice ta1 tn tc1] 29))
  have hNN := NN_7.out.later (balloc w7 (.cells #[.int .i64 f, .int .i64 e, .slice sa1 sn sc1, .slice la1 ln lc1, .slice ta1 tn tc1] 29))
  have hRL := RL_7.out.later (balloc w7 (.cells #[.int .i64 f, .int .i64 e, .slice sa1 sn sc1, .slice la1 ln lc1, .slice ta1 tn tc1] 29))
  have hRT := RT_7.out.later (balloc w7 (.cells #[.int .i64 f, .int .i64 e, .slice sa1 sn sc1, .slice la1 ln lc1, .slice ta1 tn tc1] 29))
  have hA := A_7.out.later (balloc w7 (.cells #[.int .i64 f, .int .i64 e, .slice sa1 sn sc1, .slice la1 ln lc1, .slice ta1 tn tc1] 29))
  have hB := B_7.out.later (balloc w7 (.cells #[.int .i64 f, .int .i64 e, .slice sa1 sn sc1, .slice la1 ln lc1, .slice ta1 tn tc1] 29))
  have hR := R_7.out.later (balloc w7 (.cells #[.int .i64 f, .int .i64 e, .slice sa1 sn sc1, .slice la1 ln lc1, .slice ta1 tn tc1] 29))
  have hRG := RG_7.out.later (balloc w7 (.cells #[.int .i64 f, .int .i64 e, .slice sa1 sn sc1, .slice la1 ln lc1, .slice ta1 tn tc1] 29))
  have hO := O_7.out.later (balloc w7 (.cells #[.int .i64 f, .int .i64 e, .slice sa1 sn sc1, .slice la1 ln lc1, .slice ta1 tn tc1] 29))
  have hBC := BC_7.out.later (balloc w7 (.cells #[.int .i64 f, .int .i64 e, .slice sa1 sn sc1, .slice la1 ln lc1, .slice ta1 tn tc1] 29))
  have hN := x5_new w7 (.int .i64 f) (.int .i64 e) (.slice sa1 sn sc1) (.slice la1 ln lc1) (.slice ta1 tn tc1) 29 w7.heap.size rfl
  have hz : (w7.alloc (.cells #[.int .i64 f, .int .i64 e, .slice sa1 sn sc1, .slice la1 ln lc1, .slice ta1 tn tc1] 29)).heap.size = w7.heap.size + 1 := by simp
  obtain ⟨w8, hV8⟩ : ∃ V, w7.alloc (.cells #[.int .i64 f, .int .i64 e, .slice sa1 sn sc1, .slice la1 ln lc1, .slice ta1 tn tc1] 29) = V := ⟨_, rfl⟩
  rw [hV8] at hHB hRS hNN hRL hRT hA hB hR hRG hO hBC hN hz
  have HB_8 : Hid (Below w.heap.size w w8) := hHB
  have RS_8 : Hid (RdII w8 sa sg) := hRS
  have NN_8 : Hid (RdNN w8 sa sg) := hNN
  have RL_8 : Hid (Rd w8 la li) := hRL
  have RT_8 : Hid (Rd w8 ta ls) := hRT
  have A_8 : Hid (X5 w8 w.heap.size (.int .i64 f) (.int .i64 e) (.slice sa sn sc) (.slice la ln lc) (.slice ta tn tc)) := hA
  have B_8 : Hid (X3 w8 w1.heap.size (.int .i64 1) (.int .i64 0) (.int .i64 l)) := hB
  have R_8 : Hid (X5 w8 w2.heap.size (.int .i64 0) (.int .i64 0) (.slice none 0 0) (.slice none 0 0) (.slice none 0 0)) := hR
  have RG_8 : Hid (RdII w8 (some ⟨g, 0, none⟩) (sitL N e sg)) := hRG
  have O_8 : Hid (X4 w8 w5.heap.size (.int .i64 f) (.slice la ln lc) (.slice (some ⟨g, 0, none⟩) N N) (.slice ta tn tc)) := hO
  have BC_8 : Hid (OwnBd w8 w6.heap.size w7.heap.size (.slice sa1 sn sc1) (.slice la1 ln lc1) (.slice ta1 tn tc1) ⟨f, e, sg, li, ls⟩) := hBC
  have N_8 : Hid (X5 w8 w7.heap.size (.int .i64 f) (.int .i64 e) (.slice sa1 sn sc1) (.slice la1 ln lc1) (.slice ta1 tn tc1)) := hN
  have z8 : w7.heap.size + 1 ≤ w8.heap.size := by omega
  clear HB_7 RS_7 NN_7 RL_7 RT_7 A_7 B_7 R_7 RG_7 O_7 BC_7 hHB hRS hNN hRL hRT hA hB hR hRG hO hBC hN hz
  obtain ⟨⟨Bq0, Bq1, Bq2⟩, Bf⟩ := id (B_8.out)
  clear Bf
  obtain ⟨⟨Oq0, Oq1, Oq2, Oq3⟩, Of⟩ := id (O_8.out)
  clear Of
  go_wp2_with fail
  clear hV8
  refine (q3 (some ⟨g, 0, none⟩) _ RT_8.out).mono ?_
  clear Bq0 Bq1 Bq2
  clear Oq0 Oq1 Oq2 Oq3
  rintro e w9 ⟨rfl, hb⟩
  have hB : Below w8.heap.size w8 w9 := hb
  have HB_9 : Hid (Below w.heap.size w w9) := HB_8.out.trans (hB.mono HB_8.out.size)
  have RS_9 : Hid (RdII w9 sa sg) := RS_8.out.later hB
  have NN_9 : Hid (RdNN w9 sa sg) := NN_8.out.later hB
  have RL_9 : Hid (Rd w9 la li) := RL_8.out.later hB
  have RT_9 : Hid (Rd w9 ta ls) := RT_8.out.later hB
  have A_9 : Hid (X5 w9 w.heap.size (.int .i64 f) (.int .i64 e) (.slice sa sn sc) (.slice la ln lc) (.slice ta tn tc)) := A_8.out.later hB
  have B_9 : Hid (X3 w9 w1.heap.size (.int .i64 1) (.int .i64 0) (.int .i64 l)) := B_8.out.later hB
  have R_9 : Hid (X5 w9 w2.heap.size (.int .i64 0) (.int .i64 0) (.slice none 0 0) (.slice none 0 0) (.slice none 0 0)) := R_8.out.later hB
  have RG_9 : Hid (RdII w9 (some ⟨g, 0, none⟩) (sitL N e sg)) := RG_8.out.later hB
  have O_9 : Hid (X4 w9 w5.heap.size (.int .i64 f) (.slice la ln lc) (.slice (some ⟨g, 0, none⟩) N N) (.slice ta tn tc)) := O_8.out.later hB
  have BC_9 : Hid (OwnBd w9 w6.heap.size w7.heap.size (.slice sa1 sn sc1) (.slice la1 ln lc1) (.slice ta1 tn tc1) ⟨f, e, sg, li, ls⟩) := BC_8.out.later hB
  have N_9 : Hid (X5 w9 w7.heap.size (.int .i64 f) (.int .i64 e) (.slice sa1 sn sc1) (.slice la1 ln lc1) (.slice ta1 tn tc1)) := N_8.out.later hB
  have z9 : w8.heap.size ≤ w9.heap.size := hB.size
  clear hb hB HB_8 RS_8 NN_8 RL_8 RT_8 A_8 B_8 R_8 RG_8 O_8 BC_8 N_8 
  obtain ⟨⟨Bq0, Bq1, Bq2⟩, Bf⟩ := id (B_9.out)
  clear Bf
  obtain ⟨⟨Oq0, Oq1, Oq2, Oq3⟩, Of⟩ := id (O_9.out)
  clear Of
  go_wp2_with fail
  refine (q5 _ RT_9.out).mono ?_
  clear Bq0 Bq1 Bq2
  clear Oq0 Oq1 Oq2 Oq3
  rintro e w10 ⟨a5, c5, rfl, ho, hb⟩
  have hB : Below w9.heap.size w9 w10 := hb
  have HB_10 : Hid (Below w.heap.size w w10) := HB_9.out.trans (hB.mono HB_9.out.size)
  have RS_10 : Hid (RdII w10 sa sg) := RS_9.out.later hB
  have NN_10 : Hid (RdNN w10 sa sg) := NN_9.out.later hB
  have RL_10 : Hid (Rd w10 la li) := RL_9.out.later hB
  have RT_10 : Hid (Rd w10 ta ls) := RT_9.out.later hB
  have A_10 : Hid (X5 w10 w.heap.size (.int .i64 f) (.int .i64 e) (.slice sa sn sc) (.slice la ln lc) (.slice ta tn tc)) := A_9.out.later hB
  have B_10 : Hid (X3 w10 w1.heap.size (.int .i64 1) (.int .i64 0) (.int .i64 l)) := B_9.out.later hB
  have R_10 : Hid (X5 w10 w2.heap.size (.int .i64 0) (.int .i64 0) (.slice none 0 0) (.slice none 0 0) (.slice none 0 0)) := R_9.out.later hB
  have RG_10 : Hid (RdII w10 (some ⟨g, 0, none⟩) (sitL N e sg)) := RG_9.out.later hB
  have O_10 : Hid (X4 w10 w5.heap.size (.int .i64 f) (.slice la ln lc) (.slice (some ⟨g, 0, none⟩) N N) (.slice ta tn tc)) := O_9.out.later hB
  have BC_10 : Hid (OwnBd w10 w6.heap.size w7.heap.size (.slice sa1 sn sc1) (.slice la1 ln lc1) (.slice ta1 tn tc1) ⟨f, e, sg, li, ls⟩) := BC_9.out.later hB
  have N_10 : Hid (X5 w10 w7.heap.size (.int .i64 f) (.int .i64 e) (.slice sa1 sn sc1) (.slice la1 ln lc1) (.slice ta1 tn tc1)) := N_9.out.later hB
  have z10 : w9.heap.size ≤ w10.heap.size := hB.size
  have T5_10 : Hid (Own w10 w9.heap.size (.slice a5 (tn + 1) c5) (insL ltI l ls)) := ho
  clear hb hB HB_9 RS_9 NN_9 RL_9 RT_9 A_9 B_9 R_9 RG_9 O_9 BC_9 N_9 ho
  have hN := (N_10.out.set4 (.slice a5 (tn + 1) c5))
  have hHB : Below w.heap.size w (w10.setCell ⟨w7.heap.size, 4, none⟩ (.slice a5 (tn + 1) c5)) := (HB_10.out.setCell (by show w.heap.size ≤ w7.heap.size; omega) _)
  have hA := (A_10.out.other (r' := w7.heap.size) (j' := 4) (u := .slice a5 (tn + 1) c5) (by omega))
  have hB := (B_10.out.other (r' := w7.heap.size) (j' := 4) (u := .slice a5 (tn + 1) c5) (by omega))
  have hR := (R_10.out.other (r' := w7.heap.size) (j' := 4) (u := .slice a5 (tn + 1) c5) (by omega))
  have hO := (O_10.out.other (r' := w7.heap.size) (j' := 4) (u := .slice a5 (tn + 1) c5) (by omega))
  have hBC := (BC_10.out.cell (r := w7.heap.size) (j := 4) (by omega) (.slice a5 (tn + 1) c5))
  have hT5 := (T5_10.out.setBox (r := w7.heap.size) (j := 4) (by omega) (.slice a5 (tn + 1) c5))
  have hz : (w10.setCell ⟨w7.heap.size, 4, none⟩ (.slice a5 (tn + 1) c5)).heap.size = w10.heap.size := by simp
  obtain ⟨w11, hV11⟩ : ∃ V, (w10.setCell ⟨w7.heap.size, 4, none⟩ (.slice a5 (tn + 1) c5)) = V := ⟨_, rfl⟩
  rw [hV11] at hN hHB hA hB hR hO hBC hT5 hz
  have N_11 : Hid (X5 w11 (w7.heap.size) (.int .i64 f) (.int .i64 e) (.slice sa1 sn sc1) (.slice la1 ln lc1) (.slice a5 (tn + 1) c5)) := hN
  have HB_11 : Hid (Below w.heap.size w w11) := hHB
  have A_11 : Hid (X5 w11 w.heap.size (.int .i64 f) (.int .i64 e) (.slice sa sn sc) (.slice la ln lc) (.slice ta tn tc)) := hA
  have B_11 : Hid (X3 w11 w1.heap.size (.int .i64 1) (.int .i64 0) (.int .i64 l)) := hB
  have R_11 : Hid (X5 w11 w2.heap.size (.int .i64 0) (.int .i64 0) (.slice none 0 0) (.slice none 0 0) (.slice none 0 0)) := hR
  have O_11 : Hid (X4 w11 w5.heap.size (.int .i64 f) (.slice la ln lc) (.slice (some ⟨g, 0, none⟩) N N) (.slice ta tn tc)) := hO
  have BC_11 : Hid (OwnBd w11 w6.heap.size w7.heap.size (.slice sa1 sn sc1) (.slice la1 ln lc1) (.slice ta1 tn tc1) ⟨f, e, sg, li, ls⟩) := hBC
  have T5_11 : Hid (Own w11 w9.heap.size (.slice a5 (tn + 1) c5) (insL ltI l ls)) := hT5
  have z11 : w10.heap.size ≤ w11.heap.size := by omega
  obtain ⟨⟨oN0, oN1, oN2, oN3, oN4⟩, oNf⟩ := id (N_10.out)
  have oNf4 := oNf 4
  clear oNf hz hN hHB hA hB hR hO hBC hT5
  have hZF := (((((R_11.out.set0 (.int .i64 f)).set1 (.int .i64 e)).set2 (.slice sa1 sn sc1)).set3 (.slice la1 ln lc1)).set4 (.slice a5 (tn + 1) c5))
  have hBF : Below w.heap.size w (((((w11.setCell ⟨w2.heap.size, 0, none⟩ (.int .i64 f)).setCell ⟨w2.heap.size, 1, none⟩ (.int .i64 e)).setCell ⟨w2.heap.size, 2, none⟩ (.slice sa1 sn sc1)).setCell ⟨w2.heap.size, 3, none⟩ (.slice la1 ln lc1)).setCell ⟨w2.heap.size, 4, none⟩ (.slice a5 (tn + 1) c5)) := (((((HB_11.out.setCell (by show w.heap.size ≤ w2.heap.size; omega) _).setCell (by show w.heap.size ≤ w2.heap.size; omega) _).setCell (by show w.heap.size ≤ w2.heap.size; omega) _).setCell (by show w.heap.size ≤ w2.heap.size; omega) _).setCell (by show w.heap.size ≤ w2.heap.size; omega) _)
  have hOF := (((((((BC_11.out.newT T5_11.out (by omega) (by omega) (by omega) f e).mono (Nat.le_refl _) (Nat.le_refl _)).setBox (r := w2.heap.size) (j := 0) (by omega) (.int .i64 f)).setBox (r := w2.heap.size) (j := 1) (by omega) (.int .i64 e)).setBox (r := w2.heap.size) (j := 2) (by omega) (.slice sa1 sn sc1)).setBox (r := w2.heap.size) (j := 3) (by omega) (.slice la1 ln lc1)).setBox (r := w2.heap.size) (j := 4) (by omega) (.slice a5 (tn + 1) c5))
  have hszF : (((((w11.setCell ⟨w2.heap.size, 0, none⟩ (.int .i64 f)).setCell ⟨w2.heap.size, 1, none⟩ (.int .i64 e)).setCell ⟨w2.heap.size, 2, none⟩ (.slice sa1 sn sc1)).setCell ⟨w2.heap.size, 3, none⟩ (.slice la1 ln lc1)).setCell ⟨w2.heap.size, 4, none⟩ (.slice a5 (tn + 1) c5)).heap.size = w11.heap.size := by simp
  obtain ⟨⟨y0, y1, y2, y3, y4⟩, yf⟩ := id (R_11.out)
  have yf0 := yf 0
  have yf1 := yf 1
  have yf2 := yf 2
  have yf3 := yf 3
  have yf4 := yf 4
  obtain ⟨FW, hFW⟩ : ∃ F, (((((w11.setCell ⟨w2.heap.size, 0, none⟩ (.int .i64 f)).setCell ⟨w2.heap.size, 1, none⟩ (.int .i64 e)).setCell ⟨w2.heap.size, 2, none⟩ (.slice sa1 sn sc1)).setCell ⟨w2.heap.size, 3, none⟩ (.slice la1 ln lc1)).setCell ⟨w2.heap.size, 4, none⟩ (.slice a5 (tn + 1) c5)) = F := ⟨_, rfl⟩
  rw [hFW] at hZF hBF hOF hszF
  obtain ⟨⟨t0, t1, t2, t3, t4⟩, _⟩ := hZF
  have HBF : Hid (Below w.heap.size w FW) := hBF
  have HOF := hOF
  clear hBF yf hOF
  obtain ⟨⟨Nq0, Nq1, Nq2, Nq3, Nq4⟩, Nf⟩ := id (N_11.out)
  clear Nf
  obtain ⟨⟨Bq0, Bq1, Bq2⟩, Bf⟩ := id (B_11.out)
  clear Bf
  go_wp2
  clear hV11
  refine bodyPost_ret (v := .tuple #[.agg #[.int .i64 f, .int .i64 e, .slice sa1 sn sc1, .slice la1 ln lc1, .slice a5 (tn + 1) c5], .bool true]) (by simp [results, Try.results20, go_sem, t0, t1, t2, t3, t4]; try rfl) rfl ?_
  have HOF2 := (HOF.mono (show w.heap.size ≤ _ by omega) (show _ ≤ FW.heap.size by omega))
  refine ⟨sa1, sc1, la1, lc1, a5, c5, ?_, ?_, HBF.out⟩
  · rw [HV.out.1, HV.out.2]
    simp only [HS.out, HL.out, insL_length, HT.out]
  · rw [HV.out.2]
    simp only [HS.out, HL.out, insL_length, HT.out]
    exact HOF2

set_option maxHeartbeats 4000000 in
theorem implStep_e (f e : Int) (sa : Option Addr) (sn sc : Nat) (la : Option Addr) (ln lc : Nat) (ta : Option Addr) (tn tc : Nat) (sg : List (List Int)) (li ls : List Int) (k m l : Int) (w : World) (hg : goodBd ⟨f, e, sg, li, ls⟩ = true) (hr : RdBd w sa sn sc la ln lc ta tn tc ⟨f, e, sg, li, ls⟩) (hnn : RdNN w sa sg) (hk : k = 3) (hm : m = 0) (hl : l = 0) (he : e < 20) :
    Calls Try.prog 20 #[.agg #[.int .i64 f, .int .i64 e, .slice sa sn sc, .slice la ln lc, .slice ta tn tc], .agg #[.int .i64 k, .int .i64 m, .int .i64 l]] w fun r w' => BdOk r w w' (stepV ⟨f, e, sg, li, ls⟩ k m l) (stepB ⟨f, e, sg, li, ls⟩ k m l) := by
  have G := good_is hg
  have hN0 := G.f0
  have HS : Hid (sg.length = sn) := hr.sl
  have HL : Hid (li.length = ln) := hr.ll
  have HT : Hid (ls.length = tn) := hr.tl
  have hsn : sn ≤ 200 := by rw [← HS.out]; exact (sgsB_all G.sgOk).1
  have hln : ln ≤ 2 := by have := G.ln; have := G.f2; rw [HL.out] at *; omega
  have htn : tn ≤ 10 := by rw [← HT.out]; exact G.tn
  have hsl : ∀ l ∈ sg, l.length ≤ 1000 := fun l hl => by have := (sigB_mem ((sgsB_all G.sgOk).2 l hl)).1; omega
  obtain ⟨N, hN⟩ : ∃ N : Nat, 3 * f + 1 = (N : Int) := ⟨(3 * f + 1).toNat, by have := G.f0; omega⟩
  have q0 := fun wx (h1 : RdII wx sa sg) (h2 : Rd wx la li) (h3 : Rd wx ta ls) => implGood_c f e sa sn sc la ln lc ta tn tc sg li ls wx hr.sl (by omega) hr.ll (by omega) hr.tl (by omega) h1 h2 h3
  rw [hg] at q0
  have q1 := fun wx (h1 : RdII wx sa sg) => openSitting_c f e sa sn sc la ln lc ta tn tc N sg wx G.f0 G.f2 hN hr.sl h1 G.sgOk
  have q2 := fun wx (h1 : RdNN wx sa sg) (h2 : Rd wx la li) (h3 : Rd wx ta ls) => copyOfBoard_c f e sa sn sc la ln lc ta tn tc sg li ls wx hr.sl (by omega) hr.ll (by omega) hr.tl (by omega) h1 h2 h3 hsl hr.lz hr.tz
  have HRl : Hid (Ris ltI li) := G.lr
  have HRt : Hid (Ris ltI ls) := G.tr
  have q3 := fun ga wx (h3 : Rd wx ta ls) => mayPropose_c f la ln lc ga N ta tn tc ls l wx hr.tl (by omega) h3 HRt.out
  have q4 := fun wx ga (h2 : Rd wx la li) (h3 : Rd wx ta ls) (h4 : RdII wx ga (sitL N e sg)) => maySign_c f la ln lc ga N ta tn tc li ls (sitL N e sg) m l wx G.f0 G.f2 hN hr.ll (by omega) h2 HRl.out hr.tl (by omega) h3 HRt.out (sitL_length _ _ _) h4 (sitL_ris _ _ _) (sitL_len (sgsB_all G.sgOk).1)
  have hmay : (memB f m && (decide (l ∈ ls) && (decide (((sitL N e sg).getD m.toNat []).length = 0) || (decide (m ∈ li) && !decide (l ∈ (sitL N e sg).getD m.toNat []))))) = maySB ⟨f, e, sg, li, ls⟩ m l := may_sit hN m l
  rw [hmay] at q4
  clear hmay hsl hN hN0
  have HV : Hid (stepB ⟨f, e, sg, li, ls⟩ k m l = true ∧ stepV ⟨f, e, sg, li, ls⟩ k m l = ⟨f, e + 1, sg, li, []⟩) := step_some hg (by rw [stepO, if_neg (fun h => by omega), if_neg (fun h => by omega), if_pos ⟨hk, hm, hl, he⟩])
  have he0 := G.e0
  have he1 : -1 ≤ e := by omega
  subst hk
  subst hm
  subst hl
  have heq : ∀ wx, (binOp .eql 40 (.agg #[.int .i64 3, .int .i64 0, .int .i64 0]) (.agg #[.int .i64 3, .int .i64 0, .int .i64 0])).run Try.prog wx = .ok (.bool true) wx := fun wx => by rw [run_eql_bs]; simp
  clear G hg q3 q4
  have HB_0 : Hid (Below w.heap.size w w) := Below.refl _ _
  have RS_0 : Hid (RdII w sa sg) := hr.s
  have NN_0 : Hid (RdNN w sa sg) := hnn
  have RL_0 : Hid (Rd w la li) := hr.l
  have RT_0 : Hid (Rd w ta ls) := hr.t
  clear hr hnn
  have hHB := HB_0.out.alloc HB_0.out.size (.cells #[.int .i64 f, .int .i64 e, .slice sa sn sc, .slice la ln lc, .slice ta tn tc] 29)
  have hRS := RS_0.out.later (balloc w (.cells #[.int .i64 f, .int .i64 e, .slice sa sn sc, .slice la ln lc, .slice ta tn tc] 29))
  have hNN := NN_0.out.later (balloc w (.cells #[.int .i64 f, .int .i64 e, .slice sa sn sc, .slice la ln lc, .slice ta tn tc] 29))
  have hRL := RL_0.out.later (balloc w (.cells #[.int .i64 f, .int .i64 e, .slice sa sn sc, .slice la ln lc, .slice ta tn tc] 29))
  have hRT := RT_0.out.later (balloc w (.cells #[.int .i64 f, .int .i64 e, .slice sa sn sc, .slice la ln lc, .slice ta tn tc] 29))
  have hA := x5_new w (.int .i64 f) (.int .i64 e) (.slice sa sn sc) (.slice la ln lc) (.slice ta tn tc) 29 w.heap.size rfl
  have hz : (w.alloc (.cells #[.int .i64 f, .int .i64 e, .slice sa sn sc, .slice la ln lc, .slice ta tn tc] 29)).heap.size = w.heap.size + 1 := by simp
  obtain ⟨w1, hV1⟩ : ∃ V, w.alloc (.cells #[.int .i64 f, .int .i64 e, .slice sa sn sc, .slice la ln lc, .slice ta tn tc] 29) = V := ⟨_, rfl⟩
  rw [hV1] at hHB hRS hNN hRL hRT hA hz
  have HB_1 : Hid (Below w.heap.size w w1) := hHB
  have RS_1 : Hid (RdII w1 sa sg) := hRS
  have NN_1 : Hid (RdNN w1 sa sg) := hNN
  have RL_1 : Hid (Rd w1 la li) := hRL
  have RT_1 : Hid (Rd w1 ta ls) := hRT
  have A_1 : Hid (X5 w1 w.heap.size (.int .i64 f) (.int .i64 e) (.slice sa sn sc) (.slice la ln lc) (.slice ta tn tc)) := hA
  have z1 : w.heap.size + 1 ≤ w1.heap.size := by omega
  clear HB_0 RS_0 NN_0 RL_0 RT_0 hHB hRS hNN hRL hRT hA hz
  have hHB := HB_1.out.alloc HB_1.out.size (.cells #[.int .i64 3, .int .i64 0, .int .i64 0] 40)
  have hRS := RS_1.out.later (balloc w1 (.cells #[.int .i64 3, .int .i64 0, .int .i64 0] 40))
  have hNN := NN_1.out.later (balloc w1 (.cells #[.int .i64 3, .int .i64 0, .int .i64 0] 40))
  have hRL := RL_1.out.later (balloc w1 (.cells #[.int .i64 3, .int .i64 0, .int .i64 0] 40))
  have hRT := RT_1.out.later (balloc w1 (.cells #[.int .i64 3, .int .i64 0, .int .i64 0] 40))
  have hA := A_1.out.later (balloc w1 (.cells #[.int .i64 3, .int .i64 0, .int .i64 0] 40))
  have hB := x3_new w1 (.int .i64 3) (.int .i64 0) (.int .i64 0) 40 w1.heap.size rfl
  have hz : (w1.alloc (.cells #[.int .i64 3, .int .i64 0, .int .i64 0] 40)).heap.size = w1.heap.size + 1 := by simp
  obtain ⟨w2, hV2⟩ : ∃ V, w1.alloc (.cells #[.int .i64 3, .int .i64 0, .int .i64 0] 40) = V := ⟨_, rfl⟩
  rw [hV2] at hHB hRS hNN hRL hRT hA hB hz
  have HB_2 : Hid (Below w.heap.size w w2) := hHB
  have RS_2 : Hid (RdII w2 sa sg) := hRS
  have NN_2 : Hid (RdNN w2 sa sg) := hNN
  have RL_2 : Hid (Rd w2 la li) := hRL
  have RT_2 : Hid (Rd w2 ta ls) := hRT
  have A_2 : Hid (X5 w2 w.heap.size (.int .i64 f) (.int .i64 e) (.slice sa sn sc) (.slice la ln lc) (.slice ta tn tc)) := hA
  have B_2 : Hid (X3 w2 w1.heap.size (.int .i64 3) (.int .i64 0) (.int .i64 0)) := hB
  have z2 : w1.heap.size + 1 ≤ w2.heap.size := by omega
  clear HB_1 RS_1 NN_1 RL_1 RT_1 A_1 hHB hRS hNN hRL hRT hA hB hz
  have hHB := HB_2.out.alloc HB_2.out.size (.cells #[.int .i64 0, .int .i64 0, .slice none 0 0, .slice none 0 0, .slice none 0 0] 29)
  have hRS := RS_2.out.later (balloc w2 (.cells #[.int .i64 0, .int .i64 0, .slice none 0 0, .slice none 0 0, .slice none 0 0] 29))
  have hNN := NN_2.out.later (balloc w2 (.cells #[.int .i64 0, .int .i64 0, .slice none 0 0, .slice none 0 0, .slice none 0 0] 29))
  have hRL := RL_2.out.later (balloc w2 (.cells #[.int .i64 0, .int .i64 0, .slice none 0 0, .slice none 0 0, .slice none 0 0] 29))
  have hRT := RT_2.out.later (balloc w2 (.cells #[.int .i64 0, .int .i64 0, .slice none 0 0, .slice none 0 0, .slice none 0 0] 29))
  have hA := A_2.out.later (balloc w2 (.cells #[.int .i64 0, .int .i64 0, .slice none 0 0, .slice none 0 0, .slice none 0 0] 29))
  have hB := B_2.out.later (balloc w2 (.cells #[.int .i64 0, .int .i64 0, .slice none 0 0, .slice none 0 0, .slice none 0 0] 29))
  have hR := x5_new w2 (.int .i64 0) (.int .i64 0) (.slice none 0 0) (.slice none 0 0) (.slice none 0 0) 29 w2.heap.size rfl
  have hz : (w2.alloc (.cells #[.int .i64 0, .int .i64 0, .slice none 0 0, .slice none 0 0, .slice none 0 0] 29)).heap.size = w2.heap.size + 1 := by simp
  obtain ⟨w3, hV3⟩ : ∃ V, w2.alloc (.cells #[.int .i64 0, .int .i64 0, .slice none 0 0, .slice none 0 0, .slice none 0 0] 29) = V := ⟨_, rfl⟩
  rw [hV3] at hHB hRS hNN hRL hRT hA hB hR hz
  have HB_3 : Hid (Below w.heap.size w w3) := hHB
  have RS_3 : Hid (RdII w3 sa sg) := hRS
  have NN_3 : Hid (RdNN w3 sa sg) := hNN
  have RL_3 : Hid (Rd w3 la li) := hRL
  have RT_3 : Hid (Rd w3 ta ls) := hRT
  have A_3 : Hid (X5 w3 w.heap.size (.int .i64 f) (.int .i64 e) (.slice sa sn sc) (.slice la ln lc) (.slice ta tn tc)) := hA
  have B_3 : Hid (X3 w3 w1.heap.size (.int .i64 3) (.int .i64 0) (.int .i64 0)) := hB
  have R_3 : Hid (X5 w3 w2.heap.size (.int .i64 0) (.int .i64 0) (.slice none 0 0) (.slice none 0 0) (.slice none 0 0)) := hR
  have z3 : w2.heap.size + 1 ≤ w3.heap.size := by omega
  clear HB_2 RS_2 NN_2 RL_2 RT_2 A_2 B_2 hHB hRS hNN hRL hRT hA hB hR hz
  go_enter Try.func20, Try.ntmps20
  obtain ⟨⟨Aq0, Aq1, Aq2, Aq3, Aq4⟩, Af⟩ := id (A_3.out)
  clear Af
  go_wp2_with fail
  clear hV1 hV2 hV3
  refine (q0 _ RS_3.out RL_3.out RT_3.out).mono ?_
  clear Aq0 Aq1 Aq2 Aq3 Aq4
  rintro e w4 ⟨rfl, hb⟩
  have hB : Below w3.heap.size w3 w4 := hb
  have HB_4 : Hid (Below w.heap.size w w4) := HB_3.out.trans (hB.mono HB_3.out.size)
  have RS_4 : Hid (RdII w4 sa sg) := RS_3.out.later hB
  have NN_4 : Hid (RdNN w4 sa sg) := NN_3.out.later hB
  have RL_4 : Hid (Rd w4 la li) := RL_3.out.later hB
  have RT_4 : Hid (Rd w4 ta ls) := RT_3.out.later hB
  have A_4 : Hid (X5 w4 w.heap.size (.int .i64 f) (.int .i64 e) (.slice sa sn sc) (.slice la ln lc) (.slice ta tn tc)) := A_3.out.later hB
  have B_4 : Hid (X3 w4 w1.heap.size (.int .i64 3) (.int .i64 0) (.int .i64 0)) := B_3.out.later hB
  have R_4 : Hid (X5 w4 w2.heap.size (.int .i64 0) (.int .i64 0) (.slice none 0 0) (.slice none 0 0) (.slice none 0 0)) := R_3.out.later hB
  have z4 : w3.heap.size ≤ w4.heap.size := hB.size
  clear hb hB HB_3 RS_3 NN_3 RL_3 RT_3 A_3 B_3 R_3 
  obtain ⟨⟨Aq0, Aq1, Aq2, Aq3, Aq4⟩, Af⟩ := id (A_4.out)
  clear Af
  go_wp2_with fail
  refine (q1 _ RS_4.out).mono ?_
  clear Aq0 Aq1 Aq2 Aq3 Aq4
  rintro e w5 ⟨g, rfl, hri, hb⟩
  have hB : Below w4.heap.size w4 w5 := hb
  have HB_5 : Hid (Below w.heap.size w w5) := HB_4.out.trans (hB.mono HB_4.out.size)
  have RS_5 : Hid (RdII w5 sa sg) := RS_4.out.later hB
  have NN_5 : Hid (RdNN w5 sa sg) := NN_4.out.later hB
  have RL_5 : Hid (Rd w5 la li) := RL_4.out.later hB
  have RT_5 : Hid (Rd w5 ta ls) := RT_4.out.later hB
  have A_5 : Hid (X5 w5 w.heap.size (.int .i64 f) (.int .i64 e) (.slice sa sn sc) (.slice la ln lc) (.slice ta tn tc)) := A_4.out.later hB
  have B_5 : Hid (X3 w5 w1.heap.size (.int .i64 3) (.int .i64 0) (.int .i64 0)) := B_4.out.later hB
  have R_5 : Hid (X5 w5 w2.heap.size (.int .i64 0) (.int .i64 0) (.slice none 0 0) (.slice none 0 0) (.slice none 0 0)) := R_4.out.later hB
  have z5 : w4.heap.size ≤ w5.heap.size := hB.size
  have RG_5 : Hid (RdII w5 (some ⟨g, 0, none⟩) (sitL N e sg)) := hri
  clear hb hB HB_4 RS_4 NN_4 RL_4 RT_4 A_4 B_4 R_4 hri
  have hHB := HB_5.out.alloc HB_5.out.size (.cells #[.int .i64 f, .slice la ln lc, .slice (some ⟨g, 0, none⟩) N N, .slice ta tn tc] 102)
  have hRS := RS_5.out.later (balloc w5 (.cells #[.int .i64 f, .slice la ln lc, .slice (some ⟨g, 0, none⟩) N N, .slice ta tn tc] 102))
  have hNN := NN_5.out.later (balloc w5 (.cells #[.int .i64 f, .slice la ln lc, .slice (some ⟨g, 0, none⟩) N N, .slice ta tn tc] 102))
  have hRL := RL_5.out.later (balloc w5 (.cells #[.int .i64 f, .slice la ln lc, .slice (some ⟨g, 0, none⟩) N N, .slice ta tn tc] 102))
  have hRT := RT_5.out.later (balloc w5 (.cells #[.int .i64 f, .slice la ln lc, .slice (some ⟨g, 0, none⟩) N N, .slice ta tn tc] 102))
  have hA := A_5.out.later (balloc w5 (.cells #[.int .i64 f, .slice la ln lc, .slice (some ⟨g, 0, none⟩) N N, .slice ta tn tc] 102))
  have hB := B_5.out.later (balloc w5 (.cells #[.int .i64 f, .slice la ln lc, .slice (some ⟨g, 0, none⟩) N N, .slice ta tn tc] 102))
  have hR := R_5.out.later (balloc w5 (.cells #[.int .i64 f, .slice la ln lc, .slice (some ⟨g, 0, none⟩) N N, .slice ta tn tc] 102))
  have hRG := RG_5.out.later (balloc w5 (.cells #[.int .i64 f, .slice la ln lc, .slice (some ⟨g, 0, none⟩) N N, .slice ta tn tc] 102))
  have hO := x4_new w5 (.int .i64 f) (.slice la ln lc) (.slice (some ⟨g, 0, none⟩) N N) (.slice ta tn tc) 102 w5.heap.size rfl
  have hz : (w5.alloc (.cells #[.int .i64 f, .slice la ln lc, .slice (some ⟨g, 0, none⟩) N N, .slice ta tn tc] 102)).heap.size = w5.heap.size + 1 := by simp
  obtain ⟨w6, hV6⟩ : ∃ V, w5.alloc (.cells #[.int .i64 f, .slice la ln lc, .slice (some ⟨g, 0, none⟩) N N, .slice ta tn tc] 102) = V := ⟨_, rfl⟩
  rw [hV6] at hHB hRS hNN hRL hRT hA hB hR hRG hO hz
  have HB_6 : Hid (Below w.heap.size w w6) := hHB
  have RS_6 : Hid (RdII w6 sa sg) := hRS
  have NN_6 : Hid (RdNN w6 sa sg) := hNN
  have RL_6 : Hid (Rd w6 la li) := hRL
  have RT_6 : Hid (Rd w6 ta ls) := hRT
  have A_6 : Hid (X5 w6 w.heap.size (.int .i64 f) (.int .i64 e) (.slice sa sn sc) (.slice la ln lc) (.slice ta tn tc)) := hA
  have B_6 : Hid (X3 w6 w1.heap.size (.int .i64 3) (.int .i64 0) (.int .i64 0)) := hB
  have R_6 : Hid (X5 w6 w2.heap.size (.int .i64 0) (.int .i64 0) (.slice none 0 0) (.slice none 0 0) (.slice none 0 0)) := hR
  have RG_6 : Hid (RdII w6 (some ⟨g, 0, none⟩) (sitL N e sg)) := hRG
  have O_6 : Hid (X4 w6 w5.heap.size (.int .i64 f) (.slice la ln lc) (.slice (some ⟨g, 0, none⟩) N N) (.slice ta tn tc)) := hO
  have z6 : w5.heap.size + 1 ≤ w6.heap.size := by omega
  clear HB_5 RS_5 NN_5 RL_5 RT_5 A_5 B_5 R_5 RG_5 hHB hRS hNN hRL hRT hA hB hR hRG hO hz
  obtain ⟨⟨Aq0, Aq1, Aq2, Aq3, Aq4⟩, Af⟩ := id (A_6.out)
  clear Af
  go_wp2_with fail
  clear hV6
  refine (q2 _ NN_6.out RL_6.out RT_6.out).mono ?_
  clear Aq0 Aq1 Aq2 Aq3 Aq4
  rintro e w7 ⟨sa1, sc1, la1, lc1, ta1, tc1, rfl, ho, hb⟩
  have hB : Below w6.heap.size w6 w7 := hb
  have HB_7 : Hid (Below w.heap.size w w7) := HB_6.out.trans (hB.mono HB_6.out.size)
  have RS_7 : Hid (RdII w7 sa sg) := RS_6.out.later hB
  have NN_7 : Hid (RdNN w7 sa sg) := NN_6.out.later hB
  have RL_7 : Hid (Rd w7 la li) := RL_6.out.later hB
  have RT_7 : Hid (Rd w7 ta ls) := RT_6.out.later hB
  have A_7 : Hid (X5 w7 w.heap.size (.int .i64 f) (.int .i64 e) (.slice sa sn sc) (.slice la ln lc) (.slice ta tn tc)) := A_6.out.later hB
  have B_7 : Hid (X3 w7 w1.heap.size (.int .i64 3) (.int .i64 0) (.int .i64 0)) := B_6.out.later hB
  have R_7 : Hid (X5 w7 w2.heap.size (.int .i64 0) (.int .i64 0) (.slice none 0 0) (.slice none 0 0) (.slice none 0 0)) := R_6.out.later hB
  have RG_7 : Hid (RdII w7 (some ⟨g, 0, none⟩) (sitL N e sg)) := RG_6.out.later hB
  have O_7 : Hid (X4 w7 w5.heap.size (.int .i64 f) (.slice la ln lc) (.slice (some ⟨g, 0, none⟩) N N) (.slice ta tn tc)) := O_6.out.later hB
  have z7 : w6.heap.size ≤ w7.heap.size := hB.size
  have BC_7 : Hid (OwnBd w7 w6.heap.size w7.heap.size (.slice sa1 sn sc1) (.slice la1 ln lc1) (.slice ta1 tn tc1) ⟨f, e, sg, li, ls⟩) := ho
  clear hb hB HB_6 RS_6 NN_6 RL_6 RT_6 A_6 B_6 R_6 RG_6 O_6 ho
  have hHB := HB_7.out.alloc HB_7.out.size (.cells #[.int .i64 f, .int .i64 e, .slice sa1 sn sc1, .slice la1 ln lc1, .slice ta1 tn tc1] 29)
  have hRS := RS_7.out.later (balloc w7 (.cells #[.int .i64 f, .int .i64 e, .slice sa1 sn sc1, .slice la1 ln lc1, .slice ta1 tn tc1] 29))
  have hNN := NN_7.out.later (balloc w7 (.cells #[.int .i64 f, .int .i64 e, .slice sa1 sn sc1, .slice la1 ln lc1, .slice ta1 tn tc1] 29))
  have hRL := RL_7.out.later (balloc w7 (.cells #[.int .i64 f, .int .i64 e, .slice sa1 sn sc1, .slice la1 ln lc1, .slice ta1 tn tc1] 29))
  have hRT := RT_7.out.later (balloc w7 (.cells #[.int .i64 f, .int .i64 e, .slice sa1 sn sc1, .slice la1 ln lc1, .slice ta1 tn tc1] 29))
  have hA := A_7.out.later (balloc w7 (.cells #[.int .i64 f, .int .i64 e, .slice sa1 sn sc1, .slice la1 ln lc1, .slice ta1 tn tc1] 29))
  have hB := B_7.out.later (balloc w7 (.cells #[.int .i64 f, .int .i64 e, .slice sa1 sn sc1, .slice la1 ln lc1, .slice ta1 tn tc1] 29))
  have hR := R_7.out.later (balloc w7 (.cells #[.int .i64 f, .int .i64 e, .slice sa1 sn sc1, .slice la1 ln lc1, .slice ta1 tn tc1] 29))
  have hRG := RG_7.out.later (balloc w7 (.cells #[.int .i64 f, .int .i64 e, .slice sa1 sn sc1, .slice la1 ln lc1, .slice ta1 tn tc1] 29))
  have hO := O_7.out.later (balloc w7 (.cells #[.int .i64 f, .int .i64 e, .slice sa1 sn sc1, .slice la1 ln lc1, .slice ta1 tn tc1] 29))
  have hBC := BC_7.out.later (balloc w7 (.cells #[.int .i64 f, .int .i64 e, .slice sa1 sn sc1, .slice la1 ln lc1, .slice ta1 tn tc1] 29))
  have hN := x5_new w7 (.int .i64 f) (.int .i64 e) (.slice sa1 sn sc1) (.slice la1 ln lc1) (.slice ta1 tn tc1) 29 w7.heap.size rfl
  have hz : (w7.alloc (.cells #[.int .i64 f, .int .i64 e, .slice sa1 sn sc1, .slice la1 ln lc1, .slice ta1 tn tc1] 29)).heap.size = w7.heap.size + 1 := by simp
  obtain ⟨w8, hV8⟩ : ∃ V, w7.alloc (.cells #[.int .i64 f, .int .i64 e, .slice sa1 sn sc1, .slice la1 ln lc1, .slice ta1 tn tc1] 29) = V := ⟨_, rfl⟩
  rw [hV8] at hHB hRS hNN hRL hRT hA hB hR hRG hO hBC hN hz
  have HB_8 : Hid (Below w.heap.size w w8) := hHB
  have RS_8 : Hid (RdII w8 sa sg) := hRS
  have NN_8 : Hid (RdNN w8 sa sg) := hNN
  have RL_8 : Hid (Rd w8 la li) := hRL
  have RT_8 : Hid (Rd w8 ta ls) := hRT
  have A_8 : Hid (X5 w8 w.heap.size (.int .i64 f) (.int .i64 e) (.slice sa sn sc) (.slice la ln lc) (.slice ta tn tc)) := hA
  have B_8 : Hid (X3 w8 w1.heap.size (.int .i64 3) (.int .i64 0) (.int .i64 0)) := hB
  have R_8 : Hid (X5 w8 w2.heap.size (.int .i64 0) (.int .i64 0) (.slice none 0 0) (.slice none 0 0) (.slice none 0 0)) := hR
  have RG_8 : Hid (RdII w8 (some ⟨g, 0, none⟩) (sitL N e sg)) := hRG
  have O_8 : Hid (X4 w8 w5.heap.size (.int .i64 f) (.slice la ln lc) (.slice (some ⟨g, 0, none⟩) N N) (.slice ta tn tc)) := hO
  have BC_8 : Hid (OwnBd w8 w6.heap.size w7.heap.size (.slice sa1 sn sc1) (.slice la1 ln lc1) (.slice ta1 tn tc1) ⟨f, e, sg, li, ls⟩) := hBC
  have N_8 : Hid (X5 w8 w7.heap.size (.int .i64 f) (.int .i64 e) (.slice sa1 sn sc1) (.slice la1 ln lc1) (.slice ta1 tn tc1)) := hN
  have z8 : w7.heap.size + 1 ≤ w8.heap.size := by omega
  clear HB_7 RS_7 NN_7 RL_7 RT_7 A_7 B_7 R_7 RG_7 O_7 BC_7 hHB hRS hNN hRL hRT hA hB hR hRG hO hBC hN hz
  obtain ⟨⟨pA0, pA1, pA2, pA3, pA4⟩, _⟩ := id (A_8.out)
  obtain ⟨⟨pB0, pB1, pB2⟩, _⟩ := id (B_8.out)
  have hN := ((N_8.out.set1 (.int .i64 (e + 1))).set4 (.slice none 0 0))
  have hHB : Below w.heap.size w ((w8.setCell ⟨w7.heap.size, 1, none⟩ (.int .i64 (e + 1))).setCell ⟨w7.heap.size, 4, none⟩ (.slice none 0 0)) := ((HB_8.out.setCell (by show w.heap.size ≤ w7.heap.size; omega) _).setCell (by show w.heap.size ≤ w7.heap.size; omega) _)
  have hA := ((A_8.out.other (r' := w7.heap.size) (j' := 1) (u := .int .i64 (e + 1)) (by omega)).other (r' := w7.heap.size) (j' := 4) (u := .slice none 0 0) (by omega))
  have hB := ((B_8.out.other (r' := w7.heap.size) (j' := 1) (u := .int .i64 (e + 1)) (by omega)).other (r' := w7.heap.size) (j' := 4) (u := .slice none 0 0) (by omega))
  have hR := ((R_8.out.other (r' := w7.heap.size) (j' := 1) (u := .int .i64 (e + 1)) (by omega)).other (r' := w7.heap.size) (j' := 4) (u := .slice none 0 0) (by omega))
  have hO := ((O_8.out.other (r' := w7.heap.size) (j' := 1) (u := .int .i64 (e + 1)) (by omega)).other (r' := w7.heap.size) (j' := 4) (u := .slice none 0 0) (by omega))
  have hBC := ((BC_8.out.cell (r := w7.heap.size) (j := 1) (by omega) (.int .i64 (e + 1))).cell (r := w7.heap.size) (j := 4) (by omega) (.slice none 0 0))
  have hz : ((w8.setCell ⟨w7.heap.size, 1, none⟩ (.int .i64 (e + 1))).setCell ⟨w7.heap.size, 4, none⟩ (.slice none 0 0)).heap.size = w8.heap.size := by simp
  obtain ⟨w9, hV9⟩ : ∃ V, ((w8.setCell ⟨w7.heap.size, 1, none⟩ (.int .i64 (e + 1))).setCell ⟨w7.heap.size, 4, none⟩ (.slice none 0 0)) = V := ⟨_, rfl⟩
  rw [hV9] at hN hHB hA hB hR hO hBC hz
  have N_9 : Hid (X5 w9 (w7.heap.size) (.int .i64 f) (.int .i64 (e + 1)) (.slice sa1 sn sc1) (.slice la1 ln lc1) (.slice none 0 0)) := hN
  have HB_9 : Hid (Below w.heap.size w w9) := hHB
  have A_9 : Hid (X5 w9 w.heap.size (.int .i64 f) (.int .i64 e) (.slice sa sn sc) (.slice la ln lc) (.slice ta tn tc)) := hA
  have B_9 : Hid (X3 w9 w1.heap.size (.int .i64 3) (.int .i64 0) (.int .i64 0)) := hB
  have R_9 : Hid (X5 w9 w2.heap.size (.int .i64 0) (.int .i64 0) (.slice none 0 0) (.slice none 0 0) (.slice none 0 0)) := hR
  have O_9 : Hid (X4 w9 w5.heap.size (.int .i64 f) (.slice la ln lc) (.slice (some ⟨g, 0, none⟩) N N) (.slice ta tn tc)) := hO
  have BC_9 : Hid (OwnBd w9 w6.heap.size w7.heap.size (.slice sa1 sn sc1) (.slice la1 ln lc1) (.slice ta1 tn tc1) ⟨f, e, sg, li, ls⟩) := hBC
  have z9 : w8.heap.size ≤ w9.heap.size := by omega
  obtain ⟨⟨oN0, oN1, oN2, oN3, oN4⟩, oNf⟩ := id (N_8.out)
  have oNf1 := oNf 1
  have oNf4 := oNf 4
  clear oNf hz hN hHB hA hB hR hO hBC
  have hZF := (((((R_9.out.set0 (.int .i64 f)).set1 (.int .i64 (e + 1))).set2 (.slice sa1 sn sc1)).set3 (.slice la1 ln lc1)).set4 (.slice none 0 0))
  have hBF : Below w.heap.size w (((((w9.setCell ⟨w2.heap.size, 0, none⟩ (.int .i64 f)).setCell ⟨w2.heap.size, 1, none⟩ (.int .i64 (e + 1))).setCell ⟨w2.heap.size, 2, none⟩ (.slice sa1 sn sc1)).setCell ⟨w2.heap.size, 3, none⟩ (.slice la1 ln lc1)).setCell ⟨w2.heap.size, 4, none⟩ (.slice none 0 0)) := (((((HB_9.out.setCell (by show w.heap.size ≤ w2.heap.size; omega) _).setCell (by show w.heap.size ≤ w2.heap.size; omega) _).setCell (by show w.heap.size ≤ w2.heap.size; omega) _).setCell (by show w.heap.size ≤ w2.heap.size; omega) _).setCell (by show w.heap.size ≤ w2.heap.size; omega) _)
  have hOF := ((((((BC_9.out.noT f (e + 1)).setBox (r := w2.heap.size) (j := 0) (by omega) (.int .i64 f)).setBox (r := w2.heap.size) (j := 1) (by omega) (.int .i64 (e + 1))).setBox (r := w2.heap.size) (j := 2) (by omega) (.slice sa1 sn sc1)).setBox (r := w2.heap.size) (j := 3) (by omega) (.slice la1 ln lc1)).setBox (r := w2.heap.size) (j := 4) (by omega) (.slice none 0 0))
  have hszF : (((((w9.setCell ⟨w2.heap.size, 0, none⟩ (.int .i64 f)).setCell ⟨w2.heap.size, 1, none⟩ (.int .i64 (e + 1))).setCell ⟨w2.heap.size, 2, none⟩ (.slice sa1 sn sc1)).setCell ⟨w2.heap.size, 3, none⟩ (.slice la1 ln lc1)).setCell ⟨w2.heap.size, 4, none⟩ (.slice none 0 0)).heap.size = w9.heap.size := by simp
  obtain ⟨⟨y0, y1, y2, y3, y4⟩, yf⟩ := id (R_9.out)
  have yf0 := yf 0
  have yf1 := yf 1
  have yf2 := yf 2
  have yf3 := yf 3
  have yf4 := yf 4
  obtain ⟨FW, hFW⟩ : ∃ F, (((((w9.setCell ⟨w2.heap.size, 0, none⟩ (.int .i64 f)).setCell ⟨w2.heap.size, 1, none⟩ (.int .i64 (e + 1))).setCell ⟨w2.heap.size, 2, none⟩ (.slice sa1 sn sc1)).setCell ⟨w2.heap.size, 3, none⟩ (.slice la1 ln lc1)).setCell ⟨w2.heap.size, 4, none⟩ (.slice none 0 0)) = F := ⟨_, rfl⟩
  rw [hFW] at hZF hBF hOF hszF
  obtain ⟨⟨t0, t1, t2, t3, t4⟩, _⟩ := hZF
  have HBF : Hid (Below w.heap.size w FW) := hBF
  have HOF := hOF
  clear hBF yf hOF
  obtain ⟨⟨Nq0, Nq1, Nq2, Nq3, Nq4⟩, Nf⟩ := id (N_9.out)
  clear Nf
  obtain ⟨⟨Aq0, Aq1, Aq2, Aq3, Aq4⟩, Af⟩ := id (A_9.out)
  clear Af
  obtain ⟨⟨Bq0, Bq1, Bq2⟩, Bf⟩ := id (B_9.out)
  clear Bf
  go_wp2
  clear hV8 hV9
  refine bodyPost_ret (v := .tuple #[.agg #[.int .i64 f, .int .i64 (e + 1), .slice sa1 sn sc1, .slice la1 ln lc1, .slice none 0 0], .bool true]) (by simp [results, Try.results20, go_sem, t0, t1, t2, t3, t4]; try rfl) rfl ?_
  have HOF2 := (HOF.mono (show w.heap.size ≤ _ by omega) (show _ ≤ FW.heap.size by omega))
  refine ⟨sa1, sc1, la1, lc1, none, 0, ?_, ?_, HBF.out⟩
  · rw [HV.out.1, HV.out.2]
    simp only [HS.out, HL.out, List.length_nil]
  · rw [HV.out.2]
    simp only [HS.out, HL.out, List.length_nil]
    exact HOF2

set_option maxHeartbeats 4000000 in
theorem implStep_s (f e : Int) (sa : Option Addr) (sn sc : Nat) (la : Option Addr) (ln lc : Nat) (ta : Option Addr) (tn tc : Nat) (sg : List (List Int)) (li ls : List Int) (k m l : Int) (w : World) (hg : goodBd ⟨f, e, sg, li, ls⟩ = true) (hr : RdBd w sa sn sc la ln lc ta tn tc ⟨f, e, sg, li, ls⟩) (hnn : RdNN w sa sg) (hk : k = 2) (hz : maySB ⟨f, e, sg, li, ls⟩ m l = true) (h2 : sg.length < 200) :
    Calls Try.prog 20 #[.agg #[.int .i64 f, .int .i64 e, .slice sa sn sc, .slice la ln lc, .slice ta tn tc], .agg #[.int .i64 k, .int .i64 m, .int .i64 l]] w fun r w' => BdOk r w w' (stepV ⟨f, e, sg, li, ls⟩ k m l) (stepB ⟨f, e, sg, li, ls⟩ k m l) := by
  have G := good_is hg
  have hN0 := G.f0
  have HS : Hid (sg.length = sn) := hr.sl
  have HL : Hid (li.length = ln) := hr.ll
  have HT : Hid (ls.length = tn) := hr.tl
  have hsn : sn ≤ 200 := by rw [← HS.out]; exact (sgsB_all G.sgOk).1
  have hln : ln ≤ 2 := by have := G.ln; have := G.f2; rw [HL.out] at *; omega
  have htn : tn ≤ 10 := by rw [← HT.out]; exact G.tn
  have hsl : ∀ l ∈ sg, l.length ≤ 1000 := fun l hl => by have := (sigB_mem ((sgsB_all G.sgOk).2 l hl)).1; omega
  obtain ⟨N, hN⟩ : ∃ N : Nat, 3 * f + 1 = (N : Int) := ⟨(3 * f + 1).toNat, by have := G.f0; omega⟩
  have q0 := fun wx (h1 : RdII wx sa sg) (h2 : Rd wx la li) (h3 : Rd wx ta ls) => implGood_c f e sa sn sc la ln lc ta tn tc sg li ls wx hr.sl (by omega) hr.ll (by omega) hr.tl (by omega) h1 h2 h3
  rw [hg] at q0
  have q1 := fun wx (h1 : RdII wx sa sg) => openSitting_c f e sa sn sc la ln lc ta tn tc N sg wx G.f0 G.f2 hN hr.sl h1 G.sgOk
  have q2 := fun wx (h1 : RdNN wx sa sg) (h2 : Rd wx la li) (h3 : Rd wx ta ls) => copyOfBoard_c f e sa sn sc la ln lc ta tn tc sg li ls wx hr.sl (by omega) hr.ll (by omega) hr.tl (by omega) h1 h2 h3 hsl hr.lz hr.tz
  have HRl : Hid (Ris ltI li) := G.lr
  have HRt : Hid (Ris ltI ls) := G.tr
  have q3 := fun ga wx (h3 : Rd wx ta ls) => mayPropose_c f la ln lc ga N ta tn tc ls l wx hr.tl (by omega) h3 HRt.out
  have q4 := fun wx ga (h2 : Rd wx la li) (h3 : Rd wx ta ls) (h4 : RdII wx ga (sitL N e sg)) => maySign_c f la ln lc ga N ta tn tc li ls (sitL N e sg) m l wx G.f0 G.f2 hN hr.ll (by omega) h2 HRl.out hr.tl (by omega) h3 HRt.out (sitL_length _ _ _) h4 (sitL_ris _ _ _) (sitL_len (sgsB_all G.sgOk).1)
  have hmay : (memB f m && (decide (l ∈ ls) && (decide (((sitL N e sg).getD m.toNat []).length = 0) || (decide (m ∈ li) && !decide (l ∈ (sitL N e sg).getD m.toNat []))))) = maySB ⟨f, e, sg, li, ls⟩ m l := may_sit hN m l
  rw [hmay] at q4
  clear hmay hsl hN hN0
  have HV : Hid (stepB ⟨f, e, sg, li, ls⟩ k m l = true ∧ stepV ⟨f, e, sg, li, ls⟩ k m l = ⟨f, e, sg ++ [[e, m, l]], li, ls⟩) := step_some hg (by rw [stepO, if_neg (fun h => by omega), if_pos ⟨hk, hz, h2⟩])
  rw [hz] at q4
  subst hk
  have h3 : (sn : Int) < 200 := by rw [HS.out] at h2; omega
  clear G hg q3 hz h2
  have HB_0 : Hid (Below w.heap.size w w) := Below.refl _ _
  have RS_0 : Hid (RdII w sa sg) := hr.s
  have NN_0 : Hid (RdNN w sa sg) := hnn
  have RL_0 : Hid (Rd w la li) := hr.l
  have RT_0 : Hid (Rd w ta ls) := hr.t
  clear hr hnn
  have hHB := HB_0.out.alloc HB_0.out.size (.cells #[.int .i64 f, .int .i64 e, .slice sa sn sc, .slice la ln lc, .slice ta tn tc] 29)
  have hRS := RS_0.out.later (balloc w (.cells #[.int .i64 f, .int .i64 e, .slice sa sn sc, .slice la ln lc, .slice ta tn tc] 29))
  have hNN := NN_0.out.later (balloc w (.cells #[.int .i64 f, .int .i64 e, .slice sa sn sc, .slice la ln lc, .slice ta tn tc] 29))
  have hRL := RL_0.out.later (balloc w (.cells #[.int .i64 f, .int .i64 e, .slice sa sn sc, .slice la ln lc, .slice ta tn tc] 29))
  have hRT := RT_0.out.later (balloc w (.cells #[.int .i64 f, .int .i64 e, .slice sa sn sc, .slice la ln lc, .slice ta tn tc] 29))
  have hA := x5_new w (.int .i64 f) (.int .i64 e) (.slice sa sn sc) (.slice la ln lc) (.slice ta tn tc) 29 w.heap.size rfl
  have hz : (w.alloc (.cells #[.int .i64 f, .int .i64 e, .slice sa sn sc, .slice la ln lc, .slice ta tn tc] 29)).heap.size = w.heap.size + 1 := by simp
  obtain ⟨w1, hV1⟩ : ∃ V, w.alloc (.cells #[.int .i64 f, .int .i64 e, .slice sa sn sc, .slice la ln lc, .slice ta tn tc] 29) = V := ⟨_, rfl⟩
  rw [hV1] at hHB hRS hNN hRL hRT hA hz
  have HB_1 : Hid (Below w.heap.size w w1) := hHB
  have RS_1 : Hid (RdII w1 sa sg) := hRS
  have NN_1 : Hid (RdNN w1 sa sg) := hNN
  have RL_1 : Hid (Rd w1 la li) := hRL
  have RT_1 : Hid (Rd w1 ta ls) := hRT
  have A_1 : Hid (X5 w1 w.heap.size (.int .i64 f) (.int .i64 e) (.slice sa sn sc) (.slice la ln lc) (.slice ta tn tc)) := hA
  have z1 : w.heap.size + 1 ≤ w1.heap.size := by omega
  clear HB_0 RS_0 NN_0 RL_0 RT_0 hHB hRS hNN hRL hRT hA hz
  have hHB := HB_1.out.alloc HB_1.out.size (.cells #[.int .i64 2, .int .i64 m, .int .i64 l] 40)
  have hRS := RS_1.out.later (balloc w1 (.cells #[.int .i64 2, .int .i64 m, .int .i64 l] 40))
  have hNN := NN_1.out.later (balloc w1 (.cells #[.int .i64 2, .int .i64 m, .int .i64 l] 40))
  have hRL := RL_1.out.later (balloc w1 (.cells #[.int .i64 2, .int .i64 m, .int .i64 l] 40))
  have hRT := RT_1.out.later (balloc w1 (.cells #[.int .i64 2, .int .i64 m, .int .i64 l] 40))
  have hA := A_1.out.later (balloc w1 (.cells #[.int .i64 2, .int .i64 m, .int .i64 l] 40))
  have hB := x3_new w1 (.int .i64 2) (.int .i64 m) (.int .i64 l) 40 w1.heap.size rfl
  have hz : (w1.alloc (.cells #[.int .i64 2, .int .i64 m, .int .i64 l] 40)).heap.size = w1.heap.size + 1 := by simp
  obtain ⟨w2, hV2⟩ : ∃ V, w1.alloc (.cells #[.int .i64 2, .int .i64 m, .int .i64 l] 40) = V := ⟨_, rfl⟩
  rw [hV2] at hHB hRS hNN hRL hRT hA hB hz
  have HB_2 : Hid (Below w.heap.size w w2) := hHB
  have RS_2 : Hid (RdII w2 sa sg) := hRS
  have NN_2 : Hid (RdNN w2 sa sg) := hNN
  have RL_2 : Hid (Rd w2 la li) := hRL
  have RT_2 : Hid (Rd w2 ta ls) := hRT
  have A_2 : Hid (X5 w2 w.heap.size (.int .i64 f) (.int .i64 e) (.slice sa sn sc) (.slice la ln lc) (.slice ta tn tc)) := hA
  have B_2 : Hid (X3 w2 w1.heap.size (.int .i64 2) (.int .i64 m) (.int .i64 l)) := hB
  have z2 : w1.heap.size + 1 ≤ w2.heap.size := by omega
  clear HB_1 RS_1 NN_1 RL_1 RT_1 A_1 hHB hRS hNN hRL hRT hA hB hz
  have hHB := HB_2.out.alloc HB_2.out.size (.cells #[.int .i64 0, .int .i64 0, .slice none 0 0, .slice none 0 0, .slice none 0 0] 29)
  have hRS := RS_2.out.later (balloc w2 (.cells #[.int .i64 0, .int .i64 0, .slice none 0 0, .slice none 0 0, .slice none 0 0] 29))
  have hNN := NN_2.out.later (balloc w2 (.cells #[.int .i64 0, .int .i64 0, .slice none 0 0, .slice none 0 0, .slice none 0 0] 29))
  have hRL := RL_2.out.later (balloc w2 (.cells #[.int .i64 0, .int .i64 0, .slice none 0 0, .slice none 0 0, .slice none 0 0] 29))
  have hRT := RT_2.out.later (balloc w2 (.cells #[.int .i64 0, .int .i64 0, .slice none 0 0, .slice none 0 0, .slice none 0 0] 29))
  have hA := A_2.out.later (balloc w2 (.cells #[.int .i64 0, .int .i64 0, .slice none 0 0, .slice none 0 0, .slice none 0 0] 29))
  have hB := B_2.out.later (balloc w2 (.cells #[.int .i64 0, .int .i64 0, .slice none 0 0, .slice none 0 0, .slice none 0 0] 29))
  have hR := x5_new w2 (.int .i64 0) (.int .i64 0) (.slice none 0 0) (.slice none 0 0) (.slice none 0 0) 29 w2.heap.size rfl
  have hz : (w2.alloc (.cells #[.int .i64 0, .int .i64 0, .slice none 0 0, .slice none 0 0, .slice none 0 0] 29)).heap.size = w2.heap.size + 1 := by simp
  obtain ⟨w3, hV3⟩ : ∃ V, w2.alloc (.cells #[.int .i64 0, .int .i64 0, .slice none 0 0, .slice none 0 0, .slice none 0 0] 29) = V := ⟨_, rfl⟩
  rw [hV3] at hHB hRS hNN hRL hRT hA hB hR hz
  have HB_3 : Hid (Below w.heap.size w w3) := hHB
  have RS_3 : Hid (RdII w3 sa sg) := hRS
  have NN_3 : Hid (RdNN w3 sa sg) := hNN
  have RL_3 : Hid (Rd w3 la li) := hRL
  have RT_3 : Hid (Rd w3 ta ls) := hRT
  have A_3 : Hid (X5 w3 w.heap.size (.int .i64 f) (.int .i64 e) (.slice sa sn sc) (.slice la ln lc) (.slice ta tn tc)) := hA
  have B_3 : Hid (X3 w3 w1.heap.size (.int .i64 2) (.int .i64 m) (.int .i64 l)) := hB
  have R_3 : Hid (X5 w3 w2.heap.size (.int .i64 0) (.int .i64 0) (.slice none 0 0) (.slice none 0 0) (.slice none 0 0)) := hR
  have z3 : w2.heap.size + 1 ≤ w3.heap.size := by omega
  clear HB_2 RS_2 NN_2 RL_2 RT_2 A_2 B_2 hHB hRS hNN hRL hRT hA hB hR hz
  go_enter Try.func20, Try.ntmps20
  obtain ⟨⟨Aq0, Aq1, Aq2, Aq3, Aq4⟩, Af⟩ := id (A_3.out)
  clear Af
  go_wp2_with fail
  clear hV1 hV2 hV3
  refine (q0 _ RS_3.out RL_3.out RT_3.out).mono ?_
  clear Aq0 Aq1 Aq2 Aq3 Aq4
  rintro e w4 ⟨rfl, hb⟩
  have hB : Below w3.heap.size w3 w4 := hb
  have HB_4 : Hid (Below w.heap.size w w4) := HB_3.out.trans (hB.mono HB_3.out.size)
  have RS_4 : Hid (RdII w4 sa sg) := RS_3.out.later hB
  have NN_4 : Hid (RdNN w4 sa sg) := NN_3.out.later hB
  have RL_4 : Hid (Rd w4 la li) := RL_3.out.later hB
  have RT_4 : Hid (Rd w4 ta ls) := RT_3.out.later hB
  have A_4 : Hid (X5 w4 w.heap.size (.int .i64 f) (.int .i64 e) (.slice sa sn sc) (.slice la ln lc) (.slice ta tn tc)) := A_3.out.later hB
  have B_4 : Hid (X3 w4 w1.heap.size (.int .i64 2) (.int .i64 m) (.int .i64 l)) := B_3.out.later hB
  have R_4 : Hid (X5 w4 w2.heap.size (.int .i64 0) (.int .i64 0) (.slice none 0 0) (.slice none 0 0) (.slice none 0 0)) := R_3.out.later hB
  have z4 : w3.heap.size ≤ w4.heap.size := hB.size
  clear hb hB HB_3 RS_3 NN_3 RL_3 RT_3 A_3 B_3 R_3 
  obtain ⟨⟨Aq0, Aq1, Aq2, Aq3, Aq4⟩, Af⟩ := id (A_4.out)
  clear Af
  go_wp2_with fail
  refine (q1 _ RS_4.out).mono ?_
  clear Aq0 Aq1 Aq2 Aq3 Aq4
  rintro e w5 ⟨g, rfl, hri, hb⟩
  have hB : Below w4.heap.size w4 w5 := hb
  have HB_5 : Hid (Below w.heap.size w w5) := HB_4.out.trans (hB.mono HB_4.out.size)
  have RS_5 : Hid (RdII w5 sa sg) := RS_4.out.later hB
  have NN_5 : Hid (RdNN w5 sa sg) := NN_4.out.later hB
  have RL_5 : Hid (Rd w5 la li) := RL_4.out.later hB
  have RT_5 : Hid (Rd w5 ta ls) := RT_4.out.later hB
  have A_5 : Hid (X5 w5 w.heap.size (.int .i64 f) (.int .i64 e) (.slice sa sn sc) (.slice la ln lc) (.slice ta tn tc)) := A_4.out.later hB
  have B_5 : Hid (X3 w5 w1.heap.size (.int .i64 2) (.int .i64 m) (.int .i64 l)) := B_4.out.later hB
  have R_5 : Hid (X5 w5 w2.heap.size (.int .i64 0) (.int .i64 0) (.slice none 0 0) (.slice none 0 0) (.slice none 0 0)) := R_4.out.later hB
  have z5 : w4.heap.size ≤ w5.heap.size := hB.size
  have RG_5 : Hid (RdII w5 (some ⟨g, 0, none⟩) (sitL N e sg)) := hri
  clear hb hB HB_4 RS_4 NN_4 RL_4 RT_4 A_4 B_4 R_4 hri
  have hHB := HB_5.out.alloc HB_5.out.size (.cells #[.int .i64 f, .slice la ln lc, .slice (some ⟨g, 0, none⟩) N N, .slice ta tn tc] 102)
  have hRS := RS_5.out.later (balloc w5 (.cells #[.int .i64 f, .slice la ln lc, .slice (some ⟨g, 0, none⟩) N N, .slice ta tn tc] 102))
  have hNN := NN_5.out.later (balloc w5 (.cells #[.int .i64 f, .slice la ln lc, .slice (some ⟨g, 0, none⟩) N N, .slice ta tn tc] 102))
  have hRL := RL_5.out.later (balloc w5 (.cells #[.int .i64 f, .slice la ln lc, .slice (some ⟨g, 0, none⟩) N N, .slice ta tn tc] 102))
  have hRT := RT_5.out.later (balloc w5 (.cells #[.int .i64 f, .slice la ln lc, .slice (some ⟨g, 0, none⟩) N N, .slice ta tn tc] 102))
  have hA := A_5.out.later (balloc w5 (.cells #[.int .i64 f, .slice la ln lc, .slice (some ⟨g, 0, none⟩) N N, .slice ta tn tc] 102))
  have hB := B_5.out.later (balloc w5 (.cells #[.int .i64 f, .slice la ln lc, .slice (some ⟨g, 0, none⟩) N N, .slice ta tn tc] 102))
  have hR := R_5.out.later (balloc w5 (.cells #[.int .i64 f, .slice la ln lc, .slice (some ⟨g, 0, none⟩) N N, .slice ta tn tc] 102))
  have hRG := RG_5.out.later (balloc w5 (.cells #[.int .i64 f, .slice la ln lc, .slice (some ⟨g, 0, none⟩) N N, .slice ta tn tc] 102))
  have hO := x4_new w5 (.int .i64 f) (.slice la ln lc) (.slice (some ⟨g, 0, none⟩) N N) (.slice ta tn tc) 102 w5.heap.size rfl
  have hz : (w5.alloc (.cells #[.int .i64 f, .slice la ln lc, .slice (some ⟨g, 0, none⟩) N N, .slice ta tn tc] 102)).heap.size = w5.heap.size + 1 := by simp
  obtain ⟨w6, hV6⟩ : ∃ V, w5.alloc (.cells #[.int .i64 f, .slice la ln lc, .slice (some ⟨g, 0, none⟩) N N, .slice ta tn tc] 102) = V := ⟨_, rfl⟩
  rw [hV6] at hHB hRS hNN hRL hRT hA hB hR hRG hO hz
  have HB_6 : Hid (Below w.heap.size w w6) := hHB
  have RS_6 : Hid (RdII w6 sa sg) := hRS
  have NN_6 : Hid (RdNN w6 sa sg) := hNN
  have RL_6 : Hid (Rd w6 la li) := hRL
  have RT_6 : Hid (Rd w6 ta ls) := hRT
  have A_6 : Hid (X5 w6 w.heap.size (.int .i64 f) (.int .i64 e) (.slice sa sn sc) (.slice la ln lc) (.slice ta tn tc)) := hA
  have B_6 : Hid (X3 w6 w1.heap.size (.int .i64 2) (.int .i64 m) (.int .i64 l)) := hB
  have R_6 : Hid (X5 w6 w2.heap.size (.int .i64 0) (.int .i64 0) (.slice none 0 0) (.slice none 0 0) (.slice none 0 0)) := hR
  have RG_6 : Hid (RdII w6 (some ⟨g, 0, none⟩) (sitL N e sg)) := hRG
  have O_6 : Hid (X4 w6 w5.heap.size (.int .i64 f) (.slice la ln lc) (.slice (some ⟨g, 0, none⟩) N N) (.slice ta tn tc)) := hO
  have z6 : w5.heap.size + 1 ≤ w6.heap.size := by omega
  clear HB_5 RS_5 NN_5 RL_5 RT_5 A_5 B_5 R_5 RG_5 hHB hRS hNN hRL hRT hA hB hR hRG hO hz
  obtain ⟨⟨Aq0, Aq1, Aq2, Aq3, Aq4⟩, Af⟩ := id (A_6.out)
  clear Af
  go_wp2_with fail
  clear hV6
  refine (q2 _ NN_6.out RL_6.out RT_6.out).mono ?_
  clear Aq0 Aq1 Aq2 Aq3 Aq4
  rintro e w7 ⟨sa1, sc1, la1, lc1, ta1, tc1, rfl, ho, hb⟩
  have hB : Below w6.heap.size w6 w7 := hb
  have HB_7 : Hid (Below w.heap.size w w7) := HB_6.out.trans (hB.mono HB_6.out.size)
  have RS_7 : Hid (RdII w7 sa sg) := RS_6.out.later hB
  have NN_7 : Hid (RdNN w7 sa sg) := NN_6.out.later hB
  have RL_7 : Hid (Rd w7 la li) := RL_6.out.later hB
  have RT_7 : Hid (Rd w7 ta ls) := RT_6.out.later hB
  have A_7 : Hid (X5 w7 w.heap.size (.int .i64 f) (.int .i64 e) (.slice sa sn sc) (.slice la ln lc) (.slice ta tn tc)) := A_6.out.later hB
  have B_7 : Hid (X3 w7 w1.heap.size (.int .i64 2) (.int .i64 m) (.int .i64 l)) := B_6.out.later hB
  have R_7 : Hid (X5 w7 w2.heap.size (.int .i64 0) (.int .i64 0) (.slice none 0 0) (.slice none 0 0) (.slice none 0 0)) := R_6.out.later hB
  have RG_7 : Hid (RdII w7 (some ⟨g, 0, none⟩) (sitL N e sg)) := RG_6.out.later hB
  have O_7 : Hid (X4 w7 w5.heap.size (.int .i64 f) (.slice la ln lc) (.slice (some ⟨g, 0, none⟩) N N) (.slice ta tn tc)) := O_6.out.later hB
  have z7 : w6.heap.size ≤ w7.heap.size := hB.size
  have BC_7 : Hid (OwnBd w7 w6.heap.size w7.heap.size (.slice sa1 sn sc1) (.slice la1 ln lc1) (.slice ta1 tn tc1) ⟨f, e, sg, li, ls⟩) := ho
  clear hb hB HB_6 RS_6 NN_6 RL_6 RT_6 A_6 B_6 R_6 RG_6 O_6 ho
  have hHB := HB_7.out.alloc HB_7.out.size (.cells #[.int .i64 f, .int .i64 e, .slice sa1 sn sc1, .slice la1 ln lc1, .slice ta1 tn tc1] 29)
  have hRS := RS_7.out.later (balloc w7 (.cells #[.int .i64 f, .int .i64 e, .slice sa1 sn sc1, .slice la1 ln lc1, .slice ta1 tn tc1] 29))
  have hNN := NN_7.out.later (balloc w7 (.cells #[.int .i64 f, .int .i64 e, .slice sa1 sn sc1, .slice la1 ln lc1, .slice ta1 tn tc1] 29))
  have hRL := RL_7.out.later (balloc w7 (.cells #[.int .i64 f, .int .i64 e, .slice sa1 sn sc1, .slice la1 ln lc1, .slice ta1 tn tc1] 29))
  have hRT := RT_7.out.later (balloc w7 (.cells #[.int .i64 f, .int .i64 e, .slice sa1 sn sc1, .slice la1 ln lc1, .slice ta1 tn tc1] 29))
  have hA := A_7.out.later (balloc w7 (.cells #[.int .i64 f, .int .i64 e, .slice sa1 sn sc1, .slice la1 ln lc1, .slice ta1 tn tc1] 29))
  have hB := B_7.out.later (balloc w7 (.cells #[.int .i64 f, .int .i64 e, .slice sa1 sn sc1, .slice la1 ln lc1, .slice ta1 tn tc1] 29))
  have hR := R_7.out.later (balloc w7 (.cells #[.int .i64 f, .int .i64 e, .slice sa1 sn sc1, .slice la1 ln lc1, .slice ta1 tn tc1] 29))
  have hRG := RG_7.out.later (balloc w7 (.cells #[.int .i64 f, .int .i64 e, .slice sa1 sn sc1, .slice la1 ln lc1, .slice ta1 tn tc1] 29))
  have hO := O_7.out.later (balloc w7 (.cells #[.int .i64 f, .int .i64 e, .slice sa1 sn sc1, .slice la1 ln lc1, .slice ta1 tn tc1] 29))
  have hBC := BC_7.out.later (balloc w7 (.cells #[.int .i64 f, .int .i64 e, .slice sa1 sn sc1, .slice la1 ln lc1, .slice ta1 tn tc1] 29))
  have hN := x5_new w7 (.int .i64 f) (.int .i64 e) (.slice sa1 sn sc1) (.slice la1 ln lc1) (.slice ta1 tn tc1) 29 w7.heap.size rfl
  have hz : (w7.alloc (.cells #[.int .i64 f, .int .i64 e, .slice sa1 sn sc1, .slice la1 ln lc1, .slice ta1 tn tc1] 29)).heap.size = w7.heap.size + 1 := by simp
  obtain ⟨w8, hV8⟩ : ∃ V, w7.alloc (.cells #[.int .i64 f, .int .i64 e, .slice sa1 sn sc1, .slice la1 ln lc1, .slice ta1 tn tc1] 29) = V := ⟨_, rfl⟩
  rw [hV8] at hHB hRS hNN hRL hRT hA hB hR hRG hO hBC hN hz
  have HB_8 : Hid (Below w.heap.size w w8) := hHB
  have RS_8 : Hid (RdII w8 sa sg) := hRS
  have NN_8 : Hid (RdNN w8 sa sg) := hNN
  have RL_8 : Hid (Rd w8 la li) := hRL
  have RT_8 : Hid (Rd w8 ta ls) := hRT
  have A_8 : Hid (X5 w8 w.heap.size (.int .i64 f) (.int .i64 e) (.slice sa sn sc) (.slice la ln lc) (.slice ta tn tc)) := hA
  have B_8 : Hid (X3 w8 w1.heap.size (.int .i64 2) (.int .i64 m) (.int .i64 l)) := hB
  have R_8 : Hid (X5 w8 w2.heap.size (.int .i64 0) (.int .i64 0) (.slice none 0 0) (.slice none 0 0) (.slice none 0 0)) := hR
  have RG_8 : Hid (RdII w8 (some ⟨g, 0, none⟩) (sitL N e sg)) := hRG
  have O_8 : Hid (X4 w8 w5.heap.size (.int .i64 f) (.slice la ln lc) (.slice (some ⟨g, 0, none⟩) N N) (.slice ta tn tc)) := hO
  have BC_8 : Hid (OwnBd w8 w6.heap.size w7.heap.size (.slice sa1 sn sc1) (.slice la1 ln lc1) (.slice ta1 tn tc1) ⟨f, e, sg, li, ls⟩) := hBC
  have N_8 : Hid (X5 w8 w7.heap.size (.int .i64 f) (.int .i64 e) (.slice sa1 sn sc1) (.slice la1 ln lc1) (.slice ta1 tn tc1)) := hN
  have z8 : w7.heap.size + 1 ≤ w8.heap.size := by omega
  clear HB_7 RS_7 NN_7 RL_7 RT_7 A_7 B_7 R_7 RG_7 O_7 BC_7 hHB hRS hNN hRL hRT hA hB hR hRG hO hBC hN hz
  obtain ⟨⟨Bq0, Bq1, Bq2⟩, Bf⟩ := id (B_8.out)
  clear Bf
  obtain ⟨⟨Oq0, Oq1, Oq2, Oq3⟩, Of⟩ := id (O_8.out)
  clear Of
  go_wp2_with fail
  clear hV8
  refine (q4 _ (some ⟨g, 0, none⟩) RL_8.out RT_8.out RG_8.out).mono ?_
  clear Bq0 Bq1 Bq2
  clear Oq0 Oq1 Oq2 Oq3
  rintro e w9 ⟨rfl, hb⟩
  have hB : Below w8.heap.size w8 w9 := hb
  have HB_9 : Hid (Below w.heap.size w w9) := HB_8.out.trans (hB.mono HB_8.out.size)
  have RS_9 : Hid (RdII w9 sa sg) := RS_8.out.later hB
  have NN_9 : Hid (RdNN w9 sa sg) := NN_8.out.later hB
  have RL_9 : Hid (Rd w9 la li) := RL_8.out.later hB
  have RT_9 : Hid (Rd w9 ta ls) := RT_8.out.later hB
  have A_9 : Hid (X5 w9 w.heap.size (.int .i64 f) (.int .i64 e) (.slice sa sn sc) (.slice la ln lc) (.slice ta tn tc)) := A_8.out.later hB
  have B_9 : Hid (X3 w9 w1.heap.size (.int .i64 2) (.int .i64 m) (.int .i64 l)) := B_8.out.later hB
  have R_9 : Hid (X5 w9 w2.heap.size (.int .i64 0) (.int .i64 0) (.slice none 0 0) (.slice none 0 0) (.slice none 0 0)) := R_8.out.later hB
  have RG_9 : Hid (RdII w9 (some ⟨g, 0, none⟩) (sitL N e sg)) := RG_8.out.later hB
  have O_9 : Hid (X4 w9 w5.heap.size (.int .i64 f) (.slice la ln lc) (.slice (some ⟨g, 0, none⟩) N N) (.slice ta tn tc)) := O_8.out.later hB
  have BC_9 : Hid (OwnBd w9 w6.heap.size w7.heap.size (.slice sa1 sn sc1) (.slice la1 ln lc1) (.slice ta1 tn tc1) ⟨f, e, sg, li, ls⟩) := BC_8.out.later hB
  have N_9 : Hid (X5 w9 w7.heap.size (.int .i64 f) (.int .i64 e) (.slice sa1 sn sc1) (.slice la1 ln lc1) (.slice ta1 tn tc1)) := N_8.out.later hB
  have z9 : w8.heap.size ≤ w9.heap.size := hB.size
  clear hb hB HB_8 RS_8 NN_8 RL_8 RT_8 A_8 B_8 R_8 RG_8 O_8 BC_8 N_8 
  obtain ⟨gq, cap, w99, r1, hpu, hrg⟩ := BC_9.out.pushAt (by omega) (by omega) (by show sg.length ≤ 1000; rw [HS.out]; omega) e m l f e (w7.heap.size) 2 (by omega) (by omega)
  simp only [HS.out] at r1 hpu
  have hz9 : w9.heap.size ≤ w99.heap.size := hrg.size
  obtain ⟨⟨pA0, pA1, pA2, pA3, pA4⟩, _⟩ := id (A_9.out)
  obtain ⟨⟨pB0, pB1, pB2⟩, _⟩ := id (B_9.out)
  obtain ⟨⟨pN0, pN1, pN2, pN3, pN4⟩, _⟩ := id (N_9.out)
  have hN9 := N_9.out.rngP hrg (by omega)
  have hR9 := R_9.out.rngP hrg (by omega)
  have hB9 := HB_9.out.trans (hrg.below (fun k h => by omega) HB_9.out.size)
  have hN10 := hN9.set2 (.slice (some ⟨gq, 0, none⟩) (sn + 1) cap)
  have hR10 := hR9.other (r' := w7.heap.size) (j' := 2) (u := .slice (some ⟨gq, 0, none⟩) (sn + 1) cap) (by omega)
  have hB10 : Below w.heap.size w (w99.setCell ⟨w7.heap.size, 2, none⟩ (.slice (some ⟨gq, 0, none⟩) (sn + 1) cap)) := hB9.setCell (by show w.heap.size ≤ w7.heap.size; omega) _
  have hz10 : (w99.setCell ⟨w7.heap.size, 2, none⟩ (.slice (some ⟨gq, 0, none⟩) (sn + 1) cap)).heap.size = w99.heap.size := by simp
  obtain ⟨⟨oN0, oN1, oN2, oN3, oN4⟩, oNf⟩ := hN9
  have oNf2 := oNf 2
  obtain ⟨w10, hV10⟩ : ∃ V, (w99.setCell ⟨w7.heap.size, 2, none⟩ (.slice (some ⟨gq, 0, none⟩) (sn + 1) cap)) = V := ⟨_, rfl⟩
  rw [hV10] at hN10 hR10 hB10 hz10 hpu
  have HB_10 : Hid (Below w.heap.size w w10) := hB10
  have N_10 : Hid (X5 w10 (w7.heap.size) (.int .i64 f) (.int .i64 e) (.slice (some ⟨gq, 0, none⟩) (sn + 1) cap) (.slice la1 ln lc1) (.slice ta1 tn tc1)) := hN10
  have R_10 : Hid (X5 w10 w2.heap.size (.int .i64 0) (.int .i64 0) (.slice none 0 0) (.slice none 0 0) (.slice none 0 0)) := hR10
  have BP_10 : Hid (OwnBd w10 w6.heap.size w99.heap.size (.slice (some ⟨gq, 0, none⟩) (sn + 1) cap) (.slice la1 ln lc1) (.slice ta1 tn tc1) ⟨f, e, sg ++ [[e, m, l]], li, ls⟩) := hpu
  have z10 : w9.heap.size ≤ w10.heap.size := by omega
  clear oNf hrg hB9 hR9 hB10 hR10 hN10 hpu HB_9 RS_9 NN_9 RL_9 RT_9 A_9 B_9 R_9 RG_9 O_9 BC_9 N_9
  have hZF := (((((R_10.out.set0 (.int .i64 f)).set1 (.int .i64 e)).set2 (.slice (some ⟨gq, 0, none⟩) (sn + 1) cap)).set3 (.slice la1 ln lc1)).set4 (.slice ta1 tn tc1))
  have hBF : Below w.heap.size w (((((w10.setCell ⟨w2.heap.size, 0, none⟩ (.int .i64 f)).setCell ⟨w2.heap.size, 1, none⟩ (.int .i64 e)).setCell ⟨w2.heap.size, 2, none⟩ (.slice (some ⟨gq, 0, none⟩) (sn + 1) cap)).setCell ⟨w2.heap.size, 3, none⟩ (.slice la1 ln lc1)).setCell ⟨w2.heap.size, 4, none⟩ (.slice ta1 tn tc1)) := (((((HB_10.out.setCell (by show w.heap.size ≤ w2.heap.size; omega) _).setCell (by show w.heap.size ≤ w2.heap.size; omega) _).setCell (by show w.heap.size ≤ w2.heap.size; omega) _).setCell (by show w.heap.size ≤ w2.heap.size; omega) _).setCell (by show w.heap.size ≤ w2.heap.size; omega) _)
  have hOF := (((((BP_10.out.setBox (r := w2.heap.size) (j := 0) (by omega) (.int .i64 f)).setBox (r := w2.heap.size) (j := 1) (by omega) (.int .i64 e)).setBox (r := w2.heap.size) (j := 2) (by omega) (.slice (some ⟨gq, 0, none⟩) (sn + 1) cap)).setBox (r := w2.heap.size) (j := 3) (by omega) (.slice la1 ln lc1)).setBox (r := w2.heap.size) (j := 4) (by omega) (.slice ta1 tn tc1))
  have hszF : (((((w10.setCell ⟨w2.heap.size, 0, none⟩ (.int .i64 f)).setCell ⟨w2.heap.size, 1, none⟩ (.int .i64 e)).setCell ⟨w2.heap.size, 2, none⟩ (.slice (some ⟨gq, 0, none⟩) (sn + 1) cap)).setCell ⟨w2.heap.size, 3, none⟩ (.slice la1 ln lc1)).setCell ⟨w2.heap.size, 4, none⟩ (.slice ta1 tn tc1)).heap.size = w10.heap.size := by simp
  obtain ⟨⟨y0, y1, y2, y3, y4⟩, yf⟩ := id (R_10.out)
  have yf0 := yf 0
  have yf1 := yf 1
  have yf2 := yf 2
  have yf3 := yf 3
  have yf4 := yf 4
  obtain ⟨FW, hFW⟩ : ∃ F, (((((w10.setCell ⟨w2.heap.size, 0, none⟩ (.int .i64 f)).setCell ⟨w2.heap.size, 1, none⟩ (.int .i64 e)).setCell ⟨w2.heap.size, 2, none⟩ (.slice (some ⟨gq, 0, none⟩) (sn + 1) cap)).setCell ⟨w2.heap.size, 3, none⟩ (.slice la1 ln lc1)).setCell ⟨w2.heap.size, 4, none⟩ (.slice ta1 tn tc1)) = F := ⟨_, rfl⟩
  rw [hFW] at hZF hBF hOF hszF
  obtain ⟨⟨t0, t1, t2, t3, t4⟩, _⟩ := hZF
  have HBF : Hid (Below w.heap.size w FW) := hBF
  have HOF := hOF
  clear hBF yf hOF
  obtain ⟨⟨Nq0, Nq1, Nq2, Nq3, Nq4⟩, Nf⟩ := id (N_10.out)
  clear Nf
  go_wp2_with (first | (at_builtin; refine Lib.wpList_append_run _ rfl _ _ _ _ rfl _ _ rfl rfl _ _ (r1 _) ?_; clear r1) | fail)
  clear hV10
  refine bodyPost_ret (v := .tuple #[.agg #[.int .i64 f, .int .i64 e, .slice (some ⟨gq, 0, none⟩) (sn + 1) cap, .slice la1 ln lc1, .slice ta1 tn tc1], .bool true]) (by simp [results, Try.results20, go_sem, t0, t1, t2, t3, t4]; try rfl) rfl ?_
  have HOF2 := (HOF.mono (show w.heap.size ≤ _ by omega) (show _ ≤ FW.heap.size by omega))
  refine ⟨some ⟨gq, 0, none⟩, cap, la1, lc1, ta1, tc1, ?_, ?_, HBF.out⟩
  · rw [HV.out.1, HV.out.2]
    simp only [List.length_append, List.length_cons, List.length_nil, Nat.zero_add, HS.out, HL.out, HT.out]
  · rw [HV.out.2]
    simp only [List.length_append, List.length_cons, List.length_nil, Nat.zero_add, HS.out, HL.out, HT.out]
    exact HOF2

theorem implStep_c (f e : Int) (sa : Option Addr) (sn sc : Nat) (la : Option Addr) (ln lc : Nat) (ta : Option Addr) (tn tc : Nat) (sg : List (List Int)) (li ls : List Int) (k m l : Int) (w : World) (hr : RdBd w sa sn sc la ln lc ta tn tc ⟨f, e, sg, li, ls⟩) (hnn : RdNN w sa sg) (hsn : sn ≤ 1048576) (hln : ln ≤ 1048576) (htn : tn ≤ 1048576) :
    Calls Try.prog 20 #[.agg #[.int .i64 f, .int .i64 e, .slice sa sn sc, .slice la ln lc, .slice ta tn tc], .agg #[.int .i64 k, .int .i64 m, .int .i64 l]] w fun r w' => BdOk r w w' (stepV ⟨f, e, sg, li, ls⟩ k m l) (stepB ⟨f, e, sg, li, ls⟩ k m l) := by
  cases hg : goodBd ⟨f, e, sg, li, ls⟩
  · exact implStep_bad f e sa sn sc la ln lc ta tn tc sg li ls k m l w hg hr hnn hsn hln htn
  by_cases h1 : k = 1
  · by_cases h2 : m = 0
    · cases hz : (inB l 0 9 && !decide (l ∈ ls))
      · exact implStep_d1 f e sa sn sc la ln lc ta tn tc sg li ls k m l w hg hr hnn h1 h2 hz
      · exact implStep_p f e sa sn sc la ln lc ta tn tc sg li ls k m l w hg hr hnn h1 h2 hz
    · exact implStep_d3 f e sa sn sc la ln lc ta tn tc sg li ls k m l w hg hr hnn h1 h2
  by_cases h2 : k = 2
  · cases hz : maySB ⟨f, e, sg, li, ls⟩ m l
    · exact implStep_s3 f e sa sn sc la ln lc ta tn tc sg li ls k m l w hg hr hnn h2 hz
    · by_cases h3 : sg.length < 200
      · exact implStep_s f e sa sn sc la ln lc ta tn tc sg li ls k m l w hg hr hnn h2 hz h3
      · exact implStep_s2 f e sa sn sc la ln lc ta tn tc sg li ls k m l w hg hr hnn h2 hz (by omega)
  by_cases h3 : k = 3
  · by_cases h4 : m = 0 ∧ l = 0
    · by_cases h5 : e < 20
      · exact implStep_e f e sa sn sc la ln lc ta tn tc sg li ls k m l w hg hr hnn h3 h4.1 h4.2 h5
      · exact implStep_e2 f e sa sn sc la ln lc ta tn tc sg li ls k m l w hg hr hnn h3 h4.1 h4.2 (by omega)
    · exact implStep_e3 f e sa sn sc la ln lc ta tn tc sg li ls k m l w hg hr hnn h3 h4
  exact implStep_o f e sa sn sc la ln lc ta tn tc sg li ls k m l w hg hr hnn h1 h2 h3

end Go.Proofs.Ytaokmjbhgkfnfaa
