/- Chapter 13: StepBoard of the program: steps that are not done. -/
import Derived.Test.YtaokmjbhgkfnfaaSP13s
import Derived.ChangeKeysEq
namespace Go.Proofs.Ytaokmjbhgkfnfaa
set_option linter.unusedVariables false
set_option maxRecDepth 1000000
set_option linter.unusedSimpArgs false
open Go.RowKit

theorem Try.plainInt : Try.prog.plainKey 3 = true := by kernel_rfl

theorem equalIn_bs (k : Nat) (a b c p q r : Int) (w : World) : (Op.equalIn (k + 2) 40 (.agg #[.int .i64 a, .int .i64 b, .int .i64 c]) (.agg #[.int .i64 p, .int .i64 q, .int .i64 r])).run Try.prog w = .ok (decide ((a, b, c) = (p, q, r))) w := by
  have p0 : ∀ a b c : Int, (part 3 #[.int .i64 a, .int .i64 b, .int .i64 c] 0).run Try.prog w = .ok (.int .i64 a) w := fun a b c => run_part_plain w Try.plainInt rfl
  have p1 : ∀ a b c : Int, (part 3 #[.int .i64 a, .int .i64 b, .int .i64 c] 1).run Try.prog w = .ok (.int .i64 b) w := fun a b c => run_part_plain w Try.plainInt rfl
  have p2 : ∀ a b c : Int, (part 3 #[.int .i64 a, .int .i64 b, .int .i64 c] 2).run Try.prog w = .ok (.int .i64 c) w := fun a b c => run_part_plain w Try.plainInt rfl
  rw [run_equalIn_struct w (k + 1) 40 _ _ (by kernel_rfl) (by kernel_rfl)]
  simp only [Program.fieldsOf, Try.underlying40, Op.eqFields]
  simp [p0, p1, p2, run_equalIn_int w k 3 .i64 .i64 _ _ Try.underlying3]
  by_cases h1 : a = p
  · subst h1
    by_cases h2 : b = q
    · subst h2
      by_cases h3 : c = r
      · subst h3; simp
      · have : (c == r) = false := by simpa using h3
        simp [this, h3, Result.andThen]
    · have : (b == q) = false := by simpa using h2
      simp [this, h2, Result.andThen]
  · have : (a == p) = false := by simpa using h1
    simp [this, h1, Result.andThen]

theorem run_eql_bs (a b c p q r : Int) (w : World) : (binOp .eql 40 (.agg #[.int .i64 a, .int .i64 b, .int .i64 c]) (.agg #[.int .i64 p, .int .i64 q, .int .i64 r])).run Try.prog w = .ok (.bool (decide ((a, b, c) = (p, q, r)))) w := by
  rw [run_eql_struct, equalIn_bs 9998 a b c p q r w]
  rfl

theorem may_sit {f e : Int} {sg : List (List Int)} {li ls : List Int} {N : Nat} (hN : 3 * f + 1 = (N : Int)) (m l : Int) : (memB f m && (decide (l ∈ ls) && (decide (((sitL N e sg).getD m.toNat []).length = 0) || (decide (m ∈ li) && !decide (l ∈ (sitL N e sg).getD m.toNat []))))) = maySB ⟨f, e, sg, li, ls⟩ m l := by
  unfold maySB
  cases hm : memB f m
  · rfl
  · have hb := inB_iff.1 hm
    have h1 : m.toNat < N := by omega
    have h2 : ((m.toNat : Nat) : Int) = m := by omega
    rw [sitL_getD e sg h1, h2]

set_option maxHeartbeats 16000000 in
theorem implStep_no (f e : Int) (sa : Option Addr) (sn sc : Nat) (la : Option Addr) (ln lc : Nat) (ta : Option Addr) (tn tc : Nat) (sg : List (List Int)) (li ls : List Int) (k m l : Int) (w : World) (hg : goodBd ⟨f, e, sg, li, ls⟩ = true) (hr : RdBd w sa sn sc la ln lc ta tn tc ⟨f, e, sg, li, ls⟩) (hnn : RdNN w sa sg) (ho : stepO ⟨f, e, sg, li, ls⟩ k m l = none) (hc : (k = 1 ∧ m = 0 ∧ (inB l 0 9 && !decide (l ∈ ls)) = false) ∨ (k = 1 ∧ m ≠ 0) ∨ (k = 2 ∧ maySB ⟨f, e, sg, li, ls⟩ m l = true ∧ 200 ≤ sg.length) ∨ (k = 2 ∧ maySB ⟨f, e, sg, li, ls⟩ m l = false) ∨ (k = 3 ∧ m = 0 ∧ l = 0 ∧ 20 ≤ e) ∨ (k = 3 ∧ ¬ (m = 0 ∧ l = 0)) ∨ (k ≠ 1 ∧ k ≠ 2 ∧ k ≠ 3)) :
    Calls Try.prog 20 #[.agg #[.int .i64 f, .int .i64 e, .slice sa sn sc, .slice la ln lc, .slice ta tn tc], .agg #[.int .i64 k, .int .i64 m, .int .i64 l]] w fun r w' => BdOk r w w' (stepV ⟨f, e, sg, li, ls⟩ k m l) (stepB ⟨f, e, sg, li, ls⟩ k m l) := by
  have G := good_is hg
  have hN0 := G.f0
  have HS : Hid (sg.length = sn) := hr.sl
  have HL : Hid (li.length = ln) := hr.ll
  have HT : Hid (ls.length = tn) := hr.tl
  have hsn : sn ≤ 200 := by rw [← HS.out]; exact (sgsB_all G.sgOk).1
  have hln : ln ≤ 2 := by have := G.ln; have := G.f2; rw [HL.out] at *; omega
  have htn : tn ≤ 10 := by rw [← HT.out]; exact G.tn
  have hsl : ∀ l ∈ sg, l.length ≤ 1000 := fun l hl => by have := (sigB_mem ((sgsB_all G.sgOk).2 l hl)).1; omega
  obtain ⟨N, hN⟩ : ∃ N : Nat, 3 * f + 1 = (N : Int) := ⟨(3 * f + 1).toNat, by have := G.f0; omega⟩
  have q0 := fun wx (h1 : RdII wx sa sg) (h2 : Rd wx la li) (h3 : Rd wx ta ls) => implGood_c f e sa sn sc la ln lc ta tn tc sg li ls wx hr.sl (by omega) hr.ll (by omega) hr.tl (by omega) h1 h2 h3
  rw [hg] at q0
  have q1 := fun wx (h1 : RdII wx sa sg) => openSitting_c f e sa sn sc la ln lc ta tn tc N sg wx G.f0 G.f2 hN hr.sl h1 G.sgOk
  have q2 := fun wx (h1 : RdNN wx sa sg) (h2 : Rd wx la li) (h3 : Rd wx ta ls) => copyOfBoard_c f e sa sn sc la ln lc ta tn tc sg li ls wx hr.sl (by omega) hr.ll (by omega) hr.tl (by omega) h1 h2 h3 hsl hr.lz hr.tz
  have HRl : Hid (Ris ltI li) := G.lr
  have HRt : Hid (Ris ltI ls) := G.tr
  have q3 := fun ga wx (h3 : Rd wx ta ls) => mayPropose_c f la ln lc ga N ta tn tc ls l wx hr.tl (by omega) h3 HRt.out
  have q4 := fun wx ga (h2 : Rd wx la li) (h3 : Rd wx ta ls) (h4 : RdII wx ga (sitL N e sg)) => maySign_c f la ln lc ga N ta tn tc li ls (sitL N e sg) m l wx G.f0 G.f2 hN hr.ll (by omega) h2 HRl.out hr.tl (by omega) h3 HRt.out (sitL_length _ _ _) h4 (sitL_ris _ _ _) (sitL_len (sgsB_all G.sgOk).1)
  have hmay : (memB f m && (decide (l ∈ ls) && (decide (((sitL N e sg).getD m.toNat []).length = 0) || (decide (m ∈ li) && !decide (l ∈ (sitL N e sg).getD m.toNat []))))) = maySB ⟨f, e, sg, li, ls⟩ m l := may_sit hN m l
  rw [hmay] at q4
  clear hmay hsl hN hN0
  have HV : Hid (stepB ⟨f, e, sg, li, ls⟩ k m l = false ∧ stepV ⟨f, e, sg, li, ls⟩ k m l = zeroBd) := step_none hg ho
  have HC : Hid ((k = 1 ∧ m = 0 ∧ (inB l 0 9 && !decide (l ∈ ls)) = false) ∨ (k = 1 ∧ m ≠ 0) ∨ (k = 2 ∧ maySB ⟨f, e, sg, li, ls⟩ m l = true ∧ 200 ≤ sg.length) ∨ (k = 2 ∧ maySB ⟨f, e, sg, li, ls⟩ m l = false) ∨ (k = 3 ∧ m = 0 ∧ l = 0 ∧ 20 ≤ e) ∨ (k = 3 ∧ ¬ (m = 0 ∧ l = 0)) ∨ (k ≠ 1 ∧ k ≠ 2 ∧ k ≠ 3)) := hc
  clear G hg ho hc
  have HB_0 : Hid (Below w.heap.size w w) := Below.refl _ _
  have RS_0 : Hid (RdII w sa sg) := hr.s
  have NN_0 : Hid (RdNN w sa sg) := hnn
  have RL_0 : Hid (Rd w la li) := hr.l
  have RT_0 : Hid (Rd w ta ls) := hr.t
  clear hr hnn
  have hHB := HB_0.out.alloc HB_0.out.size (.cells #[.int .i64 f, .int .i64 e, .slice sa sn sc, .slice la ln lc, .slice ta tn tc] 29)
  have hRS := RS_0.out.later (balloc w (.cells #[.int .i64 f, .int .i64 e, .slice sa sn sc, .slice la ln lc, .slice ta tn tc] 29))
  have hNN := NN_0.out.later (balloc w (.cells #[.int .i64 f, .int .i64 e, .slice sa sn sc, .slice la ln lc, .slice ta tn tc] 29))
  have hRL := RL_0.out.later (balloc w (.cells #[.int .i64 f, .int .i64 e, .slice sa sn sc, .slice la ln lc, .slice ta tn tc] 29))
  have hRT := RT_0.out.later (balloc w (.cells #[.int .i64 f, .int .i64 e, .slice sa sn sc, .slice la ln lc, .slice ta tn tc] 29))
  have hA := x5_new w (.int .i64 f) (.int .i64 e) (.slice sa sn sc) (.slice la ln lc) (.slice ta tn tc) 29 w.heap.size rfl
  have hz : (w.alloc (.cells #[.int .i64 f, .int .i64 e, .slice sa sn sc, .slice la ln lc, .slice ta tn tc] 29)).heap.size = w.heap.size + 1 := by simp
  obtain ⟨w1, hV1⟩ : ∃ V, w.alloc (.cells #[.int .i64 f, .int .i64 e, .slice sa sn sc, .slice la ln lc, .slice ta tn tc] 29) = V := ⟨_, rfl⟩
  rw [hV1] at hHB hRS hNN hRL hRT hA hz
  have HB_1 : Hid (Below w.heap.size w w1) := hHB
  have RS_1 : Hid (RdII w1 sa sg) := hRS
  have NN_1 : Hid (RdNN w1 sa sg) := hNN
  have RL_1 : Hid (Rd w1 la li) := hRL
  have RT_1 : Hid (Rd w1 ta ls) := hRT
  have A_1 : Hid (X5 w1 w.heap.size (.int .i64 f) (.int .i64 e) (.slice sa sn sc) (.slice la ln lc) (.slice ta tn tc)) := hA
  have z1 : w.heap.size + 1 ≤ w1.heap.size := by omega
  clear HB_0 RS_0 NN_0 RL_0 RT_0 hHB hRS hNN hRL hRT hA hz
  have hHB := HB_1.out.alloc HB_1.out.size (.cells #[.int .i64 k, .int .i64 m, .int .i64 l] 40)
  have hRS := RS_1.out.later (balloc w1 (.cells #[.int .i64 k, .int .i64 m, .int .i64 l] 40))
  have hNN := NN_1.out.later (balloc w1 (.cells #[.int .i64 k, .int .i64 m, .int .i64 l] 40))
  have hRL := RL_1.out.later (balloc w1 (.cells #[.int .i64 k, .int .i64 m, .int .i64 l] 40))
  have hRT := RT_1.out.later (balloc w1 (.cells #[.int .i64 k, .int .i64 m, .int .i64 l] 40))
  have hA := A_1.out.later (balloc w1 (.cells #[.int .i64 k, .int .i64 m, .int .i64 l] 40))
  have hB := x3_new w1 (.int .i64 k) (.int .i64 m) (.int .i64 l) 40 w1.heap.size rfl
  have hz : (w1.alloc (.cells #[.int .i64 k, .int .i64 m, .int .i64 l] 40)).heap.size = w1.heap.size + 1 := by simp
  obtain ⟨w2, hV2⟩ : ∃ V, w1.alloc (.cells #[.int .i64 k, .int .i64 m, .int .i64 l] 40) = V := ⟨_, rfl⟩
  rw [hV2] at hHB hRS hNN hRL hRT hA hB hz
  have HB_2 : Hid (Below w.heap.size w w2) := hHB
  have RS_2 : Hid (RdII w2 sa sg) := hRS
  have NN_2 : Hid (RdNN w2 sa sg) := hNN
  have RL_2 : Hid (Rd w2 la li) := hRL
  have RT_2 : Hid (Rd w2 ta ls) := hRT
  have A_2 : Hid (X5 w2 w.heap.size (.int .i64 f) (.int .i64 e) (.slice sa sn sc) (.slice la ln lc) (.slice ta tn tc)) := hA
  have B_2 : Hid (X3 w2 w1.heap.size (.int .i64 k) (.int .i64 m) (.int .i64 l)) := hB
  have z2 : w1.heap.size + 1 ≤ w2.heap.size := by omega
  clear HB_1 RS_1 NN_1 RL_1 RT_1 A_1 hHB hRS hNN hRL hRT hA hB hz
  have hHB := HB_2.out.alloc HB_2.out.size (.cells #[.int .i64 0, .int .i64 0, .slice none 0 0, .slice none 0 0, .slice none 0 0] 29)
  have hRS := RS_2.out.later (balloc w2 (.cells #[.int .i64 0, .int .i64 0, .slice none 0 0, .slice none 0 0, .slice none 0 0] 29))
  have hNN := NN_2.out.later (balloc w2 (.cells #[.int .i64 0, .int .i64 0, .slice none 0 0, .slice none 0 0, .slice none 0 0] 29))
  have hRL := RL_2.out.later (balloc w2 (.cells #[.int .i64 0, .int .i64 0, .slice none 0 0, .slice none 0 0, .slice none 0 0] 29))
  have hRT := RT_2.out.later (balloc w2 (.cells #[.int .i64 0, .int .i64 0, .slice none 0 0, .slice none 0 0, .slice none 0 0] 29))
  have hA := A_2.out.later (balloc w2 (.cells #[.int .i64 0, .int .i64 0, .slice none 0 0, .slice none 0 0, .slice none 0 0] 29))
  have hB := B_2.out.later (balloc w2 (.cells #[.int .i64 0, .int .i64 0, .slice none 0 0, .slice none 0 0, .slice none 0 0] 29))
  have hR := x5_new w2 (.int .i64 0) (.int .i64 0) (.slice none 0 0) (.slice none 0 0) (.slice none 0 0) 29 w2.heap.size rfl
  have hz : (w2.alloc (.cells #[.int .i64 0, .int .i64 0, .slice none 0 0, .slice none 0 0, .slice none 0 0] 29)).heap.size = w2.heap.size + 1 := by simp
  obtain ⟨w3, hV3⟩ : ∃ V, w2.alloc (.cells #[.int .i64 0, .int .i64 0, .slice none 0 0, .slice none 0 0, .slice none 0 0] 29) = V := ⟨_, rfl⟩
  rw [hV3] at hHB hRS hNN hRL hRT hA hB hR hz
  have HB_3 : Hid (Below w.heap.size w w3) := hHB
  have RS_3 : Hid (RdII w3 sa sg) := hRS
  have NN_3 : Hid (RdNN w3 sa sg) := hNN
  have RL_3 : Hid (Rd w3 la li) := hRL
  have RT_3 : Hid (Rd w3 ta ls) := hRT
  have A_3 : Hid (X5 w3 w.heap.size (.int .i64 f) (.int .i64 e) (.slice sa sn sc) (.slice la ln lc) (.slice ta tn tc)) := hA
  have B_3 : Hid (X3 w3 w1.heap.size (.int .i64 k) (.int .i64 m) (.int .i64 l)) := hB
  have R_3 : Hid (X5 w3 w2.heap.size (.int .i64 0) (.int .i64 0) (.slice none 0 0) (.slice none 0 0) (.slice none 0 0)) := hR
  have z3 : w2.heap.size + 1 ≤ w3.heap.size := by omega
  clear HB_2 RS_2 NN_2 RL_2 RT_2 A_2 B_2 hHB hRS hNN hRL hRT hA hB hR hz
  go_enter Try.func20, Try.ntmps20
  obtain ⟨⟨Aq0, Aq1, Aq2, Aq3, Aq4⟩, Af⟩ := id (A_3.out)
  clear Af
  go_wp2_with fail
  clear hV1 hV2 hV3
  refine (q0 _ RS_3.out RL_3.out RT_3.out).mono ?_
  clear Aq0 Aq1 Aq2 Aq3 Aq4
  rintro e w4 ⟨rfl, hb⟩
  have hB : Below w3.heap.size w3 w4 := hb
  have HB_4 : Hid (Below w.heap.size w w4) := HB_3.out.trans (hB.mono HB_3.out.size)
  have RS_4 : Hid (RdII w4 sa sg) := RS_3.out.later hB
  have NN_4 : Hid (RdNN w4 sa sg) := NN_3.out.later hB
  have RL_4 : Hid (Rd w4 la li) := RL_3.out.later hB
  have RT_4 : Hid (Rd w4 ta ls) := RT_3.out.later hB
  have A_4 : Hid (X5 w4 w.heap.size (.int .i64 f) (.int .i64 e) (.slice sa sn sc) (.slice la ln lc) (.slice ta tn tc)) := A_3.out.later hB
  have B_4 : Hid (X3 w4 w1.heap.size (.int .i64 k) (.int .i64 m) (.int .i64 l)) := B_3.out.later hB
  have R_4 : Hid (X5 w4 w2.heap.size (.int .i64 0) (.int .i64 0) (.slice none 0 0) (.slice none 0 0) (.slice none 0 0)) := R_3.out.later hB
  have z4 : w3.heap.size ≤ w4.heap.size := hB.size
  clear hb hB HB_3 RS_3 NN_3 RL_3 RT_3 A_3 B_3 R_3 
  obtain ⟨⟨Aq0, Aq1, Aq2, Aq3, Aq4⟩, Af⟩ := id (A_4.out)
  clear Af
  go_wp2_with fail
  refine (q1 _ RS_4.out).mono ?_
  clear Aq0 Aq1 Aq2 Aq3 Aq4
  rintro e w5 ⟨g, rfl, hri, hb⟩
  have hB : Below w4.heap.size w4 w5 := hb
  have HB_5 : Hid (Below w.heap.size w w5) := HB_4.out.trans (hB.mono HB_4.out.size)
  have RS_5 : Hid (RdII w5 sa sg) := RS_4.out.later hB
  have NN_5 : Hid (RdNN w5 sa sg) := NN_4.out.later hB
  have RL_5 : Hid (Rd w5 la li) := RL_4.out.later hB
  have RT_5 : Hid (Rd w5 ta ls) := RT_4.out.later hB
  have A_5 : Hid (X5 w5 w.heap.size (.int .i64 f) (.int .i64 e) (.slice sa sn sc) (.slice la ln lc) (.slice ta tn tc)) := A_4.out.later hB
  have B_5 : Hid (X3 w5 w1.heap.size (.int .i64 k) (.int .i64 m) (.int .i64 l)) := B_4.out.later hB
  have R_5 : Hid (X5 w5 w2.heap.size (.int .i64 0) (.int .i64 0) (.slice none 0 0) (.slice none 0 0) (.slice none 0 0)) := R_4.out.later hB
  have z5 : w4.heap.size ≤ w5.heap.size := hB.size
  have RG_5 : Hid (RdII w5 (some ⟨g, 0, none⟩) (sitL N e sg)) := hri
  clear hb hB HB_4 RS_4 NN_4 RL_4 RT_4 A_4 B_4 R_4 hri
  have hHB := HB_5.out.alloc HB_5.out.size (.cells #[.int .i64 f, .slice la ln lc, .slice (some ⟨g, 0, none⟩) N N, .slice ta tn tc] 102)
  have hRS := RS_5.out.later (balloc w5 (.cells #[.int .i64 f, .slice la ln lc, .slice (some ⟨g, 0, none⟩) N N, .slice ta tn tc] 102))
  have hNN := NN_5.out.later (balloc w5 (.cells #[.int .i64 f, .slice la ln lc, .slice (some ⟨g, 0, none⟩) N N, .slice ta tn tc] 102))
  have hRL := RL_5.out.later (balloc w5 (.cells #[.int .i64 f, .slice la ln lc, .slice (some ⟨g, 0, none⟩) N N, .slice ta tn tc] 102))
  have hRT := RT_5.out.later (balloc w5 (.cells #[.int .i64 f, .slice la ln lc, .slice (some ⟨g, 0, none⟩) N N, .slice ta tn tc] 102))
  have hA := A_5.out.later (balloc w5 (.cells #[.int .i64 f, .slice la ln lc, .slice (some ⟨g, 0, none⟩) N N, .slice ta tn tc] 102))
  have hB := B_5.out.later (balloc w5 (.cells #[.int .i64 f, .slice la ln lc, .slice (some ⟨g, 0, none⟩) N N, .slice ta tn tc] 102))
  have hR := R_5.out.later (balloc w5 (.cells #[.int .i64 f, .slice la ln lc, .slice (some ⟨g, 0, none⟩) N N, .slice ta tn tc] 102))
  have hRG := RG_5.out.later (balloc w5 (.cells #[.int .i64 f, .slice la ln lc, .slice (some ⟨g, 0, none⟩) N N, .slice ta tn tc] 102))
  have hO := x4_new w5 (.int .i64 f) (.slice la ln lc) (.slice (some ⟨g, 0, none⟩) N N) (.slice ta tn tc) 102 w5.heap.size rfl
  have hz : (w5.alloc (.cells #[.int .i64 f, .slice la ln lc, .slice (some ⟨g, 0, none⟩) N N, .slice ta tn tc] 102)).heap.size = w5.heap.size + 1 := by simp
  obtain ⟨w6, hV6⟩ : ∃ V, w5.alloc (.cells #[.int .i64 f, .slice la ln lc, .slice (some ⟨g, 0, none⟩) N N, .slice ta tn tc] 102) = V := ⟨_, rfl⟩
  rw [hV6] at hHB hRS hNN hRL hRT hA hB hR hRG hO hz
  have HB_6 : Hid (Below w.heap.size w w6) := hHB
  have RS_6 : Hid (RdII w6 sa sg) := hRS
  have NN_6 : Hid (RdNN w6 sa sg) := hNN
  have RL_6 : Hid (Rd w6 la li) := hRL
  have RT_6 : Hid (Rd w6 ta ls) := hRT
  have A_6 : Hid (X5 w6 w.heap.size (.int .i64 f) (.int .i64 e) (.slice sa sn sc) (.slice la ln lc) (.slice ta tn tc)) := hA
  have B_6 : Hid (X3 w6 w1.heap.size (.int .i64 k) (.int .i64 m) (.int .i64 l)) := hB
  have R_6 : Hid (X5 w6 w2.heap.size (.int .i64 0) (.int .i64 0) (.slice none 0 0) (.slice none 0 0) (.slice none 0 0)) := hR
  have RG_6 : Hid (RdII w6 (some ⟨g, 0, none⟩) (sitL N e sg)) := hRG
  have O_6 : Hid (X4 w6 w5.heap.size (.int .i64 f) (.slice la ln lc) (.slice (some ⟨g, 0, none⟩) N N) (.slice ta tn tc)) := hO
  have z6 : w5.heap.size + 1 ≤ w6.heap.size := by omega
  clear HB_5 RS_5 NN_5 RL_5 RT_5 A_5 B_5 R_5 RG_5 hHB hRS hNN hRL hRT hA hB hR hRG hO hz
  obtain ⟨⟨Aq0, Aq1, Aq2, Aq3, Aq4⟩, Af⟩ := id (A_6.out)
  clear Af
  go_wp2_with fail
  clear hV6
  refine (q2 _ NN_6.out RL_6.out RT_6.out).mono ?_
  clear Aq0 Aq1 Aq2 Aq3 Aq4
  rintro e w7 ⟨sa1, sc1, la1, lc1, ta1, tc1, rfl, ho, hb⟩
  have hB : Below w6.heap.size w6 w7 := hb
  have HB_7 : Hid (Below w.heap.size w w7) := HB_6.out.trans (hB.mono HB_6.out.size)
  have RS_7 : Hid (RdII w7 sa sg) := RS_6.out.later hB
  have NN_7 : Hid (RdNN w7 sa sg) := NN_6.out.later hB
  have RL_7 : Hid (Rd w7 la li) := RL_6.out.later hB
  have RT_7 : Hid (Rd w7 ta ls) := RT_6.out.later hB
  have A_7 : Hid (X5 w7 w.heap.size (.int .i64 f) (.int .i64 e) (.slice sa sn sc) (.slice la ln lc) (.slice ta tn tc)) := A_6.out.later hB
  have B_7 : Hid (X3 w7 w1.heap.size (.int .i64 k) (.int .i64 m) (.int .i64 l)) := B_6.out.later hB
  have R_7 : Hid (X5 w7 w2.heap.size (.int .i64 0) (.int .i64 0) (.slice none 0 0) (.slice none 0 0) (.slice none 0 0)) := R_6.out.later hB
  have RG_7 : Hid (RdII w7 (some ⟨g, 0, none⟩) (sitL N e sg)) := RG_6.out.later hB
  have O_7 : Hid (X4 w7 w5.heap.size (.int .i64 f) (.slice la ln lc) (.slice (some ⟨g, 0, none⟩) N N) (.slice ta tn tc)) := O_6.out.later hB
  have z7 : w6.heap.size ≤ w7.heap.size := hB.size
  have BC_7 : Hid (OwnBd w7 w6.heap.size w7.heap.size (.slice sa1 sn sc1) (.slice la1 ln lc1) (.slice ta1 tn tc1) ⟨f, e, sg, li, ls⟩) := ho
  clear hb hB HB_6 RS_6 NN_6 RL_6 RT_6 A_6 B_6 R_6 RG_6 O_6 ho
  have hHB := HB_7.out.alloc HB_7.out.size (.cells #[.int .i64 f, .int .i64 e, .slice sa1 sn sc1, .slice la1 ln lc1, .slice ta1 tn tc1] 29)
  have hRS := RS_7.out.later (balloc w7 (.cells #[.int .i64 f, .int .i64 e, .slice sa1 sn sc1, .slice la1 ln lc1, .slice ta1 tn tc1] 29))
  have hNN := NN_7.out.later (balloc w7 (.cells #[.int .i64 f, .int .i64 e, .slice sa1 sn sc1, .slice la1 ln lc1, .slice ta1 tn tc1] 29))
  have hRL := RL_7.out.later (balloc w7 (.cells #[.int .i64 f, .int .i64 e, .slice sa1 sn sc1, .slice la1 ln lc1, .slice ta1 tn tc1] 29))
  have hRT := RT_7.out.later (balloc w7 (.cells #[.int .i64 f, .int .i64 e, .slice sa1 sn sc1, .slice la1 ln lc1, .slice ta1 tn tc1] 29))
  have hA := A_7.out.later (balloc w7 (.cells #[.int .i64 f, .int .i64 e, .slice sa1 sn sc1, .slice la1 ln lc1, .slice ta1 tn tc1] 29))
  have hB := B_7.out.later (balloc w7 (.cells #[.int .i64 f, .int .i64 e, .slice sa1 sn sc1, .slice la1 ln lc1, .slice ta1 tn tc1] 29))
  have hR := R_7.out.later (balloc w7 (.cells #[.int .i64 f, .int .i64 e, .slice sa1 sn sc1, .slice la1 ln lc1, .slice ta1 tn tc1] 29))
  have hRG := RG_7.out.later (balloc w7 (.cells #[.int .i64 f, .int .i64 e, .slice sa1 sn sc1, .slice la1 ln lc1, .slice ta1 tn tc1] 29))
  have hO := O_7.out.later (balloc w7 (.cells #[.int .i64 f, .int .i64 e, .slice sa1 sn sc1, .slice la1 ln lc1, .slice ta1 tn tc1] 29))
  have hBC := BC_7.out.later (balloc w7 (.cells #[.int .i64 f, .int .i64 e, .slice sa1 sn sc1, .slice la1 ln lc1, .slice ta1 tn tc1] 29))
  have hN := x5_new w7 (.int .i64 f) (.int .i64 e) (.slice sa1 sn sc1) (.slice la1 ln lc1) (.slice ta1 tn tc1) 29 w7.heap.size rfl
  have hz : (w7.alloc (.cells #[.int .i64 f, .int .i64 e, .slice sa1 sn sc1, .slice la1 ln lc1, .slice ta1 tn tc1] 29)).heap.size = w7.heap.size + 1 := by simp
  obtain ⟨w8, hV8⟩ : ∃ V, w7.alloc (.cells #[.int .i64 f, .int .i64 e, .slice sa1 sn sc1, .slice la1 ln lc1, .slice ta1 tn tc1] 29) = V := ⟨_, rfl⟩
  rw [hV8] at hHB hRS hNN hRL hRT hA hB hR hRG hO hBC hN hz
  have HB_8 : Hid (Below w.heap.size w w8) := hHB
  have RS_8 : Hid (RdII w8 sa sg) := hRS
  have NN_8 : Hid (RdNN w8 sa sg) := hNN
  have RL_8 : Hid (Rd w8 la li) := hRL
  have RT_8 : Hid (Rd w8 ta ls) := hRT
  have A_8 : Hid (X5 w8 w.heap.size (.int .i64 f) (.int .i64 e) (.slice sa sn sc) (.slice la ln lc) (.slice ta tn tc)) := hA
  have B_8 : Hid (X3 w8 w1.heap.size (.int .i64 k) (.int .i64 m) (.int .i64 l)) := hB
  have R_8 : Hid (X5 w8 w2.heap.size (.int .i64 0) (.int .i64 0) (.slice none 0 0) (.slice none 0 0) (.slice none 0 0)) := hR
  have RG_8 : Hid (RdII w8 (some ⟨g, 0, none⟩) (sitL N e sg)) := hRG
  have O_8 : Hid (X4 w8 w5.heap.size (.int .i64 f) (.slice la ln lc) (.slice (some ⟨g, 0, none⟩) N N) (.slice ta tn tc)) := hO
  have BC_8 : Hid (OwnBd w8 w6.heap.size w7.heap.size (.slice sa1 sn sc1) (.slice la1 ln lc1) (.slice ta1 tn tc1) ⟨f, e, sg, li, ls⟩) := hBC
  have N_8 : Hid (X5 w8 w7.heap.size (.int .i64 f) (.int .i64 e) (.slice sa1 sn sc1) (.slice la1 ln lc1) (.slice ta1 tn tc1)) := hN
  have z8 : w7.heap.size + 1 ≤ w8.heap.size := by omega
  clear HB_7 RS_7 NN_7 RL_7 RT_7 A_7 B_7 R_7 RG_7 O_7 BC_7 hHB hRS hNN hRL hRT hA hB hR hRG hO hBC hN hz
  rcases HC.out with ⟨rfl, rfl, hz⟩ | ⟨rfl, hm⟩ | ⟨rfl, hz, h2⟩ | ⟨rfl, hz⟩ | ⟨rfl, rfl, rfl, he⟩ | ⟨rfl, hm⟩ | ⟨h1, h2, h3⟩
  · rw [hz] at q3
    have heq : ∀ wx, (binOp .eql 40 (.agg #[.int .i64 1, .int .i64 0, .int .i64 l]) (.agg #[.int .i64 3, .int .i64 0, .int .i64 0])).run Try.prog wx = .ok (.bool false) wx := fun wx => by rw [run_eql_bs]; simp
    clear HC q4 hz
    obtain ⟨⟨Bq0, Bq1, Bq2⟩, Bf⟩ := id (B_8.out)
    clear Bf
    obtain ⟨⟨Oq0, Oq1, Oq2, Oq3⟩, Of⟩ := id (O_8.out)
    clear Of
    go_wp2_with fail
    clear hV8
    refine (q3 (some ⟨g, 0, none⟩) _ RT_8.out).mono ?_
    clear Bq0 Bq1 Bq2
    clear Oq0 Oq1 Oq2 Oq3
    rintro e w9 ⟨rfl, hb⟩
    have hB : Below w8.heap.size w8 w9 := hb
    have HB_9 : Hid (Below w.heap.size w w9) := HB_8.out.trans (hB.mono HB_8.out.size)
    have RS_9 : Hid (RdII w9 sa sg) := RS_8.out.later hB
    have NN_9 : Hid (RdNN w9 sa sg) := NN_8.out.later hB
    have RL_9 : Hid (Rd w9 la li) := RL_8.out.later hB
    have RT_9 : Hid (Rd w9 ta ls) := RT_8.out.later hB
    have A_9 : Hid (X5 w9 w.heap.size (.int .i64 f) (.int .i64 e) (.slice sa sn sc) (.slice la ln lc) (.slice ta tn tc)) := A_8.out.later hB
    have B_9 : Hid (X3 w9 w1.heap.size (.int .i64 1) (.int .i64 0) (.int .i64 l)) := B_8.out.later hB
    have R_9 : Hid (X5 w9 w2.heap.size (.int .i64 0) (.int .i64 0) (.slice none 0 0) (.slice none 0 0) (.slice none 0 0)) := R_8.out.later hB
    have RG_9 : Hid (RdII w9 (some ⟨g, 0, none⟩) (sitL N e sg)) := RG_8.out.later hB
    have O_9 : Hid (X4 w9 w5.heap.size (.int .i64 f) (.slice la ln lc) (.slice (some ⟨g, 0, none⟩) N N) (.slice ta tn tc)) := O_8.out.later hB
    have BC_9 : Hid (OwnBd w9 w6.heap.size w7.heap.size (.slice sa1 sn sc1) (.slice la1 ln lc1) (.slice ta1 tn tc1) ⟨f, e, sg, li, ls⟩) := BC_8.out.later hB
    have N_9 : Hid (X5 w9 w7.heap.size (.int .i64 f) (.int .i64 e) (.slice sa1 sn sc1) (.slice la1 ln lc1) (.slice ta1 tn tc1)) := N_8.out.later hB
    have z9 : w8.heap.size ≤ w9.heap.size := hB.size
    clear hb hB HB_8 RS_8 NN_8 RL_8 RT_8 A_8 B_8 R_8 RG_8 O_8 BC_8 N_8 
    have hZF := (((((R_9.out.set0 (.int .i64 0)).set1 (.int .i64 0)).set2 (.slice none 0 0)).set3 (.slice none 0 0)).set4 (.slice none 0 0))
    have hBF : Below w.heap.size w (((((w9.setCell ⟨w2.heap.size, 0, none⟩ (.int .i64 0)).setCell ⟨w2.heap.size, 1, none⟩ (.int .i64 0)).setCell ⟨w2.heap.size, 2, none⟩ (.slice none 0 0)).setCell ⟨w2.heap.size, 3, none⟩ (.slice none 0 0)).setCell ⟨w2.heap.size, 4, none⟩ (.slice none 0 0)) := (((((HB_9.out.setCell (by show w.heap.size ≤ w2.heap.size; omega) _).setCell (by show w.heap.size ≤ w2.heap.size; omega) _).setCell (by show w.heap.size ≤ w2.heap.size; omega) _).setCell (by show w.heap.size ≤ w2.heap.size; omega) _).setCell (by show w.heap.size ≤ w2.heap.size; omega) _)
    obtain ⟨⟨y0, y1, y2, y3, y4⟩, yf⟩ := id (R_9.out)
    have yf0 := yf 0
    have yf1 := yf 1
    have yf2 := yf 2
    have yf3 := yf 3
    have yf4 := yf 4
    obtain ⟨FW, hFW⟩ : ∃ F, (((((w9.setCell ⟨w2.heap.size, 0, none⟩ (.int .i64 0)).setCell ⟨w2.heap.size, 1, none⟩ (.int .i64 0)).setCell ⟨w2.heap.size, 2, none⟩ (.slice none 0 0)).setCell ⟨w2.heap.size, 3, none⟩ (.slice none 0 0)).setCell ⟨w2.heap.size, 4, none⟩ (.slice none 0 0)) = F := ⟨_, rfl⟩
    rw [hFW] at hZF hBF
    obtain ⟨⟨t0, t1, t2, t3, t4⟩, _⟩ := hZF
    have HBF : Hid (Below w.heap.size w FW) := hBF
    clear hBF yf
    obtain ⟨⟨Aq0, Aq1, Aq2, Aq3, Aq4⟩, Af⟩ := id (A_9.out)
    clear Af
    obtain ⟨⟨Bq0, Bq1, Bq2⟩, Bf⟩ := id (B_9.out)
    clear Bf
    go_wp2
    refine bodyPost_ret (v := .tuple #[.agg #[.int .i64 0, .int .i64 0, .slice none 0 0, .slice none 0 0, .slice none 0 0], .bool false]) (by simp [results, Try.results20, go_sem, t0, t1, t2, t3, t4]; try rfl) rfl ?_
    exact ⟨none, 0, none, 0, none, 0, by rw [HV.out.1, HV.out.2]; rfl, by rw [HV.out.2]; exact zeroOwn _ _ _, HBF.out⟩
  · have hm2 : (m == 0) = false := by simpa using hm
    have heq : ∀ wx, (binOp .eql 40 (.agg #[.int .i64 1, .int .i64 m, .int .i64 l]) (.agg #[.int .i64 3, .int .i64 0, .int .i64 0])).run Try.prog wx = .ok (.bool false) wx := fun wx => by rw [run_eql_bs]; simp
    clear HC q4 q3 hm
    have hZF := (((((R_8.out.set0 (.int .i64 0)).set1 (.int .i64 0)).set2 (.slice none 0 0)).set3 (.slice none 0 0)).set4 (.slice none 0 0))
    have hBF : Below w.heap.size w (((((w8.setCell ⟨w2.heap.size, 0, none⟩ (.int .i64 0)).setCell ⟨w2.heap.size, 1, none⟩ (.int .i64 0)).setCell ⟨w2.heap.size, 2, none⟩ (.slice none 0 0)).setCell ⟨w2.heap.size, 3, none⟩ (.slice none 0 0)).setCell ⟨w2.heap.size, 4, none⟩ (.slice none 0 0)) := (((((HB_8.out.setCell (by show w.heap.size ≤ w2.heap.size; omega) _).setCell (by show w.heap.size ≤ w2.heap.size; omega) _).setCell (by show w.heap.size ≤ w2.heap.size; omega) _).setCell (by show w.heap.size ≤ w2.heap.size; omega) _).setCell (by show w.heap.size ≤ w2.heap.size; omega) _)
    obtain ⟨⟨y0, y1, y2, y3, y4⟩, yf⟩ := id (R_8.out)
    have yf0 := yf 0
    have yf1 := yf 1
    have yf2 := yf 2
    have yf3 := yf 3
    have yf4 := yf 4
    obtain ⟨FW, hFW⟩ : ∃ F, (((((w8.setCell ⟨w2.heap.size, 0, none⟩ (.int .i64 0)).setCell ⟨w2.heap.size, 1, none⟩ (.int .i64 0)).setCell ⟨w2.heap.size, 2, none⟩ (.slice none 0 0)).setCell ⟨w2.heap.size, 3, none⟩ (.slice none 0 0)).setCell ⟨w2.heap.size, 4, none⟩ (.slice none 0 0)) = F := ⟨_, rfl⟩
    rw [hFW] at hZF hBF
    obtain ⟨⟨t0, t1, t2, t3, t4⟩, _⟩ := hZF
    have HBF : Hid (Below w.heap.size w FW) := hBF
    clear hBF yf
    obtain ⟨⟨Aq0, Aq1, Aq2, Aq3, Aq4⟩, Af⟩ := id (A_8.out)
    clear Af
    obtain ⟨⟨Bq0, Bq1, Bq2⟩, Bf⟩ := id (B_8.out)
    clear Bf
    go_wp2
    clear hV8
    refine bodyPost_ret (v := .tuple #[.agg #[.int .i64 0, .int .i64 0, .slice none 0 0, .slice none 0 0, .slice none 0 0], .bool false]) (by simp [results, Try.results20, go_sem, t0, t1, t2, t3, t4]; try rfl) rfl ?_
    exact ⟨none, 0, none, 0, none, 0, by rw [HV.out.1, HV.out.2]; rfl, by rw [HV.out.2]; exact zeroOwn _ _ _, HBF.out⟩
  · rw [hz] at q4
    have h3 : ¬ (sn : Int) < 200 := by rw [HS.out] at h2; omega
    have heq : ∀ wx, (binOp .eql 40 (.agg #[.int .i64 2, .int .i64 m, .int .i64 l]) (.agg #[.int .i64 3, .int .i64 0, .int .i64 0])).run Try.prog wx = .ok (.bool false) wx := fun wx => by rw [run_eql_bs]; simp
    clear HC q3 hz h2
    obtain ⟨⟨Bq0, Bq1, Bq2⟩, Bf⟩ := id (B_8.out)
    clear Bf
    obtain ⟨⟨Oq0, Oq1, Oq2, Oq3⟩, Of⟩ := id (O_8.out)
    clear Of
    go_wp2_with fail
    clear hV8
    refine (q4 _ (some ⟨g, 0, none⟩) RL_8.out RT_8.out RG_8.out).mono ?_
    clear Bq0 Bq1 Bq2
    clear Oq0 Oq1 Oq2 Oq3
    rintro e w9 ⟨rfl, hb⟩
    have hB : Below w8.heap.size w8 w9 := hb
    have HB_9 : Hid (Below w.heap.size w w9) := HB_8.out.trans (hB.mono HB_8.out.size)
    have RS_9 : Hid (RdII w9 sa sg) := RS_8.out.later hB
    have NN_9 : Hid (RdNN w9 sa sg) := NN_8.out.later hB
    have RL_9 : Hid (Rd w9 la li) := RL_8.out.later hB
    have RT_9 : Hid (Rd w9 ta ls) := RT_8.out.later hB
    have A_9 : Hid (X5 w9 w.heap.size (.int .i64 f) (.int .i64 e) (.slice sa sn sc) (.slice la ln lc) (.slice ta tn tc)) := A_8.out.later hB
    have B_9 : Hid (X3 w9 w1.heap.size (.int .i64 2) (.int .i64 m) (.int .i64 l)) := B_8.out.later hB
    have R_9 : Hid (X5 w9 w2.heap.size (.int .i64 0) (.int .i64 0) (.slice none 0 0) (.slice none 0 0) (.slice none 0 0)) := R_8.out.later hB
    have RG_9 : Hid (RdII w9 (some ⟨g, 0, none⟩) (sitL N e sg)) := RG_8.out.later hB
    have O_9 : Hid (X4 w9 w5.heap.size (.int .i64 f) (.slice la ln lc) (.slice (some ⟨g, 0, none⟩) N N) (.slice ta tn tc)) := O_8.out.later hB
    have BC_9 : Hid (OwnBd w9 w6.heap.size w7.heap.size (.slice sa1 sn sc1) (.slice la1 ln lc1) (.slice ta1 tn tc1) ⟨f, e, sg, li, ls⟩) := BC_8.out.later hB
    have N_9 : Hid (X5 w9 w7.heap.size (.int .i64 f) (.int .i64 e) (.slice sa1 sn sc1) (.slice la1 ln lc1) (.slice ta1 tn tc1)) := N_8.out.later hB
    have z9 : w8.heap.size ≤ w9.heap.size := hB.size
    clear hb hB HB_8 RS_8 NN_8 RL_8 RT_8 A_8 B_8 R_8 RG_8 O_8 BC_8 N_8 
    have hZF := (((((R_9.out.set0 (.int .i64 0)).set1 (.int .i64 0)).set2 (.slice none 0 0)).set3 (.slice none 0 0)).set4 (.slice none 0 0))
    have hBF : Below w.heap.size w (((((w9.setCell ⟨w2.heap.size, 0, none⟩ (.int .i64 0)).setCell ⟨w2.heap.size, 1, none⟩ (.int .i64 0)).setCell ⟨w2.heap.size, 2, none⟩ (.slice none 0 0)).setCell ⟨w2.heap.size, 3, none⟩ (.slice none 0 0)).setCell ⟨w2.heap.size, 4, none⟩ (.slice none 0 0)) := (((((HB_9.out.setCell (by show w.heap.size ≤ w2.heap.size; omega) _).setCell (by show w.heap.size ≤ w2.heap.size; omega) _).setCell (by show w.heap.size ≤ w2.heap.size; omega) _).setCell (by show w.heap.size ≤ w2.heap.size; omega) _).setCell (by show w.heap.size ≤ w2.heap.size; omega) _)
    obtain ⟨⟨y0, y1, y2, y3, y4⟩, yf⟩ := id (R_9.out)
    have yf0 := yf 0
    have yf1 := yf 1
    have yf2 := yf 2
    have yf3 := yf 3
    have yf4 := yf 4
    obtain ⟨FW, hFW⟩ : ∃ F, (((((w9.setCell ⟨w2.heap.size, 0, none⟩ (.int .i64 0)).setCell ⟨w2.heap.size, 1, none⟩ (.int .i64 0)).setCell ⟨w2.heap.size, 2, none⟩ (.slice none 0 0)).setCell ⟨w2.heap.size, 3, none⟩ (.slice none 0 0)).setCell ⟨w2.heap.size, 4, none⟩ (.slice none 0 0)) = F := ⟨_, rfl⟩
    rw [hFW] at hZF hBF
    obtain ⟨⟨t0, t1, t2, t3, t4⟩, _⟩ := hZF
    have HBF : Hid (Below w.heap.size w FW) := hBF
    clear hBF yf
    obtain ⟨⟨Aq0, Aq1, Aq2, Aq3, Aq4⟩, Af⟩ := id (A_9.out)
    clear Af
    obtain ⟨⟨Bq0, Bq1, Bq2⟩, Bf⟩ := id (B_9.out)
    clear Bf
    go_wp2
    refine bodyPost_ret (v := .tuple #[.agg #[.int .i64 0, .int .i64 0, .slice none 0 0, .slice none 0 0, .slice none 0 0], .bool false]) (by simp [results, Try.results20, go_sem, t0, t1, t2, t3, t4]; try rfl) rfl ?_
    exact ⟨none, 0, none, 0, none, 0, by rw [HV.out.1, HV.out.2]; rfl, by rw [HV.out.2]; exact zeroOwn _ _ _, HBF.out⟩
  · rw [hz] at q4
    have heq : ∀ wx, (binOp .eql 40 (.agg #[.int .i64 2, .int .i64 m, .int .i64 l]) (.agg #[.int .i64 3, .int .i64 0, .int .i64 0])).run Try.prog wx = .ok (.bool false) wx := fun wx => by rw [run_eql_bs]; simp
    clear HC q3 hz
    obtain ⟨⟨Bq0, Bq1, Bq2⟩, Bf⟩ := id (B_8.out)
    clear Bf
    obtain ⟨⟨Oq0, Oq1, Oq2, Oq3⟩, Of⟩ := id (O_8.out)
    clear Of
    go_wp2_with fail
    clear hV8
    refine (q4 _ (some ⟨g, 0, none⟩) RL_8.out RT_8.out RG_8.out).mono ?_
    clear Bq0 Bq1 Bq2
    clear Oq0 Oq1 Oq2 Oq3
    rintro e w9 ⟨rfl, hb⟩
    have hB : Below w8.heap.size w8 w9 := hb
    have HB_9 : Hid (Below w.heap.size w w9) := HB_8.out.trans (hB.mono HB_8.out.size)
    have RS_9 : Hid (RdII w9 sa sg) := RS_8.out.later hB
    have NN_9 : Hid (RdNN w9 sa sg) := NN_8.out.later hB
    have RL_9 : Hid (Rd w9 la li) := RL_8.out.later hB
    have RT_9 : Hid (Rd w9 ta ls) := RT_8.out.later hB
    have A_9 : Hid (X5 w9 w.heap.size (.int .i64 f) (.int .i64 e) (.slice sa sn sc) (.slice la ln lc) (.slice ta tn tc)) := A_8.out.later hB
    have B_9 : Hid (X3 w9 w1.heap.size (.int .i64 2) (.int .i64 m) (.int .i64 l)) := B_8.out.later hB
    have R_9 : Hid (X5 w9 w2.heap.size (.int .i64 0) (.int .i64 0) (.slice none 0 0) (.slice none 0 0) (.slice none 0 0)) := R_8.out.later hB
    have RG_9 : Hid (RdII w9 (some ⟨g, 0, none⟩) (sitL N e sg)) := RG_8.out.later hB
    have O_9 : Hid (X4 w9 w5.heap.size (.int .i64 f) (.slice la ln lc) (.slice (some ⟨g, 0, none⟩) N N) (.slice ta tn tc)) := O_8.out.later hB
    have BC_9 : Hid (OwnBd w9 w6.heap.size w7.heap.size (.slice sa1 sn sc1) (.slice la1 ln lc1) (.slice ta1 tn tc1) ⟨f, e, sg, li, ls⟩) := BC_8.out.later hB
    have N_9 : Hid (X5 w9 w7.heap.size (.int .i64 f) (.int .i64 e) (.slice sa1 sn sc1) (.slice la1 ln lc1) (.slice ta1 tn tc1)) := N_8.out.later hB
    have z9 : w8.heap.size ≤ w9.heap.size := hB.size
    clear hb hB HB_8 RS_8 NN_8 RL_8 RT_8 A_8 B_8 R_8 RG_8 O_8 BC_8 N_8 
    have hZF := (((((R_9.out.set0 (.int .i64 0)).set1 (.int .i64 0)).set2 (.slice none 0 0)).set3 (.slice none 0 0)).set4 (.slice none 0 0))
    have hBF : Below w.heap.size w (((((w9.setCell ⟨w2.heap.size, 0, none⟩ (.int .i64 0)).setCell ⟨w2.heap.size, 1, none⟩ (.int .i64 0)).setCell ⟨w2.heap.size, 2, none⟩ (.slice none 0 0)).setCell ⟨w2.heap.size, 3, none⟩ (.slice none 0 0)).setCell ⟨w2.heap.size, 4, none⟩ (.slice none 0 0)) := (((((HB_9.out.setCell (by show w.heap.size ≤ w2.heap.size; omega) _).setCell (by show w.heap.size ≤ w2.heap.size; omega) _).setCell (by show w.heap.size ≤ w2.heap.size; omega) _).setCell (by show w.heap.size ≤ w2.heap.size; omega) _).setCell (by show w.heap.size ≤ w2.heap.size; omega) _)
    obtain ⟨⟨y0, y1, y2, y3, y4⟩, yf⟩ := id (R_9.out)
    have yf0 := yf 0
    have yf1 := yf 1
    have yf2 := yf 2
    have yf3 := yf 3
    have yf4 := yf 4
    obtain ⟨FW, hFW⟩ : ∃ F, (((((w9.setCell ⟨w2.heap.size, 0, none⟩ (.int .i64 0)).setCell ⟨w2.heap.size, 1, none⟩ (.int .i64 0)).setCell ⟨w2.heap.size, 2, none⟩ (.slice none 0 0)).setCell ⟨w2.heap.size, 3, none⟩ (.slice none 0 0)).setCell ⟨w2.heap.size, 4, none⟩ (.slice none 0 0)) = F := ⟨_, rfl⟩
    rw [hFW] at hZF hBF
    obtain ⟨⟨t0, t1, t2, t3, t4⟩, _⟩ := hZF
    have HBF : Hid (Below w.heap.size w FW) := hBF
    clear hBF yf
    obtain ⟨⟨Aq0, Aq1, Aq2, Aq3, Aq4⟩, Af⟩ := id (A_9.out)
    clear Af
    obtain ⟨⟨Bq0, Bq1, Bq2⟩, Bf⟩ := id (B_9.out)
    clear Bf
    go_wp2
    refine bodyPost_ret (v := .tuple #[.agg #[.int .i64 0, .int .i64 0, .slice none 0 0, .slice none 0 0, .slice none 0 0], .bool false]) (by simp [results, Try.results20, go_sem, t0, t1, t2, t3, t4]; try rfl) rfl ?_
    exact ⟨none, 0, none, 0, none, 0, by rw [HV.out.1, HV.out.2]; rfl, by rw [HV.out.2]; exact zeroOwn _ _ _, HBF.out⟩
  · have he2 : ¬ e < 20 := by omega
    have heq : ∀ wx, (binOp .eql 40 (.agg #[.int .i64 3, .int .i64 0, .int .i64 0]) (.agg #[.int .i64 3, .int .i64 0, .int .i64 0])).run Try.prog wx = .ok (.bool true) wx := fun wx => by rw [run_eql_bs]; simp
    clear HC q3 q4 he
    have hZF := (((((R_8.out.set0 (.int .i64 0)).set1 (.int .i64 0)).set2 (.slice none 0 0)).set3 (.slice none 0 0)).set4 (.slice none 0 0))
    have hBF : Below w.heap.size w (((((w8.setCell ⟨w2.heap.size, 0, none⟩ (.int .i64 0)).setCell ⟨w2.heap.size, 1, none⟩ (.int .i64 0)).setCell ⟨w2.heap.size, 2, none⟩ (.slice none 0 0)).setCell ⟨w2.heap.size, 3, none⟩ (.slice none 0 0)).setCell ⟨w2.heap.size, 4, none⟩ (.slice none 0 0)) := (((((HB_8.out.setCell (by show w.heap.size ≤ w2.heap.size; omega) _).setCell (by show w.heap.size ≤ w2.heap.size; omega) _).setCell (by show w.heap.size ≤ w2.heap.size; omega) _).setCell (by show w.heap.size ≤ w2.heap.size; omega) _).setCell (by show w.heap.size ≤ w2.heap.size; omega) _)
    obtain ⟨⟨y0, y1, y2, y3, y4⟩, yf⟩ := id (R_8.out)
    have yf0 := yf 0
    have yf1 := yf 1
    have yf2 := yf 2
    have yf3 := yf 3
    have yf4 := yf 4
    obtain ⟨FW, hFW⟩ : ∃ F, (((((w8.setCell ⟨w2.heap.size, 0, none⟩ (.int .i64 0)).setCell ⟨w2.heap.size, 1, none⟩ (.int .i64 0)).setCell ⟨w2.heap.size, 2, none⟩ (.slice none 0 0)).setCell ⟨w2.heap.size, 3, none⟩ (.slice none 0 0)).setCell ⟨w2.heap.size, 4, none⟩ (.slice none 0 0)) = F := ⟨_, rfl⟩
    rw [hFW] at hZF hBF
    obtain ⟨⟨t0, t1, t2, t3, t4⟩, _⟩ := hZF
    have HBF : Hid (Below w.heap.size w FW) := hBF
    clear hBF yf
    obtain ⟨⟨Aq0, Aq1, Aq2, Aq3, Aq4⟩, Af⟩ := id (A_8.out)
    clear Af
    obtain ⟨⟨Bq0, Bq1, Bq2⟩, Bf⟩ := id (B_8.out)
    clear Bf
    go_wp2
    clear hV8
    refine bodyPost_ret (v := .tuple #[.agg #[.int .i64 0, .int .i64 0, .slice none 0 0, .slice none 0 0, .slice none 0 0], .bool false]) (by simp [results, Try.results20, go_sem, t0, t1, t2, t3, t4]; try rfl) rfl ?_
    exact ⟨none, 0, none, 0, none, 0, by rw [HV.out.1, HV.out.2]; rfl, by rw [HV.out.2]; exact zeroOwn _ _ _, HBF.out⟩
  · have heq : ∀ wx, (binOp .eql 40 (.agg #[.int .i64 3, .int .i64 m, .int .i64 l]) (.agg #[.int .i64 3, .int .i64 0, .int .i64 0])).run Try.prog wx = .ok (.bool false) wx := fun wx => by rw [run_eql_bs]; simp; exact fun h1 h2 => hm ⟨h1, h2⟩
    clear HC q3 q4 hm
    have hZF := (((((R_8.out.set0 (.int .i64 0)).set1 (.int .i64 0)).set2 (.slice none 0 0)).set3 (.slice none 0 0)).set4 (.slice none 0 0))
    have hBF : Below w.heap.size w (((((w8.setCell ⟨w2.heap.size, 0, none⟩ (.int .i64 0)).setCell ⟨w2.heap.size, 1, none⟩ (.int .i64 0)).setCell ⟨w2.heap.size, 2, none⟩ (.slice none 0 0)).setCell ⟨w2.heap.size, 3, none⟩ (.slice none 0 0)).setCell ⟨w2.heap.size, 4, none⟩ (.slice none 0 0)) := (((((HB_8.out.setCell (by show w.heap.size ≤ w2.heap.size; omega) _).setCell (by show w.heap.size ≤ w2.heap.size; omega) _).setCell (by show w.heap.size ≤ w2.heap.size; omega) _).setCell (by show w.heap.size ≤ w2.heap.size; omega) _).setCell (by show w.heap.size ≤ w2.heap.size; omega) _)
    obtain ⟨⟨y0, y1, y2, y3, y4⟩, yf⟩ := id (R_8.out)
    have yf0 := yf 0
    have yf1 := yf 1
    have yf2 := yf 2
    have yf3 := yf 3
    have yf4 := yf 4
    obtain ⟨FW, hFW⟩ : ∃ F, (((((w8.setCell ⟨w2.heap.size, 0, none⟩ (.int .i64 0)).setCell ⟨w2.heap.size, 1, none⟩ (.int .i64 0)).setCell ⟨w2.heap.size, 2, none⟩ (.slice none 0 0)).setCell ⟨w2.heap.size, 3, none⟩ (.slice none 0 0)).setCell ⟨w2.heap.size, 4, none⟩ (.slice none 0 0)) = F := ⟨_, rfl⟩
    rw [hFW] at hZF hBF
    obtain ⟨⟨t0, t1, t2, t3, t4⟩, _⟩ := hZF
    have HBF : Hid (Below w.heap.size w FW) := hBF
    clear hBF yf
    obtain ⟨⟨Aq0, Aq1, Aq2, Aq3, Aq4⟩, Af⟩ := id (A_8.out)
    clear Af
    obtain ⟨⟨Bq0, Bq1, Bq2⟩, Bf⟩ := id (B_8.out)
    clear Bf
    go_wp2
    clear hV8
    refine bodyPost_ret (v := .tuple #[.agg #[.int .i64 0, .int .i64 0, .slice none 0 0, .slice none 0 0, .slice none 0 0], .bool false]) (by simp [results, Try.results20, go_sem, t0, t1, t2, t3, t4]; try rfl) rfl ?_
    exact ⟨none, 0, none, 0, none, 0, by rw [HV.out.1, HV.out.2]; rfl, by rw [HV.out.2]; exact zeroOwn _ _ _, HBF.out⟩
  · have h1b : (k == 1) = false := by simpa using h1
    have h2b : (k == 2) = false := by simpa using h2
    have heq : ∀ wx, (binOp .eql 40 (.agg #[.int .i64 k, .int .i64 m, .int .i64 l]) (.agg #[.int .i64 3, .int .i64 0, .int .i64 0])).run Try.prog wx = .ok (.bool false) wx := fun wx => by rw [run_eql_bs]; simp; exact fun h4 => absurd h4 h3
    clear HC q3 q4 h1 h2 h3
    have hZF := (((((R_8.out.set0 (.int .i64 0)).set1 (.int .i64 0)).set2 (.slice none 0 0)).set3 (.slice none 0 0)).set4 (.slice none 0 0))
    have hBF : Below w.heap.size w (((((w8.setCell ⟨w2.heap.size, 0, none⟩ (.int .i64 0)).setCell ⟨w2.heap.size, 1, none⟩ (.int .i64 0)).setCell ⟨w2.heap.size, 2, none⟩ (.slice none 0 0)).setCell ⟨w2.heap.size, 3, none⟩ (.slice none 0 0)).setCell ⟨w2.heap.size, 4, none⟩ (.slice none 0 0)) := (((((HB_8.out.setCell (by show w.heap.size ≤ w2.heap.size; omega) _).setCell (by show w.heap.size ≤ w2.heap.size; omega) _).setCell (by show w.heap.size ≤ w2.heap.size; omega) _).setCell (by show w.heap.size ≤ w2.heap.size; omega) _).setCell (by show w.heap.size ≤ w2.heap.size; omega) _)
    obtain ⟨⟨y0, y1, y2, y3, y4⟩, yf⟩ := id (R_8.out)
    have yf0 := yf 0
    have yf1 := yf 1
    have yf2 := yf 2
    have yf3 := yf 3
    have yf4 := yf 4
    obtain ⟨FW, hFW⟩ : ∃ F, (((((w8.setCell ⟨w2.heap.size, 0, none⟩ (.int .i64 0)).setCell ⟨w2.heap.size, 1, none⟩ (.int .i64 0)).setCell ⟨w2.heap.size, 2, none⟩ (.slice none 0 0)).setCell ⟨w2.heap.size, 3, none⟩ (.slice none 0 0)).setCell ⟨w2.heap.size, 4, none⟩ (.slice none 0 0)) = F := ⟨_, rfl⟩
    rw [hFW] at hZF hBF
    obtain ⟨⟨t0, t1, t2, t3, t4⟩, _⟩ := hZF
    have HBF : Hid (Below w.heap.size w FW) := hBF
    clear hBF yf
    obtain ⟨⟨Aq0, Aq1, Aq2, Aq3, Aq4⟩, Af⟩ := id (A_8.out)
    clear Af
    obtain ⟨⟨Bq0, Bq1, Bq2⟩, Bf⟩ := id (B_8.out)
    clear Bf
    go_wp2
    clear hV8
    refine bodyPost_ret (v := .tuple #[.agg #[.int .i64 0, .int .i64 0, .slice none 0 0, .slice none 0 0, .slice none 0 0], .bool false]) (by simp [results, Try.results20, go_sem, t0, t1, t2, t3, t4]; try rfl) rfl ?_
    exact ⟨none, 0, none, 0, none, 0, by rw [HV.out.1, HV.out.2]; rfl, by rw [HV.out.2]; exact zeroOwn _ _ _, HBF.out⟩

theorem implStep_d1 (f e : Int) (sa : Option Addr) (sn sc : Nat) (la : Option Addr) (ln lc : Nat) (ta : Option Addr) (tn tc : Nat) (sg : List (List Int)) (li ls : List Int) (k m l : Int) (w : World) (hg : goodBd ⟨f, e, sg, li, ls⟩ = true) (hr : RdBd w sa sn sc la ln lc ta tn tc ⟨f, e, sg, li, ls⟩) (hnn : RdNN w sa sg) (hk : k = 1) (hm : m = 0) (hz : (inB l 0 9 && !decide (l ∈ ls)) = false) :
    Calls Try.prog 20 #[.agg #[.int .i64 f, .int .i64 e, .slice sa sn sc, .slice la ln lc, .slice ta tn tc], .agg #[.int .i64 k, .int .i64 m, .int .i64 l]] w fun r w' => BdOk r w w' (stepV ⟨f, e, sg, li, ls⟩ k m l) (stepB ⟨f, e, sg, li, ls⟩ k m l) :=
  implStep_no f e sa sn sc la ln lc ta tn tc sg li ls k m l w hg hr hnn (by rw [stepO, if_neg (fun h => by simp [h.2.2.1, h.2.2.2] at hz), if_neg (fun h => by omega), if_neg (fun h => by omega)]) (Or.inl ⟨hk, hm, hz⟩)

theorem implStep_d3 (f e : Int) (sa : Option Addr) (sn sc : Nat) (la : Option Addr) (ln lc : Nat) (ta : Option Addr) (tn tc : Nat) (sg : List (List Int)) (li ls : List Int) (k m l : Int) (w : World) (hg : goodBd ⟨f, e, sg, li, ls⟩ = true) (hr : RdBd w sa sn sc la ln lc ta tn tc ⟨f, e, sg, li, ls⟩) (hnn : RdNN w sa sg) (hk : k = 1) (hm : m ≠ 0) :
    Calls Try.prog 20 #[.agg #[.int .i64 f, .int .i64 e, .slice sa sn sc, .slice la ln lc, .slice ta tn tc], .agg #[.int .i64 k, .int .i64 m, .int .i64 l]] w fun r w' => BdOk r w w' (stepV ⟨f, e, sg, li, ls⟩ k m l) (stepB ⟨f, e, sg, li, ls⟩ k m l) :=
  implStep_no f e sa sn sc la ln lc ta tn tc sg li ls k m l w hg hr hnn (by rw [stepO, if_neg (fun h => hm h.2.1), if_neg (fun h => by omega), if_neg (fun h => by omega)]) (Or.inr (Or.inl ⟨hk, hm⟩))

theorem implStep_s2 (f e : Int) (sa : Option Addr) (sn sc : Nat) (la : Option Addr) (ln lc : Nat) (ta : Option Addr) (tn tc : Nat) (sg : List (List Int)) (li ls : List Int) (k m l : Int) (w : World) (hg : goodBd ⟨f, e, sg, li, ls⟩ = true) (hr : RdBd w sa sn sc la ln lc ta tn tc ⟨f, e, sg, li, ls⟩) (hnn : RdNN w sa sg) (hk : k = 2) (hz : maySB ⟨f, e, sg, li, ls⟩ m l = true) (h2 : 200 ≤ sg.length) :
    Calls Try.prog 20 #[.agg #[.int .i64 f, .int .i64 e, .slice sa sn sc, .slice la ln lc, .slice ta tn tc], .agg #[.int .i64 k, .int .i64 m, .int .i64 l]] w fun r w' => BdOk r w w' (stepV ⟨f, e, sg, li, ls⟩ k m l) (stepB ⟨f, e, sg, li, ls⟩ k m l) :=
  implStep_no f e sa sn sc la ln lc ta tn tc sg li ls k m l w hg hr hnn (by rw [stepO, if_neg (fun h => by omega), if_neg (fun h => by have := h.2.2; simp at this; omega), if_neg (fun h => by omega)]) (Or.inr (Or.inr (Or.inl ⟨hk, hz, h2⟩)))

theorem implStep_s3 (f e : Int) (sa : Option Addr) (sn sc : Nat) (la : Option Addr) (ln lc : Nat) (ta : Option Addr) (tn tc : Nat) (sg : List (List Int)) (li ls : List Int) (k m l : Int) (w : World) (hg : goodBd ⟨f, e, sg, li, ls⟩ = true) (hr : RdBd w sa sn sc la ln lc ta tn tc ⟨f, e, sg, li, ls⟩) (hnn : RdNN w sa sg) (hk : k = 2) (hz : maySB ⟨f, e, sg, li, ls⟩ m l = false) :
    Calls Try.prog 20 #[.agg #[.int .i64 f, .int .i64 e, .slice sa sn sc, .slice la ln lc, .slice ta tn tc], .agg #[.int .i64 k, .int .i64 m, .int .i64 l]] w fun r w' => BdOk r w w' (stepV ⟨f, e, sg, li, ls⟩ k m l) (stepB ⟨f, e, sg, li, ls⟩ k m l) :=
  implStep_no f e sa sn sc la ln lc ta tn tc sg li ls k m l w hg hr hnn (by rw [stepO, if_neg (fun h => by omega), if_neg (fun h => by simp [h.2.1] at hz), if_neg (fun h => by omega)]) (Or.inr (Or.inr (Or.inr (Or.inl ⟨hk, hz⟩))))

theorem implStep_e2 (f e : Int) (sa : Option Addr) (sn sc : Nat) (la : Option Addr) (ln lc : Nat) (ta : Option Addr) (tn tc : Nat) (sg : List (List Int)) (li ls : List Int) (k m l : Int) (w : World) (hg : goodBd ⟨f, e, sg, li, ls⟩ = true) (hr : RdBd w sa sn sc la ln lc ta tn tc ⟨f, e, sg, li, ls⟩) (hnn : RdNN w sa sg) (hk : k = 3) (hm : m = 0) (hl : l = 0) (he : 20 ≤ e) :
    Calls Try.prog 20 #[.agg #[.int .i64 f, .int .i64 e, .slice sa sn sc, .slice la ln lc, .slice ta tn tc], .agg #[.int .i64 k, .int .i64 m, .int .i64 l]] w fun r w' => BdOk r w w' (stepV ⟨f, e, sg, li, ls⟩ k m l) (stepB ⟨f, e, sg, li, ls⟩ k m l) :=
  implStep_no f e sa sn sc la ln lc ta tn tc sg li ls k m l w hg hr hnn (by rw [stepO, if_neg (fun h => by omega), if_neg (fun h => by omega), if_neg (fun h => by have := h.2.2.2; simp at this; omega)]) (Or.inr (Or.inr (Or.inr (Or.inr (Or.inl ⟨hk, hm, hl, he⟩)))))

theorem implStep_e3 (f e : Int) (sa : Option Addr) (sn sc : Nat) (la : Option Addr) (ln lc : Nat) (ta : Option Addr) (tn tc : Nat) (sg : List (List Int)) (li ls : List Int) (k m l : Int) (w : World) (hg : goodBd ⟨f, e, sg, li, ls⟩ = true) (hr : RdBd w sa sn sc la ln lc ta tn tc ⟨f, e, sg, li, ls⟩) (hnn : RdNN w sa sg) (hk : k = 3) (hm : ¬ (m = 0 ∧ l = 0)) :
    Calls Try.prog 20 #[.agg #[.int .i64 f, .int .i64 e, .slice sa sn sc, .slice la ln lc, .slice ta tn tc], .agg #[.int .i64 k, .int .i64 m, .int .i64 l]] w fun r w' => BdOk r w w' (stepV ⟨f, e, sg, li, ls⟩ k m l) (stepB ⟨f, e, sg, li, ls⟩ k m l) :=
  implStep_no f e sa sn sc la ln lc ta tn tc sg li ls k m l w hg hr hnn (by rw [stepO, if_neg (fun h => by omega), if_neg (fun h => by omega), if_neg (fun h => hm ⟨h.2.1, h.2.2.1⟩)]) (Or.inr (Or.inr (Or.inr (Or.inr (Or.inr (Or.inl ⟨hk, hm⟩))))))

theorem implStep_o (f e : Int) (sa : Option Addr) (sn sc : Nat) (la : Option Addr) (ln lc : Nat) (ta : Option Addr) (tn tc : Nat) (sg : List (List Int)) (li ls : List Int) (k m l : Int) (w : World) (hg : goodBd ⟨f, e, sg, li, ls⟩ = true) (hr : RdBd w sa sn sc la ln lc ta tn tc ⟨f, e, sg, li, ls⟩) (hnn : RdNN w sa sg) (h1 : k ≠ 1) (h2 : k ≠ 2) (h3 : k ≠ 3) :
    Calls Try.prog 20 #[.agg #[.int .i64 f, .int .i64 e, .slice sa sn sc, .slice la ln lc, .slice ta tn tc], .agg #[.int .i64 k, .int .i64 m, .int .i64 l]] w fun r w' => BdOk r w w' (stepV ⟨f, e, sg, li, ls⟩ k m l) (stepB ⟨f, e, sg, li, ls⟩ k m l) :=
  implStep_no f e sa sn sc la ln lc ta tn tc sg li ls k m l w hg hr hnn (by rw [stepO, if_neg (fun h => h1 h.1), if_neg (fun h => h2 h.1), if_neg (fun h => h3 h.1)]) (Or.inr (Or.inr (Or.inr (Or.inr (Or.inr (Or.inr (⟨h1, h2, h3⟩)))))))

end Go.Proofs.Ytaokmjbhgkfnfaa
