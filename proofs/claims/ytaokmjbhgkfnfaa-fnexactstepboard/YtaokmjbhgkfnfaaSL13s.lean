/- Chapter 13: l13Step of the specification: steps that are not done. -/
import Derived.Test.YtaokmjbhgkfnfaaHA13s
namespace Go.Proofs.Ytaokmjbhgkfnfaa
set_option linter.unusedVariables false
set_option maxRecDepth 1000000
set_option linter.unusedSimpArgs false
open Go.RowKit

theorem hid_of {p : Prop} (h : p) : Hid p := h
theorem below_toP {pp : Nat → Prop} {w w' : World} (h : Below w.heap.size w w') : RngP pp w w' := ⟨h.os, h.tape, h.output, h.size, fun q hq _ => h.block q hq⟩
/-- What l13Step tells. -/
def StOk (r : Ending) (w w' : World) (lo hi : Nat) (b : BdV) (fb : Bool) : Prop := ∃ sa sc la lc ta tc, r = .returned (.tuple #[.agg #[.int .i64 b.f, .int .i64 b.e, .slice sa b.sg.length sc, .slice la b.li.length lc, .slice ta b.ls.length tc], .bool fb]) ∧ OwnBd w' lo w'.heap.size (.slice sa b.sg.length sc) (.slice la b.li.length lc) (.slice ta b.ls.length tc) b ∧ RngP (fun q => lo ≤ q ∧ q < hi) w w'

set_option maxHeartbeats 4000000 in
theorem l13Step_a1 (f e : Int) (sa : Option Addr) (sn sc : Nat) (la : Option Addr) (ln lc : Nat) (ta : Option Addr) (tn tc : Nat) (sg : List (List Int)) (li ls : List Int) (k m l : Int) (lo hi : Nat) (w : World) (hg : goodBd ⟨f, e, sg, li, ls⟩ = true) (ho : OwnBd w lo hi (.slice sa sn sc) (.slice la ln lc) (.slice ta tn tc) ⟨f, e, sg, li, ls⟩) (hhi : hi ≤ w.heap.size) (hlo : lo ≤ hi) (hk : k = 1) (hm : m = 0) (hq1 : inB l 0 9 = false) :
    Calls Try.prog 54 #[.agg #[.int .i64 f, .int .i64 e, .slice sa sn sc, .slice la ln lc, .slice ta tn tc], .agg #[.int .i64 k, .int .i64 m, .int .i64 l]] w fun r w' => StOk r w w' lo hi ⟨f, e, sg, li, ls⟩ false := by
  have G := good_is hg
  have HS : Hid (sg.length = sn) := ho.rd.sl
  have HL : Hid (li.length = ln) := ho.rd.ll
  have HT : Hid (ls.length = tn) := ho.rd.tl
  have hsn : sn ≤ 200 := by rw [← HS.out]; exact (sgsB_all G.sgOk).1
  have hln : ln ≤ 2 := by have := G.ln; have := G.f2; rw [HL.out] at *; omega
  have htn : tn ≤ 10 := by rw [← HT.out]; exact G.tn
  have HG : Hid (sgsB f sg = true) := G.sgOk
  obtain ⟨M, hM⟩ : ∃ M, 3 * f + 1 = M := ⟨_, rfl⟩
  have hM1 : 1 ≤ M := by have := G.f0; omega
  have hM7 : M ≤ 7 := by have := G.f2; omega
  have q0 : ∀ wx, Calls Try.prog 31 #[.int .i64 f] wx fun e w' => e = .returned (.tuple #[.int .i64 M, .int .i64 (2 * f + 1), .bool true]) ∧ w' = wx := fun wx => by
    have h := specQuo_c f wx
    have h2 : inB f 0 2 = true := inB_iff.2 ⟨G.f0, G.f2⟩
    simp only [quoF, h2, if_true, hM] at h
    exact h
  have q1 := fun wx => l13List_c l wx
  rw [hq1] at q1
  subst hk
  subst hm
  clear G hg hM hq1 
  have HB_0 : Hid (Below w.heap.size w w) := Below.refl _ _
  have OB_0 : Hid (OwnBd w lo hi (.slice sa sn sc) (.slice la ln lc) (.slice ta tn tc) ⟨f, e, sg, li, ls⟩) := ho
  clear ho
  have hHB := HB_0.out.alloc HB_0.out.size (.cells #[.int .i64 f, .int .i64 e, .slice sa sn sc, .slice la ln lc, .slice ta tn tc] 29)
  have hOB := OB_0.out.later (balloc w (.cells #[.int .i64 f, .int .i64 e, .slice sa sn sc, .slice la ln lc, .slice ta tn tc] 29))
  have hA := x5_new w (.int .i64 f) (.int .i64 e) (.slice sa sn sc) (.slice la ln lc) (.slice ta tn tc) 29 w.heap.size rfl
  have hz : (w.alloc (.cells #[.int .i64 f, .int .i64 e, .slice sa sn sc, .slice la ln lc, .slice ta tn tc] 29)).heap.size = w.heap.size + 1 := by simp
  obtain ⟨w1, hV1⟩ : ∃ V, w.alloc (.cells #[.int .i64 f, .int .i64 e, .slice sa sn sc, .slice la ln lc, .slice ta tn tc] 29) = V := ⟨_, rfl⟩
  rw [hV1] at hHB hOB hA hz
  have HB_1 : Hid (Below w.heap.size w w1) := hHB
  have OB_1 : Hid (OwnBd w1 lo hi (.slice sa sn sc) (.slice la ln lc) (.slice ta tn tc) ⟨f, e, sg, li, ls⟩) := hOB
  have A_1 : Hid (X5 w1 w.heap.size (.int .i64 f) (.int .i64 e) (.slice sa sn sc) (.slice la ln lc) (.slice ta tn tc)) := hA
  have z1 : w.heap.size + 1 ≤ w1.heap.size := by omega
  clear HB_0 OB_0 hHB hOB hA hz
  have hHB := HB_1.out.alloc HB_1.out.size (.cells #[.int .i64 1, .int .i64 0, .int .i64 l] 40)
  have hOB := OB_1.out.later (balloc w1 (.cells #[.int .i64 1, .int .i64 0, .int .i64 l] 40))
  have hA := A_1.out.later (balloc w1 (.cells #[.int .i64 1, .int .i64 0, .int .i64 l] 40))
  have hB := x3_new w1 (.int .i64 1) (.int .i64 0) (.int .i64 l) 40 w1.heap.size rfl
  have hz : (w1.alloc (.cells #[.int .i64 1, .int .i64 0, .int .i64 l] 40)).heap.size = w1.heap.size + 1 := by simp
  obtain ⟨w2, hV2⟩ : ∃ V, w1.alloc (.cells #[.int .i64 1, .int .i64 0, .int .i64 l] 40) = V := ⟨_, rfl⟩
  rw [hV2] at hHB hOB hA hB hz
  have HB_2 : Hid (Below w.heap.size w w2) := hHB
  have OB_2 : Hid (OwnBd w2 lo hi (.slice sa sn sc) (.slice la ln lc) (.slice ta tn tc) ⟨f, e, sg, li, ls⟩) := hOB
  have A_2 : Hid (X5 w2 w.heap.size (.int .i64 f) (.int .i64 e) (.slice sa sn sc) (.slice la ln lc) (.slice ta tn tc)) := hA
  have B_2 : Hid (X3 w2 w1.heap.size (.int .i64 1) (.int .i64 0) (.int .i64 l)) := hB
  have z2 : w1.heap.size + 1 ≤ w2.heap.size := by omega
  clear HB_1 OB_1 A_1 hHB hOB hA hB hz
  have hHB := HB_2.out.alloc HB_2.out.size (.cells #[.int .i64 0, .int .i64 0, .slice none 0 0, .slice none 0 0, .slice none 0 0] 29)
  have hOB := OB_2.out.later (balloc w2 (.cells #[.int .i64 0, .int .i64 0, .slice none 0 0, .slice none 0 0, .slice none 0 0] 29))
  have hA := A_2.out.later (balloc w2 (.cells #[.int .i64 0, .int .i64 0, .slice none 0 0, .slice none 0 0, .slice none 0 0] 29))
  have hB := B_2.out.later (balloc w2 (.cells #[.int .i64 0, .int .i64 0, .slice none 0 0, .slice none 0 0, .slice none 0 0] 29))
  have hR := x5_new w2 (.int .i64 0) (.int .i64 0) (.slice none 0 0) (.slice none 0 0) (.slice none 0 0) 29 w2.heap.size rfl
  have hz : (w2.alloc (.cells #[.int .i64 0, .int .i64 0, .slice none 0 0, .slice none 0 0, .slice none 0 0] 29)).heap.size = w2.heap.size + 1 := by simp
  obtain ⟨w3, hV3⟩ : ∃ V, w2.alloc (.cells #[.int .i64 0, .int .i64 0, .slice none 0 0, .slice none 0 0, .slice none 0 0] 29) = V := ⟨_, rfl⟩
  rw [hV3] at hHB hOB hA hB hR hz
  have HB_3 : Hid (Below w.heap.size w w3) := hHB
  have OB_3 : Hid (OwnBd w3 lo hi (.slice sa sn sc) (.slice la ln lc) (.slice ta tn tc) ⟨f, e, sg, li, ls⟩) := hOB
  have A_3 : Hid (X5 w3 w.heap.size (.int .i64 f) (.int .i64 e) (.slice sa sn sc) (.slice la ln lc) (.slice ta tn tc)) := hA
  have B_3 : Hid (X3 w3 w1.heap.size (.int .i64 1) (.int .i64 0) (.int .i64 l)) := hB
  have R_3 : Hid (X5 w3 w2.heap.size (.int .i64 0) (.int .i64 0) (.slice none 0 0) (.slice none 0 0) (.slice none 0 0)) := hR
  have z3 : w2.heap.size + 1 ≤ w3.heap.size := by omega
  clear HB_2 OB_2 A_2 B_2 hHB hOB hA hB hR hz
  go_enter Try.func54, Try.ntmps54
  obtain ⟨⟨Aq0, Aq1, Aq2, Aq3, Aq4⟩, Af⟩ := id (A_3.out)
  clear Af
  go_wp2_with fail
  clear hV1 hV2 hV3
  refine (q0 _).mono ?_
  clear Aq0 Aq1 Aq2 Aq3 Aq4
  rintro e w' ⟨rfl, hw⟩
  subst w'
  obtain ⟨⟨Aq0, Aq1, Aq2, Aq3, Aq4⟩, Af⟩ := id (A_3.out)
  clear Af
  obtain ⟨⟨Bq0, Bq1, Bq2⟩, Bf⟩ := id (B_3.out)
  clear Bf
  go_wp2_with fail
  refine (q1 _).mono ?_
  clear Aq0 Aq1 Aq2 Aq3 Aq4
  clear Bq0 Bq1 Bq2
  rintro e w' ⟨rfl, hw⟩
  subst w'
  have hZF := (((((R_3.out.set0 (.int .i64 f)).set1 (.int .i64 e)).set2 (.slice sa sn sc)).set3 (.slice la ln lc)).set4 (.slice ta tn tc))
  have hBF : Below w.heap.size w (((((w3.setCell ⟨w2.heap.size, 0, none⟩ (.int .i64 f)).setCell ⟨w2.heap.size, 1, none⟩ (.int .i64 e)).setCell ⟨w2.heap.size, 2, none⟩ (.slice sa sn sc)).setCell ⟨w2.heap.size, 3, none⟩ (.slice la ln lc)).setCell ⟨w2.heap.size, 4, none⟩ (.slice ta tn tc)) := (((((HB_3.out.setCell (by show w.heap.size ≤ w2.heap.size; omega) _).setCell (by show w.heap.size ≤ w2.heap.size; omega) _).setCell (by show w.heap.size ≤ w2.heap.size; omega) _).setCell (by show w.heap.size ≤ w2.heap.size; omega) _).setCell (by show w.heap.size ≤ w2.heap.size; omega) _)
  have hOF := (((((OB_3.out.cell (r := w2.heap.size) (j := 0) (by omega) (.int .i64 f)).cell (r := w2.heap.size) (j := 1) (by omega) (.int .i64 e)).cell (r := w2.heap.size) (j := 2) (by omega) (.slice sa sn sc)).cell (r := w2.heap.size) (j := 3) (by omega) (.slice la ln lc)).cell (r := w2.heap.size) (j := 4) (by omega) (.slice ta tn tc))
  have hszF : (((((w3.setCell ⟨w2.heap.size, 0, none⟩ (.int .i64 f)).setCell ⟨w2.heap.size, 1, none⟩ (.int .i64 e)).setCell ⟨w2.heap.size, 2, none⟩ (.slice sa sn sc)).setCell ⟨w2.heap.size, 3, none⟩ (.slice la ln lc)).setCell ⟨w2.heap.size, 4, none⟩ (.slice ta tn tc)).heap.size = w3.heap.size := by simp
  obtain ⟨⟨y0, y1, y2, y3, y4⟩, yf⟩ := id (R_3.out)
  have yf0 := yf 0
  have yf1 := yf 1
  have yf2 := yf 2
  have yf3 := yf 3
  have yf4 := yf 4
  obtain ⟨FW, hFW⟩ : ∃ F, (((((w3.setCell ⟨w2.heap.size, 0, none⟩ (.int .i64 f)).setCell ⟨w2.heap.size, 1, none⟩ (.int .i64 e)).setCell ⟨w2.heap.size, 2, none⟩ (.slice sa sn sc)).setCell ⟨w2.heap.size, 3, none⟩ (.slice la ln lc)).setCell ⟨w2.heap.size, 4, none⟩ (.slice ta tn tc)) = F := ⟨_, rfl⟩
  rw [hFW] at hZF hBF hszF hOF
  obtain ⟨⟨t0, t1, t2, t3, t4⟩, _⟩ := hZF
  have HBF : Hid (Below w.heap.size w FW) := hBF
  have HSF : Hid (FW.heap.size = w3.heap.size) := hszF
  have HOF := hid_of hOF
  clear hBF yf hszF hOF
  obtain ⟨⟨Aq0, Aq1, Aq2, Aq3, Aq4⟩, Af⟩ := id (A_3.out)
  clear Af
  obtain ⟨⟨Bq0, Bq1, Bq2⟩, Bf⟩ := id (B_3.out)
  clear Bf
  go_wp2
  refine bodyPost_ret (v := .tuple #[.agg #[.int .i64 f, .int .i64 e, .slice sa sn sc, .slice la ln lc, .slice ta tn tc], .bool false]) (by simp [results, Try.results54, go_sem, t0, t1, t2, t3, t4]; try rfl) rfl ?_
  have h9 := HSF.out
  refine ⟨sa, sc, la, lc, ta, tc, ?_, ?_, below_toP HBF.out⟩
  · simp only [HS.out, HL.out, HT.out]
  · simp only [HS.out, HL.out, HT.out]
    exact HOF.out.mono (Nat.le_refl _) (by omega)

set_option maxHeartbeats 4000000 in
theorem l13Step_a2 (f e : Int) (sa : Option Addr) (sn sc : Nat) (la : Option Addr) (ln lc : Nat) (ta : Option Addr) (tn tc : Nat) (sg : List (List Int)) (li ls : List Int) (k m l : Int) (lo hi : Nat) (w : World) (hg : goodBd ⟨f, e, sg, li, ls⟩ = true) (ho : OwnBd w lo hi (.slice sa sn sc) (.slice la ln lc) (.slice ta tn tc) ⟨f, e, sg, li, ls⟩) (hhi : hi ≤ w.heap.size) (hlo : lo ≤ hi) (hk : k = 1) (hm : m = 0) (hq1 : inB l 0 9 = true) (hq2 : decide (l ∈ ls) = true) :
    Calls Try.prog 54 #[.agg #[.int .i64 f, .int .i64 e, .slice sa sn sc, .slice la ln lc, .slice ta tn tc], .agg #[.int .i64 k, .int .i64 m, .int .i64 l]] w fun r w' => StOk r w w' lo hi ⟨f, e, sg, li, ls⟩ false := by
  have G := good_is hg
  have HS : Hid (sg.length = sn) := ho.rd.sl
  have HL : Hid (li.length = ln) := ho.rd.ll
  have HT : Hid (ls.length = tn) := ho.rd.tl
  have hsn : sn ≤ 200 := by rw [← HS.out]; exact (sgsB_all G.sgOk).1
  have hln : ln ≤ 2 := by have := G.ln; have := G.f2; rw [HL.out] at *; omega
  have htn : tn ≤ 10 := by rw [← HT.out]; exact G.tn
  have HG : Hid (sgsB f sg = true) := G.sgOk
  obtain ⟨M, hM⟩ : ∃ M, 3 * f + 1 = M := ⟨_, rfl⟩
  have hM1 : 1 ≤ M := by have := G.f0; omega
  have hM7 : M ≤ 7 := by have := G.f2; omega
  have q0 : ∀ wx, Calls Try.prog 31 #[.int .i64 f] wx fun e w' => e = .returned (.tuple #[.int .i64 M, .int .i64 (2 * f + 1), .bool true]) ∧ w' = wx := fun wx => by
    have h := specQuo_c f wx
    have h2 : inB f 0 2 = true := inB_iff.2 ⟨G.f0, G.f2⟩
    simp only [quoF, h2, if_true, hM] at h
    exact h
  have q1 := fun wx => l13List_c l wx
  rw [hq1] at q1
  have q2 := fun wx (h : Rd wx ta ls) => l1Has_c ta tn tc l ls wx HT.out (by omega) h
  rw [hq2] at q2
  subst hk
  subst hm
  clear G hg hM hq1 hq2 
  have HB_0 : Hid (Below w.heap.size w w) := Below.refl _ _
  have OB_0 : Hid (OwnBd w lo hi (.slice sa sn sc) (.slice la ln lc) (.slice ta tn tc) ⟨f, e, sg, li, ls⟩) := ho
  clear ho
  have hHB := HB_0.out.alloc HB_0.out.size (.cells #[.int .i64 f, .int .i64 e, .slice sa sn sc, .slice la ln lc, .slice ta tn tc] 29)
  have hOB := OB_0.out.later (balloc w (.cells #[.int .i64 f, .int .i64 e, .slice sa sn sc, .slice la ln lc, .slice ta tn tc] 29))
  have hA := x5_new w (.int .i64 f) (.int .i64 e) (.slice sa sn sc) (.slice la ln lc) (.slice ta tn tc) 29 w.heap.size rfl
  have hz : (w.alloc (.cells #[.int .i64 f, .int .i64 e, .slice sa sn sc, .slice la ln lc, .slice ta tn tc] 29)).heap.size = w.heap.size + 1 := by simp
  obtain ⟨w1, hV1⟩ : ∃ V, w.alloc (.cells #[.int .i64 f, .int .i64 e, .slice sa sn sc, .slice la ln lc, .slice ta tn tc] 29) = V := ⟨_, rfl⟩
  rw [hV1] at hHB hOB hA hz
  have HB_1 : Hid (Below w.heap.size w w1) := hHB
  have OB_1 : Hid (OwnBd w1 lo hi (.slice sa sn sc) (.slice la ln lc) (.slice ta tn tc) ⟨f, e, sg, li, ls⟩) := hOB
  have A_1 : Hid (X5 w1 w.heap.size (.int .i64 f) (.int .i64 e) (.slice sa sn sc) (.slice la ln lc) (.slice ta tn tc)) := hA
  have z1 : w.heap.size + 1 ≤ w1.heap.size := by omega
  clear HB_0 OB_0 hHB hOB hA hz
  have hHB := HB_1.out.alloc HB_1.out.size (.cells #[.int .i64 1, .int .i64 0, .int .i64 l] 40)
  have hOB := OB_1.out.later (balloc w1 (.cells #[.int .i64 1, .int .i64 0, .int .i64 l] 40))
  have hA := A_1.out.later (balloc w1 (.cells #[.int .i64 1, .int .i64 0, .int .i64 l] 40))
  have hB := x3_new w1 (.int .i64 1) (.int .i64 0) (.int .i64 l) 40 w1.heap.size rfl
  have hz : (w1.alloc (.cells #[.int .i64 1, .int .i64 0, .int .i64 l] 40)).heap.size = w1.heap.size + 1 := by simp
  obtain ⟨w2, hV2⟩ : ∃ V, w1.alloc (.cells #[.int .i64 1, .int .i64 0, .int .i64 l] 40) = V := ⟨_, rfl⟩
  rw [hV2] at hHB hOB hA hB hz
  have HB_2 : Hid (Below w.heap.size w w2) := hHB
  have OB_2 : Hid (OwnBd w2 lo hi (.slice sa sn sc) (.slice la ln lc) (.slice ta tn tc) ⟨f, e, sg, li, ls⟩) := hOB
  have A_2 : Hid (X5 w2 w.heap.size (.int .i64 f) (.int .i64 e) (.slice sa sn sc) (.slice la ln lc) (.slice ta tn tc)) := hA
  have B_2 : Hid (X3 w2 w1.heap.size (.int .i64 1) (.int .i64 0) (.int .i64 l)) := hB
  have z2 : w1.heap.size + 1 ≤ w2.heap.size := by omega
  clear HB_1 OB_1 A_1 hHB hOB hA hB hz
  have hHB := HB_2.out.alloc HB_2.out.size (.cells #[.int .i64 0, .int .i64 0, .slice none 0 0, .slice none 0 0, .slice none 0 0] 29)
  have hOB := OB_2.out.later (balloc w2 (.cells #[.int .i64 0, .int .i64 0, .slice none 0 0, .slice none 0 0, .slice none 0 0] 29))
  have hA := A_2.out.later (balloc w2 (.cells #[.int .i64 0, .int .i64 0, .slice none 0 0, .slice none 0 0, .slice none 0 0] 29))
  have hB := B_2.out.later (balloc w2 (.cells #[.int .i64 0, .int .i64 0, .slice none 0 0, .slice none 0 0, .slice none 0 0] 29))
  have hR := x5_new w2 (.int .i64 0) (.int .i64 0) (.slice none 0 0) (.slice none 0 0) (.slice none 0 0) 29 w2.heap.size rfl
  have hz : (w2.alloc (.cells #[.int .i64 0, .int .i64 0, .slice none 0 0, .slice none 0 0, .slice none 0 0] 29)).heap.size = w2.heap.size + 1 := by simp
  obtain ⟨w3, hV3⟩ : ∃ V, w2.alloc (.cells #[.int .i64 0, .int .i64 0, .slice none 0 0, .slice none 0 0, .slice none 0 0] 29) = V := ⟨_, rfl⟩
  rw [hV3] at hHB hOB hA hB hR hz
  have HB_3 : Hid (Below w.heap.size w w3) := hHB
  have OB_3 : Hid (OwnBd w3 lo hi (.slice sa sn sc) (.slice la ln lc) (.slice ta tn tc) ⟨f, e, sg, li, ls⟩) := hOB
  have A_3 : Hid (X5 w3 w.heap.size (.int .i64 f) (.int .i64 e) (.slice sa sn sc) (.slice la ln lc) (.slice ta tn tc)) := hA
  have B_3 : Hid (X3 w3 w1.heap.size (.int .i64 1) (.int .i64 0) (.int .i64 l)) := hB
  have R_3 : Hid (X5 w3 w2.heap.size (.int .i64 0) (.int .i64 0) (.slice none 0 0) (.slice none 0 0) (.slice none 0 0)) := hR
  have z3 : w2.heap.size + 1 ≤ w3.heap.size := by omega
  clear HB_2 OB_2 A_2 B_2 hHB hOB hA hB hR hz
  go_enter Try.func54, Try.ntmps54
  obtain ⟨⟨Aq0, Aq1, Aq2, Aq3, Aq4⟩, Af⟩ := id (A_3.out)
  clear Af
  go_wp2_with fail
  clear hV1 hV2 hV3
  refine (q0 _).mono ?_
  clear Aq0 Aq1 Aq2 Aq3 Aq4
  rintro e w' ⟨rfl, hw⟩
  subst w'
  obtain ⟨⟨Aq0, Aq1, Aq2, Aq3, Aq4⟩, Af⟩ := id (A_3.out)
  clear Af
  obtain ⟨⟨Bq0, Bq1, Bq2⟩, Bf⟩ := id (B_3.out)
  clear Bf
  go_wp2_with fail
  refine (q1 _).mono ?_
  clear Aq0 Aq1 Aq2 Aq3 Aq4
  clear Bq0 Bq1 Bq2
  rintro e w' ⟨rfl, hw⟩
  subst w'
  obtain ⟨⟨Aq0, Aq1, Aq2, Aq3, Aq4⟩, Af⟩ := id (A_3.out)
  clear Af
  obtain ⟨⟨Bq0, Bq1, Bq2⟩, Bf⟩ := id (B_3.out)
  clear Bf
  go_wp2_with fail
  refine (q2 _ OB_3.out.rd.t).mono ?_
  clear Aq0 Aq1 Aq2 Aq3 Aq4
  clear Bq0 Bq1 Bq2
  rintro e w' ⟨rfl, hw⟩
  subst w'
  have hZF := (((((R_3.out.set0 (.int .i64 f)).set1 (.int .i64 e)).set2 (.slice sa sn sc)).set3 (.slice la ln lc)).set4 (.slice ta tn tc))
  have hBF : Below w.heap.size w (((((w3.setCell ⟨w2.heap.size, 0, none⟩ (.int .i64 f)).setCell ⟨w2.heap.size, 1, none⟩ (.int .i64 e)).setCell ⟨w2.heap.size, 2, none⟩ (.slice sa sn sc)).setCell ⟨w2.heap.size, 3, none⟩ (.slice la ln lc)).setCell ⟨w2.heap.size, 4, none⟩ (.slice ta tn tc)) := (((((HB_3.out.setCell (by show w.heap.size ≤ w2.heap.size; omega) _).setCell (by show w.heap.size ≤ w2.heap.size; omega) _).setCell (by show w.heap.size ≤ w2.heap.size; omega) _).setCell (by show w.heap.size ≤ w2.heap.size; omega) _).setCell (by show w.heap.size ≤ w2.heap.size; omega) _)
  have hOF := (((((OB_3.out.cell (r := w2.heap.size) (j := 0) (by omega) (.int .i64 f)).cell (r := w2.heap.size) (j := 1) (by omega) (.int .i64 e)).cell (r := w2.heap.size) (j := 2) (by omega) (.slice sa sn sc)).cell (r := w2.heap.size) (j := 3) (by omega) (.slice la ln lc)).cell (r := w2.heap.size) (j := 4) (by omega) (.slice ta tn tc))
  have hszF : (((((w3.setCell ⟨w2.heap.size, 0, none⟩ (.int .i64 f)).setCell ⟨w2.heap.size, 1, none⟩ (.int .i64 e)).setCell ⟨w2.heap.size, 2, none⟩ (.slice sa sn sc)).setCell ⟨w2.heap.size, 3, none⟩ (.slice la ln lc)).setCell ⟨w2.heap.size, 4, none⟩ (.slice ta tn tc)).heap.size = w3.heap.size := by simp
  obtain ⟨⟨y0, y1, y2, y3, y4⟩, yf⟩ := id (R_3.out)
  have yf0 := yf 0
  have yf1 := yf 1
  have yf2 := yf 2
  have yf3 := yf 3
  have yf4 := yf 4
  obtain ⟨FW, hFW⟩ : ∃ F, (((((w3.setCell ⟨w2.heap.size, 0, none⟩ (.int .i64 f)).setCell ⟨w2.heap.size, 1, none⟩ (.int .i64 e)).setCell ⟨w2.heap.size, 2, none⟩ (.slice sa sn sc)).setCell ⟨w2.heap.size, 3, none⟩ (.slice la ln lc)).setCell ⟨w2.heap.size, 4, none⟩ (.slice ta tn tc)) = F := ⟨_, rfl⟩
  rw [hFW] at hZF hBF hszF hOF
  obtain ⟨⟨t0, t1, t2, t3, t4⟩, _⟩ := hZF
  have HBF : Hid (Below w.heap.size w FW) := hBF
  have HSF : Hid (FW.heap.size = w3.heap.size) := hszF
  have HOF := hid_of hOF
  clear hBF yf hszF hOF
  obtain ⟨⟨Aq0, Aq1, Aq2, Aq3, Aq4⟩, Af⟩ := id (A_3.out)
  clear Af
  obtain ⟨⟨Bq0, Bq1, Bq2⟩, Bf⟩ := id (B_3.out)
  clear Bf
  go_wp2
  refine bodyPost_ret (v := .tuple #[.agg #[.int .i64 f, .int .i64 e, .slice sa sn sc, .slice la ln lc, .slice ta tn tc], .bool false]) (by simp [results, Try.results54, go_sem, t0, t1, t2, t3, t4]; try rfl) rfl ?_
  have h9 := HSF.out
  refine ⟨sa, sc, la, lc, ta, tc, ?_, ?_, below_toP HBF.out⟩
  · simp only [HS.out, HL.out, HT.out]
  · simp only [HS.out, HL.out, HT.out]
    exact HOF.out.mono (Nat.le_refl _) (by omega)

set_option maxHeartbeats 4000000 in
theorem l13Step_a3 (f e : Int) (sa : Option Addr) (sn sc : Nat) (la : Option Addr) (ln lc : Nat) (ta : Option Addr) (tn tc : Nat) (sg : List (List Int)) (li ls : List Int) (k m l : Int) (lo hi : Nat) (w : World) (hg : goodBd ⟨f, e, sg, li, ls⟩ = true) (ho : OwnBd w lo hi (.slice sa sn sc) (.slice la ln lc) (.slice ta tn tc) ⟨f, e, sg, li, ls⟩) (hhi : hi ≤ w.heap.size) (hlo : lo ≤ hi) (hk : k = 1) (hm : m ≠ 0)  :
    Calls Try.prog 54 #[.agg #[.int .i64 f, .int .i64 e, .slice sa sn sc, .slice la ln lc, .slice ta tn tc], .agg #[.int .i64 k, .int .i64 m, .int .i64 l]] w fun r w' => StOk r w w' lo hi ⟨f, e, sg, li, ls⟩ false := by
  have G := good_is hg
  have HS : Hid (sg.length = sn) := ho.rd.sl
  have HL : Hid (li.length = ln) := ho.rd.ll
  have HT : Hid (ls.length = tn) := ho.rd.tl
  have hsn : sn ≤ 200 := by rw [← HS.out]; exact (sgsB_all G.sgOk).1
  have hln : ln ≤ 2 := by have := G.ln; have := G.f2; rw [HL.out] at *; omega
  have htn : tn ≤ 10 := by rw [← HT.out]; exact G.tn
  have HG : Hid (sgsB f sg = true) := G.sgOk
  obtain ⟨M, hM⟩ : ∃ M, 3 * f + 1 = M := ⟨_, rfl⟩
  have hM1 : 1 ≤ M := by have := G.f0; omega
  have hM7 : M ≤ 7 := by have := G.f2; omega
  have q0 : ∀ wx, Calls Try.prog 31 #[.int .i64 f] wx fun e w' => e = .returned (.tuple #[.int .i64 M, .int .i64 (2 * f + 1), .bool true]) ∧ w' = wx := fun wx => by
    have h := specQuo_c f wx
    have h2 : inB f 0 2 = true := inB_iff.2 ⟨G.f0, G.f2⟩
    simp only [quoF, h2, if_true, hM] at h
    exact h
  subst hk
  have hm2 : (m == 0) = false := by simpa using hm
  clear G hg hM  hm
  have HB_0 : Hid (Below w.heap.size w w) := Below.refl _ _
  have OB_0 : Hid (OwnBd w lo hi (.slice sa sn sc) (.slice la ln lc) (.slice ta tn tc) ⟨f, e, sg, li, ls⟩) := ho
  clear ho
  have hHB := HB_0.out.alloc HB_0.out.size (.cells #[.int .i64 f, .int .i64 e, .slice sa sn sc, .slice la ln lc, .slice ta tn tc] 29)
  have hOB := OB_0.out.later (balloc w (.cells #[.int .i64 f, .int .i64 e, .slice sa sn sc, .slice la ln lc, .slice ta tn tc] 29))
  have hA := x5_new w (.int .i64 f) (.int .i64 e) (.slice sa sn sc) (.slice la ln lc) (.slice ta tn tc) 29 w.heap.size rfl
  have hz : (w.alloc (.cells #[.int .i64 f, .int .i64 e, .slice sa sn sc, .slice la ln lc, .slice ta tn tc] 29)).heap.size = w.heap.size + 1 := by simp
  obtain ⟨w1, hV1⟩ : ∃ V, w.alloc (.cells #[.int .i64 f, .int .i64 e, .slice sa sn sc, .slice la ln lc, .slice ta tn tc] 29) = V := ⟨_, rfl⟩
  rw [hV1] at hHB hOB hA hz
  have HB_1 : Hid (Below w.heap.size w w1) := hHB
  have OB_1 : Hid (OwnBd w1 lo hi (.slice sa sn sc) (.slice la ln lc) (.slice ta tn tc) ⟨f, e, sg, li, ls⟩) := hOB
  have A_1 : Hid (X5 w1 w.heap.size (.int .i64 f) (.int .i64 e) (.slice sa sn sc) (.slice la ln lc) (.slice ta tn tc)) := hA
  have z1 : w.heap.size + 1 ≤ w1.heap.size := by omega
  clear HB_0 OB_0 hHB hOB hA hz
  have hHB := HB_1.out.alloc HB_1.out.size (.cells #[.int .i64 1, .int .i64 m, .int .i64 l] 40)
  have hOB := OB_1.out.later (balloc w1 (.cells #[.int .i64 1, .int .i64 m, .int .i64 l] 40))
  have hA := A_1.out.later (balloc w1 (.cells #[.int .i64 1, .int .i64 m, .int .i64 l] 40))
  have hB := x3_new w1 (.int .i64 1) (.int .i64 m) (.int .i64 l) 40 w1.heap.size rfl
  have hz : (w1.alloc (.cells #[.int .i64 1, .int .i64 m, .int .i64 l] 40)).heap.size = w1.heap.size + 1 := by simp
  obtain ⟨w2, hV2⟩ : ∃ V, w1.alloc (.cells #[.int .i64 1, .int .i64 m, .int .i64 l] 40) = V := ⟨_, rfl⟩
  rw [hV2] at hHB hOB hA hB hz
  have HB_2 : Hid (Below w.heap.size w w2) := hHB
  have OB_2 : Hid (OwnBd w2 lo hi (.slice sa sn sc) (.slice la ln lc) (.slice ta tn tc) ⟨f, e, sg, li, ls⟩) := hOB
  have A_2 : Hid (X5 w2 w.heap.size (.int .i64 f) (.int .i64 e) (.slice sa sn sc) (.slice la ln lc) (.slice ta tn tc)) := hA
  have B_2 : Hid (X3 w2 w1.heap.size (.int .i64 1) (.int .i64 m) (.int .i64 l)) := hB
  have z2 : w1.heap.size + 1 ≤ w2.heap.size := by omega
  clear HB_1 OB_1 A_1 hHB hOB hA hB hz
  have hHB := HB_2.out.alloc HB_2.out.size (.cells #[.int .i64 0, .int .i64 0, .slice none 0 0, .slice none 0 0, .slice none 0 0] 29)
  have hOB := OB_2.out.later (balloc w2 (.cells #[.int .i64 0, .int .i64 0, .slice none 0 0, .slice none 0 0, .slice none 0 0] 29))
  have hA := A_2.out.later (balloc w2 (.cells #[.int .i64 0, .int .i64 0, .slice none 0 0, .slice none 0 0, .slice none 0 0] 29))
  have hB := B_2.out.later (balloc w2 (.cells #[.int .i64 0, .int .i64 0, .slice none 0 0, .slice none 0 0, .slice none 0 0] 29))
  have hR := x5_new w2 (.int .i64 0) (.int .i64 0) (.slice none 0 0) (.slice none 0 0) (.slice none 0 0) 29 w2.heap.size rfl
  have hz : (w2.alloc (.cells #[.int .i64 0, .int .i64 0, .slice none 0 0, .slice none 0 0, .slice none 0 0] 29)).heap.size = w2.heap.size + 1 := by simp
  obtain ⟨w3, hV3⟩ : ∃ V, w2.alloc (.cells #[.int .i64 0, .int .i64 0, .slice none 0 0, .slice none 0 0, .slice none 0 0] 29) = V := ⟨_, rfl⟩
  rw [hV3] at hHB hOB hA hB hR hz
  have HB_3 : Hid (Below w.heap.size w w3) := hHB
  have OB_3 : Hid (OwnBd w3 lo hi (.slice sa sn sc) (.slice la ln lc) (.slice ta tn tc) ⟨f, e, sg, li, ls⟩) := hOB
  have A_3 : Hid (X5 w3 w.heap.size (.int .i64 f) (.int .i64 e) (.slice sa sn sc) (.slice la ln lc) (.slice ta tn tc)) := hA
  have B_3 : Hid (X3 w3 w1.heap.size (.int .i64 1) (.int .i64 m) (.int .i64 l)) := hB
  have R_3 : Hid (X5 w3 w2.heap.size (.int .i64 0) (.int .i64 0) (.slice none 0 0) (.slice none 0 0) (.slice none 0 0)) := hR
  have z3 : w2.heap.size + 1 ≤ w3.heap.size := by omega
  clear HB_2 OB_2 A_2 B_2 hHB hOB hA hB hR hz
  go_enter Try.func54, Try.ntmps54
  obtain ⟨⟨Aq0, Aq1, Aq2, Aq3, Aq4⟩, Af⟩ := id (A_3.out)
  clear Af
  go_wp2_with fail
  clear hV1 hV2 hV3
  refine (q0 _).mono ?_
  clear Aq0 Aq1 Aq2 Aq3 Aq4
  rintro e w' ⟨rfl, hw⟩
  subst w'
  have hZF := (((((R_3.out.set0 (.int .i64 f)).set1 (.int .i64 e)).set2 (.slice sa sn sc)).set3 (.slice la ln lc)).set4 (.slice ta tn tc))
  have hBF : Below w.heap.size w (((((w3.setCell ⟨w2.heap.size, 0, none⟩ (.int .i64 f)).setCell ⟨w2.heap.size, 1, none⟩ (.int .i64 e)).setCell ⟨w2.heap.size, 2, none⟩ (.slice sa sn sc)).setCell ⟨w2.heap.size, 3, none⟩ (.slice la ln lc)).setCell ⟨w2.heap.size, 4, none⟩ (.slice ta tn tc)) := (((((HB_3.out.setCell (by show w.heap.size ≤ w2.heap.size; omega) _).setCell (by show w.heap.size ≤ w2.heap.size; omega) _).setCell (by show w.heap.size ≤ w2.heap.size; omega) _).setCell (by show w.heap.size ≤ w2.heap.size; omega) _).setCell (by show w.heap.size ≤ w2.heap.size; omega) _)
  have hOF := (((((OB_3.out.cell (r := w2.heap.size) (j := 0) (by omega) (.int .i64 f)).cell (r := w2.heap.size) (j := 1) (by omega) (.int .i64 e)).cell (r := w2.heap.size) (j := 2) (by omega) (.slice sa sn sc)).cell (r := w2.heap.size) (j := 3) (by omega) (.slice la ln lc)).cell (r := w2.heap.size) (j := 4) (by omega) (.slice ta tn tc))
  have hszF : (((((w3.setCell ⟨w2.heap.size, 0, none⟩ (.int .i64 f)).setCell ⟨w2.heap.size, 1, none⟩ (.int .i64 e)).setCell ⟨w2.heap.size, 2, none⟩ (.slice sa sn sc)).setCell ⟨w2.heap.size, 3, none⟩ (.slice la ln lc)).setCell ⟨w2.heap.size, 4, none⟩ (.slice ta tn tc)).heap.size = w3.heap.size := by simp
  obtain ⟨⟨y0, y1, y2, y3, y4⟩, yf⟩ := id (R_3.out)
  have yf0 := yf 0
  have yf1 := yf 1
  have yf2 := yf 2
  have yf3 := yf 3
  have yf4 := yf 4
  obtain ⟨FW, hFW⟩ : ∃ F, (((((w3.setCell ⟨w2.heap.size, 0, none⟩ (.int .i64 f)).setCell ⟨w2.heap.size, 1, none⟩ (.int .i64 e)).setCell ⟨w2.heap.size, 2, none⟩ (.slice sa sn sc)).setCell ⟨w2.heap.size, 3, none⟩ (.slice la ln lc)).setCell ⟨w2.heap.size, 4, none⟩ (.slice ta tn tc)) = F := ⟨_, rfl⟩
  rw [hFW] at hZF hBF hszF hOF
  obtain ⟨⟨t0, t1, t2, t3, t4⟩, _⟩ := hZF
  have HBF : Hid (Below w.heap.size w FW) := hBF
  have HSF : Hid (FW.heap.size = w3.heap.size) := hszF
  have HOF := hid_of hOF
  clear hBF yf hszF hOF
  obtain ⟨⟨Aq0, Aq1, Aq2, Aq3, Aq4⟩, Af⟩ := id (A_3.out)
  clear Af
  obtain ⟨⟨Bq0, Bq1, Bq2⟩, Bf⟩ := id (B_3.out)
  clear Bf
  go_wp2
  refine bodyPost_ret (v := .tuple #[.agg #[.int .i64 f, .int .i64 e, .slice sa sn sc, .slice la ln lc, .slice ta tn tc], .bool false]) (by simp [results, Try.results54, go_sem, t0, t1, t2, t3, t4]; try rfl) rfl ?_
  have h9 := HSF.out
  refine ⟨sa, sc, la, lc, ta, tc, ?_, ?_, below_toP HBF.out⟩
  · simp only [HS.out, HL.out, HT.out]
  · simp only [HS.out, HL.out, HT.out]
    exact HOF.out.mono (Nat.le_refl _) (by omega)

set_option maxHeartbeats 4000000 in
theorem l13Step_s1 (f e : Int) (sa : Option Addr) (sn sc : Nat) (la : Option Addr) (ln lc : Nat) (ta : Option Addr) (tn tc : Nat) (sg : List (List Int)) (li ls : List Int) (k m l : Int) (lo hi : Nat) (w : World) (hg : goodBd ⟨f, e, sg, li, ls⟩ = true) (ho : OwnBd w lo hi (.slice sa sn sc) (.slice la ln lc) (.slice ta tn tc) ⟨f, e, sg, li, ls⟩) (hhi : hi ≤ w.heap.size) (hlo : lo ≤ hi) (hk : k = 2) (hq3 : memB f m = false) :
    Calls Try.prog 54 #[.agg #[.int .i64 f, .int .i64 e, .slice sa sn sc, .slice la ln lc, .slice ta tn tc], .agg #[.int .i64 k, .int .i64 m, .int .i64 l]] w fun r w' => StOk r w w' lo hi ⟨f, e, sg, li, ls⟩ false := by
  have G := good_is hg
  have HS : Hid (sg.length = sn) := ho.rd.sl
  have HL : Hid (li.length = ln) := ho.rd.ll
  have HT : Hid (ls.length = tn) := ho.rd.tl
  have hsn : sn ≤ 200 := by rw [← HS.out]; exact (sgsB_all G.sgOk).1
  have hln : ln ≤ 2 := by have := G.ln; have := G.f2; rw [HL.out] at *; omega
  have htn : tn ≤ 10 := by rw [← HT.out]; exact G.tn
  have HG : Hid (sgsB f sg = true) := G.sgOk
  obtain ⟨M, hM⟩ : ∃ M, 3 * f + 1 = M := ⟨_, rfl⟩
  have hM1 : 1 ≤ M := by have := G.f0; omega
  have hM7 : M ≤ 7 := by have := G.f2; omega
  have q0 : ∀ wx, Calls Try.prog 31 #[.int .i64 f] wx fun e w' => e = .returned (.tuple #[.int .i64 M, .int .i64 (2 * f + 1), .bool true]) ∧ w' = wx := fun wx => by
    have h := specQuo_c f wx
    have h2 : inB f 0 2 = true := inB_iff.2 ⟨G.f0, G.f2⟩
    simp only [quoF, h2, if_true, hM] at h
    exact h
  have q3 : ∀ wx, Calls Try.prog 73 #[.int .i64 m, .int .i64 0, .int .i64 (M - 1)] wx fun e w' => e = .returned (.bool false) ∧ w' = wx := fun wx => by
    have h := l1In_c m 0 (M - 1) wx
    rw [show M - 1 = 3 * f by omega, show decide (0 ≤ m ∧ m ≤ 3 * f) = false from hq3, show 3 * f = M - 1 by omega] at h
    exact h
  subst hk
  clear G hg hM hq3 
  have HB_0 : Hid (Below w.heap.size w w) := Below.refl _ _
  have OB_0 : Hid (OwnBd w lo hi (.slice sa sn sc) (.slice la ln lc) (.slice ta tn tc) ⟨f, e, sg, li, ls⟩) := ho
  clear ho
  have hHB := HB_0.out.alloc HB_0.out.size (.cells #[.int .i64 f, .int .i64 e, .slice sa sn sc, .slice la ln lc, .slice ta tn tc] 29)
  have hOB := OB_0.out.later (balloc w (.cells #[.int .i64 f, .int .i64 e, .slice sa sn sc, .slice la ln lc, .slice ta tn tc] 29))
  have hA := x5_new w (.int .i64 f) (.int .i64 e) (.slice sa sn sc) (.slice la ln lc) (.slice ta tn tc) 29 w.heap.size rfl
  have hz : (w.alloc (.cells #[.int .i64 f, .int .i64 e, .slice sa sn sc, .slice la ln lc, .slice ta tn tc] 29)).heap.size = w.heap.size + 1 := by simp
  obtain ⟨w1, hV1⟩ : ∃ V, w.alloc (.cells #[.int .i64 f, .int .i64 e, .slice sa sn sc, .slice la ln lc, .slice ta tn tc] 29) = V := ⟨_, rfl⟩
  rw [hV1] at hHB hOB hA hz
  have HB_1 : Hid (Below w.heap.size w w1) := hHB
  have OB_1 : Hid (OwnBd w1 lo hi (.slice sa sn sc) (.slice la ln lc) (.slice ta tn tc) ⟨f, e, sg, li, ls⟩) := hOB
  have A_1 : Hid (X5 w1 w.heap.size (.int .i64 f) (.int .i64 e) (.slice sa sn sc) (.slice la ln lc) (.slice ta tn tc)) := hA
  have z1 : w.heap.size + 1 ≤ w1.heap.size := by omega
  clear HB_0 OB_0 hHB hOB hA hz
  have hHB := HB_1.out.alloc HB_1.out.size (.cells #[.int .i64 2, .int .i64 m, .int .i64 l] 40)
  have hOB := OB_1.out.later (balloc w1 (.cells #[.int .i64 2, .int .i64 m, .int .i64 l] 40))
  have hA := A_1.out.later (balloc w1 (.cells #[.int .i64 2, .int .i64 m, .int .i64 l] 40))
  have hB := x3_new w1 (.int .i64 2) (.int .i64 m) (.int .i64 l) 40 w1.heap.size rfl
  have hz : (w1.alloc (.cells #[.int .i64 2, .int .i64 m, .int .i64 l] 40)).heap.size = w1.heap.size + 1 := by simp
  obtain ⟨w2, hV2⟩ : ∃ V, w1.alloc (.cells #[.int .i64 2, .int .i64 m, .int .i64 l] 40) = V := ⟨_, rfl⟩
  rw [hV2] at hHB hOB hA hB hz
  have HB_2 : Hid (Below w.heap.size w w2) := hHB
  have OB_2 : Hid (OwnBd w2 lo hi (.slice sa sn sc) (.slice la ln lc) (.slice ta tn tc) ⟨f, e, sg, li, ls⟩) := hOB
  have A_2 : Hid (X5 w2 w.heap.size (.int .i64 f) (.int .i64 e) (.slice sa sn sc) (.slice la ln lc) (.slice ta tn tc)) := hA
  have B_2 : Hid (X3 w2 w1.heap.size (.int .i64 2) (.int .i64 m) (.int .i64 l)) := hB
  have z2 : w1.heap.size + 1 ≤ w2.heap.size := by omega
  clear HB_1 OB_1 A_1 hHB hOB hA hB hz
  have hHB := HB_2.out.alloc HB_2.out.size (.cells #[.int .i64 0, .int .i64 0, .slice none 0 0, .slice none 0 0, .slice none 0 0] 29)
  have hOB := OB_2.out.later (balloc w2 (.cells #[.int .i64 0, .int .i64 0, .slice none 0 0, .slice none 0 0, .slice none 0 0] 29))
  have hA := A_2.out.later (balloc w2 (.cells #[.int .i64 0, .int .i64 0, .slice none 0 0, .slice none 0 0, .slice none 0 0] 29))
  have hB := B_2.out.later (balloc w2 (.cells #[.int .i64 0, .int .i64 0, .slice none 0 0, .slice none 0 0, .slice none 0 0] 29))
  have hR := x5_new w2 (.int .i64 0) (.int .i64 0) (.slice none 0 0) (.slice none 0 0) (.slice none 0 0) 29 w2.heap.size rfl
  have hz : (w2.alloc (.cells #[.int .i64 0, .int .i64 0, .slice none 0 0, .slice none 0 0, .slice none 0 0] 29)).heap.size = w2.heap.size + 1 := by simp
  obtain ⟨w3, hV3⟩ : ∃ V, w2.alloc (.cells #[.int .i64 0, .int .i64 0, .slice none 0 0, .slice none 0 0, .slice none 0 0] 29) = V := ⟨_, rfl⟩
  rw [hV3] at hHB hOB hA hB hR hz
  have HB_3 : Hid (Below w.heap.size w w3) := hHB
  have OB_3 : Hid (OwnBd w3 lo hi (.slice sa sn sc) (.slice la ln lc) (.slice ta tn tc) ⟨f, e, sg, li, ls⟩) := hOB
  have A_3 : Hid (X5 w3 w.heap.size (.int .i64 f) (.int .i64 e) (.slice sa sn sc) (.slice la ln lc) (.slice ta tn tc)) := hA
  have B_3 : Hid (X3 w3 w1.heap.size (.int .i64 2) (.int .i64 m) (.int .i64 l)) := hB
  have R_3 : Hid (X5 w3 w2.heap.size (.int .i64 0) (.int .i64 0) (.slice none 0 0) (.slice none 0 0) (.slice none 0 0)) := hR
  have z3 : w2.heap.size + 1 ≤ w3.heap.size := by omega
  clear HB_2 OB_2 A_2 B_2 hHB hOB hA hB hR hz
  go_enter Try.func54, Try.ntmps54
  obtain ⟨⟨Aq0, Aq1, Aq2, Aq3, Aq4⟩, Af⟩ := id (A_3.out)
  clear Af
  go_wp2_with fail
  clear hV1 hV2 hV3
  refine (q0 _).mono ?_
  clear Aq0 Aq1 Aq2 Aq3 Aq4
  rintro e w' ⟨rfl, hw⟩
  subst w'
  obtain ⟨⟨Aq0, Aq1, Aq2, Aq3, Aq4⟩, Af⟩ := id (A_3.out)
  clear Af
  obtain ⟨⟨Bq0, Bq1, Bq2⟩, Bf⟩ := id (B_3.out)
  clear Bf
  go_wp2_with fail
  refine (q3 _).mono ?_
  clear Aq0 Aq1 Aq2 Aq3 Aq4
  clear Bq0 Bq1 Bq2
  rintro e w' ⟨rfl, hw⟩
  subst w'
  have hZF := (((((R_3.out.set0 (.int .i64 f)).set1 (.int .i64 e)).set2 (.slice sa sn sc)).set3 (.slice la ln lc)).set4 (.slice ta tn tc))
  have hBF : Below w.heap.size w (((((w3.setCell ⟨w2.heap.size, 0, none⟩ (.int .i64 f)).setCell ⟨w2.heap.size, 1, none⟩ (.int .i64 e)).setCell ⟨w2.heap.size, 2, none⟩ (.slice sa sn sc)).setCell ⟨w2.heap.size, 3, none⟩ (.slice la ln lc)).setCell ⟨w2.heap.size, 4, none⟩ (.slice ta tn tc)) := (((((HB_3.out.setCell (by show w.heap.size ≤ w2.heap.size; omega) _).setCell (by show w.heap.size ≤ w2.heap.size; omega) _).setCell (by show w.heap.size ≤ w2.heap.size; omega) _).setCell (by show w.heap.size ≤ w2.heap.size; omega) _).setCell (by show w.heap.size ≤ w2.heap.size; omega) _)
  have hOF := (((((OB_3.out.cell (r := w2.heap.size) (j := 0) (by omega) (.int .i64 f)).cell (r := w2.heap.size) (j := 1) (by omega) (.int .i64 e)).cell (r := w2.heap.size) (j := 2) (by omega) (.slice sa sn sc)).cell (r := w2.heap.size) (j := 3) (by omega) (.slice la ln lc)).cell (r := w2.heap.size) (j := 4) (by omega) (.slice ta tn tc))
  have hszF : (((((w3.setCell ⟨w2.heap.size, 0, none⟩ (.int .i64 f)).setCell ⟨w2.heap.size, 1, none⟩ (.int .i64 e)).setCell ⟨w2.heap.size, 2, none⟩ (.slice sa sn sc)).setCell ⟨w2.heap.size, 3, none⟩ (.slice la ln lc)).setCell ⟨w2.heap.size, 4, none⟩ (.slice ta tn tc)).heap.size = w3.heap.size := by simp
  obtain ⟨⟨y0, y1, y2, y3, y4⟩, yf⟩ := id (R_3.out)
  have yf0 := yf 0
  have yf1 := yf 1
  have yf2 := yf 2
  have yf3 := yf 3
  have yf4 := yf 4
  obtain ⟨FW, hFW⟩ : ∃ F, (((((w3.setCell ⟨w2.heap.size, 0, none⟩ (.int .i64 f)).setCell ⟨w2.heap.size, 1, none⟩ (.int .i64 e)).setCell ⟨w2.heap.size, 2, none⟩ (.slice sa sn sc)).setCell ⟨w2.heap.size, 3, none⟩ (.slice la ln lc)).setCell ⟨w2.heap.size, 4, none⟩ (.slice ta tn tc)) = F := ⟨_, rfl⟩
  rw [hFW] at hZF hBF hszF hOF
  obtain ⟨⟨t0, t1, t2, t3, t4⟩, _⟩ := hZF
  have HBF : Hid (Below w.heap.size w FW) := hBF
  have HSF : Hid (FW.heap.size = w3.heap.size) := hszF
  have HOF := hid_of hOF
  clear hBF yf hszF hOF
  obtain ⟨⟨Aq0, Aq1, Aq2, Aq3, Aq4⟩, Af⟩ := id (A_3.out)
  clear Af
  obtain ⟨⟨Bq0, Bq1, Bq2⟩, Bf⟩ := id (B_3.out)
  clear Bf
  go_wp2
  refine bodyPost_ret (v := .tuple #[.agg #[.int .i64 f, .int .i64 e, .slice sa sn sc, .slice la ln lc, .slice ta tn tc], .bool false]) (by simp [results, Try.results54, go_sem, t0, t1, t2, t3, t4]; try rfl) rfl ?_
  have h9 := HSF.out
  refine ⟨sa, sc, la, lc, ta, tc, ?_, ?_, below_toP HBF.out⟩
  · simp only [HS.out, HL.out, HT.out]
  · simp only [HS.out, HL.out, HT.out]
    exact HOF.out.mono (Nat.le_refl _) (by omega)

set_option maxHeartbeats 4000000 in
theorem l13Step_s2 (f e : Int) (sa : Option Addr) (sn sc : Nat) (la : Option Addr) (ln lc : Nat) (ta : Option Addr) (tn tc : Nat) (sg : List (List Int)) (li ls : List Int) (k m l : Int) (lo hi : Nat) (w : World) (hg : goodBd ⟨f, e, sg, li, ls⟩ = true) (ho : OwnBd w lo hi (.slice sa sn sc) (.slice la ln lc) (.slice ta tn tc) ⟨f, e, sg, li, ls⟩) (hhi : hi ≤ w.heap.size) (hlo : lo ≤ hi) (hk : k = 2) (hq3 : memB f m = true) (hq2 : decide (l ∈ ls) = false) :
    Calls Try.prog 54 #[.agg #[.int .i64 f, .int .i64 e, .slice sa sn sc, .slice la ln lc, .slice ta tn tc], .agg #[.int .i64 k, .int .i64 m, .int .i64 l]] w fun r w' => StOk r w w' lo hi ⟨f, e, sg, li, ls⟩ false := by
  have G := good_is hg
  have HS : Hid (sg.length = sn) := ho.rd.sl
  have HL : Hid (li.length = ln) := ho.rd.ll
  have HT : Hid (ls.length = tn) := ho.rd.tl
  have hsn : sn ≤ 200 := by rw [← HS.out]; exact (sgsB_all G.sgOk).1
  have hln : ln ≤ 2 := by have := G.ln; have := G.f2; rw [HL.out] at *; omega
  have htn : tn ≤ 10 := by rw [← HT.out]; exact G.tn
  have HG : Hid (sgsB f sg = true) := G.sgOk
  obtain ⟨M, hM⟩ : ∃ M, 3 * f + 1 = M := ⟨_, rfl⟩
  have hM1 : 1 ≤ M := by have := G.f0; omega
  have hM7 : M ≤ 7 := by have := G.f2; omega
  have q0 : ∀ wx, Calls Try.prog 31 #[.int .i64 f] wx fun e w' => e = .returned (.tuple #[.int .i64 M, .int .i64 (2 * f + 1), .bool true]) ∧ w' = wx := fun wx => by
    have h := specQuo_c f wx
    have h2 : inB f 0 2 = true := inB_iff.2 ⟨G.f0, G.f2⟩
    simp only [quoF, h2, if_true, hM] at h
    exact h
  have q3 : ∀ wx, Calls Try.prog 73 #[.int .i64 m, .int .i64 0, .int .i64 (M - 1)] wx fun e w' => e = .returned (.bool true) ∧ w' = wx := fun wx => by
    have h := l1In_c m 0 (M - 1) wx
    rw [show M - 1 = 3 * f by omega, show decide (0 ≤ m ∧ m ≤ 3 * f) = true from hq3, show 3 * f = M - 1 by omega] at h
    exact h
  have q2 := fun wx (h : Rd wx ta ls) => l1Has_c ta tn tc l ls wx HT.out (by omega) h
  rw [hq2] at q2
  subst hk
  clear G hg hM hq3 hq2 
  have HB_0 : Hid (Below w.heap.size w w) := Below.refl _ _
  have OB_0 : Hid (OwnBd w lo hi (.slice sa sn sc) (.slice la ln lc) (.slice ta tn tc) ⟨f, e, sg, li, ls⟩) := ho
  clear ho
  have hHB := HB_0.out.alloc HB_0.out.size (.cells #[.int .i64 f, .int .i64 e, .slice sa sn sc, .slice la ln lc, .slice ta tn tc] 29)
  have hOB := OB_0.out.later (balloc w (.cells #[.int .i64 f, .int .i64 e, .slice sa sn sc, .slice la ln lc, .slice ta tn tc] 29))
  have hA := x5_new w (.int .i64 f) (.int .i64 e) (.slice sa sn sc) (.slice la ln lc) (.slice ta tn tc) 29 w.heap.size rfl
  have hz : (w.alloc (.cells #[.int .i64 f, .int .i64 e, .slice sa sn sc, .slice la ln lc, .slice ta tn tc] 29)).heap.size = w.heap.size + 1 := by simp
  obtain ⟨w1, hV1⟩ : ∃ V, w.alloc (.cells #[.int .i64 f, .int .i64 e, .slice sa sn sc, .slice la ln lc, .slice ta tn tc] 29) = V := ⟨_, rfl⟩
  rw [hV1] at hHB hOB hA hz
  have HB_1 : Hid (Below w.heap.size w w1) := hHB
  have OB_1 : Hid (OwnBd w1 lo hi (.slice sa sn sc) (.slice la ln lc) (.slice ta tn tc) ⟨f, e, sg, li, ls⟩) := hOB
  have A_1 : Hid (X5 w1 w.heap.size (.int .i64 f) (.int .i64 e) (.slice sa sn sc) (.slice la ln lc) (.slice ta tn tc)) := hA
  have z1 : w.heap.size + 1 ≤ w1.heap.size := by omega
  clear HB_0 OB_0 hHB hOB hA hz
  have hHB := HB_1.out.alloc HB_1.out.size (.cells #[.int .i64 2, .int .i64 m, .int .i64 l] 40)
  have hOB := OB_1.out.later (balloc w1 (.cells #[.int .i64 2, .int .i64 m, .int .i64 l] 40))
  have hA := A_1.out.later (balloc w1 (.cells #[.int .i64 2, .int .i64 m, .int .i64 l] 40))
  have hB := x3_new w1 (.int .i64 2) (.int .i64 m) (.int .i64 l) 40 w1.heap.size rfl
  have hz : (w1.alloc (.cells #[.int .i64 2, .int .i64 m, .int .i64 l] 40)).heap.size = w1.heap.size + 1 := by simp
  obtain ⟨w2, hV2⟩ : ∃ V, w1.alloc (.cells #[.int .i64 2, .int .i64 m, .int .i64 l] 40) = V := ⟨_, rfl⟩
  rw [hV2] at hHB hOB hA hB hz
  have HB_2 : Hid (Below w.heap.size w w2) := hHB
  have OB_2 : Hid (OwnBd w2 lo hi (.slice sa sn sc) (.slice la ln lc) (.slice ta tn tc) ⟨f, e, sg, li, ls⟩) := hOB
  have A_2 : Hid (X5 w2 w.heap.size (.int .i64 f) (.int .i64 e) (.slice sa sn sc) (.slice la ln lc) (.slice ta tn tc)) := hA
  have B_2 : Hid (X3 w2 w1.heap.size (.int .i64 2) (.int .i64 m) (.int .i64 l)) := hB
  have z2 : w1.heap.size + 1 ≤ w2.heap.size := by omega
  clear HB_1 OB_1 A_1 hHB hOB hA hB hz
  have hHB := HB_2.out.alloc HB_2.out.size (.cells #[.int .i64 0, .int .i64 0, .slice none 0 0, .slice none 0 0, .slice none 0 0] 29)
  have hOB := OB_2.out.later (balloc w2 (.cells #[.int .i64 0, .int .i64 0, .slice none 0 0, .slice none 0 0, .slice none 0 0] 29))
  have hA := A_2.out.later (balloc w2 (.cells #[.int .i64 0, .int .i64 0, .slice none 0 0, .slice none 0 0, .slice none 0 0] 29))
  have hB := B_2.out.later (balloc w2 (.cells #[.int .i64 0, .int .i64 0, .slice none 0 0, .slice none 0 0, .slice none 0 0] 29))
  have hR := x5_new w2 (.int .i64 0) (.int .i64 0) (.slice none 0 0) (.slice none 0 0) (.slice none 0 0) 29 w2.heap.size rfl
  have hz : (w2.alloc (.cells #[.int .i64 0, .int .i64 0, .slice none 0 0, .slice none 0 0, .slice none 0 0] 29)).heap.size = w2.heap.size + 1 := by simp
  obtain ⟨w3, hV3⟩ : ∃ V, w2.alloc (.cells #[.int .i64 0, .int .i64 0, .slice none 0 0, .slice none 0 0, .slice none 0 0] 29) = V := ⟨_, rfl⟩
  rw [hV3] at hHB hOB hA hB hR hz
  have HB_3 : Hid (Below w.heap.size w w3) := hHB
  have OB_3 : Hid (OwnBd w3 lo hi (.slice sa sn sc) (.slice la ln lc) (.slice ta tn tc) ⟨f, e, sg, li, ls⟩) := hOB
  have A_3 : Hid (X5 w3 w.heap.size (.int .i64 f) (.int .i64 e) (.slice sa sn sc) (.slice la ln lc) (.slice ta tn tc)) := hA
  have B_3 : Hid (X3 w3 w1.heap.size (.int .i64 2) (.int .i64 m) (.int .i64 l)) := hB
  have R_3 : Hid (X5 w3 w2.heap.size (.int .i64 0) (.int .i64 0) (.slice none 0 0) (.slice none 0 0) (.slice none 0 0)) := hR
  have z3 : w2.heap.size + 1 ≤ w3.heap.size := by omega
  clear HB_2 OB_2 A_2 B_2 hHB hOB hA hB hR hz
  go_enter Try.func54, Try.ntmps54
  obtain ⟨⟨Aq0, Aq1, Aq2, Aq3, Aq4⟩, Af⟩ := id (A_3.out)
  clear Af
  go_wp2_with fail
  clear hV1 hV2 hV3
  refine (q0 _).mono ?_
  clear Aq0 Aq1 Aq2 Aq3 Aq4
  rintro e w' ⟨rfl, hw⟩
  subst w'
  obtain ⟨⟨Aq0, Aq1, Aq2, Aq3, Aq4⟩, Af⟩ := id (A_3.out)
  clear Af
  obtain ⟨⟨Bq0, Bq1, Bq2⟩, Bf⟩ := id (B_3.out)
  clear Bf
  go_wp2_with fail
  refine (q3 _).mono ?_
  clear Aq0 Aq1 Aq2 Aq3 Aq4
  clear Bq0 Bq1 Bq2
  rintro e w' ⟨rfl, hw⟩
  subst w'
  obtain ⟨⟨Aq0, Aq1, Aq2, Aq3, Aq4⟩, Af⟩ := id (A_3.out)
  clear Af
  obtain ⟨⟨Bq0, Bq1, Bq2⟩, Bf⟩ := id (B_3.out)
  clear Bf
  go_wp2_with fail
  refine (q2 _ OB_3.out.rd.t).mono ?_
  clear Aq0 Aq1 Aq2 Aq3 Aq4
  clear Bq0 Bq1 Bq2
  rintro e w' ⟨rfl, hw⟩
  subst w'
  have hZF := (((((R_3.out.set0 (.int .i64 f)).set1 (.int .i64 e)).set2 (.slice sa sn sc)).set3 (.slice la ln lc)).set4 (.slice ta tn tc))
  have hBF : Below w.heap.size w (((((w3.setCell ⟨w2.heap.size, 0, none⟩ (.int .i64 f)).setCell ⟨w2.heap.size, 1, none⟩ (.int .i64 e)).setCell ⟨w2.heap.size, 2, none⟩ (.slice sa sn sc)).setCell ⟨w2.heap.size, 3, none⟩ (.slice la ln lc)).setCell ⟨w2.heap.size, 4, none⟩ (.slice ta tn tc)) := (((((HB_3.out.setCell (by show w.heap.size ≤ w2.heap.size; omega) _).setCell (by show w.heap.size ≤ w2.heap.size; omega) _).setCell (by show w.heap.size ≤ w2.heap.size; omega) _).setCell (by show w.heap.size ≤ w2.heap.size; omega) _).setCell (by show w.heap.size ≤ w2.heap.size; omega) _)
  have hOF := (((((OB_3.out.cell (r := w2.heap.size) (j := 0) (by omega) (.int .i64 f)).cell (r := w2.heap.size) (j := 1) (by omega) (.int .i64 e)).cell (r := w2.heap.size) (j := 2) (by omega) (.slice sa sn sc)).cell (r := w2.heap.size) (j := 3) (by omega) (.slice la ln lc)).cell (r := w2.heap.size) (j := 4) (by omega) (.slice ta tn tc))
  have hszF : (((((w3.setCell ⟨w2.heap.size, 0, none⟩ (.int .i64 f)).setCell ⟨w2.heap.size, 1, none⟩ (.int .i64 e)).setCell ⟨w2.heap.size, 2, none⟩ (.slice sa sn sc)).setCell ⟨w2.heap.size, 3, none⟩ (.slice la ln lc)).setCell ⟨w2.heap.size, 4, none⟩ (.slice ta tn tc)).heap.size = w3.heap.size := by simp
  obtain ⟨⟨y0, y1, y2, y3, y4⟩, yf⟩ := id (R_3.out)
  have yf0 := yf 0
  have yf1 := yf 1
  have yf2 := yf 2
  have yf3 := yf 3
  have yf4 := yf 4
  obtain ⟨FW, hFW⟩ : ∃ F, (((((w3.setCell ⟨w2.heap.size, 0, none⟩ (.int .i64 f)).setCell ⟨w2.heap.size, 1, none⟩ (.int .i64 e)).setCell ⟨w2.heap.size, 2, none⟩ (.slice sa sn sc)).setCell ⟨w2.heap.size, 3, none⟩ (.slice la ln lc)).setCell ⟨w2.heap.size, 4, none⟩ (.slice ta tn tc)) = F := ⟨_, rfl⟩
  rw [hFW] at hZF hBF hszF hOF
  obtain ⟨⟨t0, t1, t2, t3, t4⟩, _⟩ := hZF
  have HBF : Hid (Below w.heap.size w FW) := hBF
  have HSF : Hid (FW.heap.size = w3.heap.size) := hszF
  have HOF := hid_of hOF
  clear hBF yf hszF hOF
  obtain ⟨⟨Aq0, Aq1, Aq2, Aq3, Aq4⟩, Af⟩ := id (A_3.out)
  clear Af
  obtain ⟨⟨Bq0, Bq1, Bq2⟩, Bf⟩ := id (B_3.out)
  clear Bf
  go_wp2
  refine bodyPost_ret (v := .tuple #[.agg #[.int .i64 f, .int .i64 e, .slice sa sn sc, .slice la ln lc, .slice ta tn tc], .bool false]) (by simp [results, Try.results54, go_sem, t0, t1, t2, t3, t4]; try rfl) rfl ?_
  have h9 := HSF.out
  refine ⟨sa, sc, la, lc, ta, tc, ?_, ?_, below_toP HBF.out⟩
  · simp only [HS.out, HL.out, HT.out]
  · simp only [HS.out, HL.out, HT.out]
    exact HOF.out.mono (Nat.le_refl _) (by omega)

set_option maxHeartbeats 4000000 in
theorem l13Step_s3 (f e : Int) (sa : Option Addr) (sn sc : Nat) (la : Option Addr) (ln lc : Nat) (ta : Option Addr) (tn tc : Nat) (sg : List (List Int)) (li ls : List Int) (k m l : Int) (lo hi : Nat) (w : World) (hg : goodBd ⟨f, e, sg, li, ls⟩ = true) (ho : OwnBd w lo hi (.slice sa sn sc) (.slice la ln lc) (.slice ta tn tc) ⟨f, e, sg, li, ls⟩) (hhi : hi ≤ w.heap.size) (hlo : lo ≤ hi) (hk : k = 2) (h2 : 200 ≤ sg.length) (hq3 : memB f m = true) (hq2 : decide (l ∈ ls) = true) :
    Calls Try.prog 54 #[.agg #[.int .i64 f, .int .i64 e, .slice sa sn sc, .slice la ln lc, .slice ta tn tc], .agg #[.int .i64 k, .int .i64 m, .int .i64 l]] w fun r w' => StOk r w w' lo hi ⟨f, e, sg, li, ls⟩ false := by
  have G := good_is hg
  have HS : Hid (sg.length = sn) := ho.rd.sl
  have HL : Hid (li.length = ln) := ho.rd.ll
  have HT : Hid (ls.length = tn) := ho.rd.tl
  have hsn : sn ≤ 200 := by rw [← HS.out]; exact (sgsB_all G.sgOk).1
  have hln : ln ≤ 2 := by have := G.ln; have := G.f2; rw [HL.out] at *; omega
  have htn : tn ≤ 10 := by rw [← HT.out]; exact G.tn
  have HG : Hid (sgsB f sg = true) := G.sgOk
  obtain ⟨M, hM⟩ : ∃ M, 3 * f + 1 = M := ⟨_, rfl⟩
  have hM1 : 1 ≤ M := by have := G.f0; omega
  have hM7 : M ≤ 7 := by have := G.f2; omega
  have q0 : ∀ wx, Calls Try.prog 31 #[.int .i64 f] wx fun e w' => e = .returned (.tuple #[.int .i64 M, .int .i64 (2 * f + 1), .bool true]) ∧ w' = wx := fun wx => by
    have h := specQuo_c f wx
    have h2 : inB f 0 2 = true := inB_iff.2 ⟨G.f0, G.f2⟩
    simp only [quoF, h2, if_true, hM] at h
    exact h
  have q3 : ∀ wx, Calls Try.prog 73 #[.int .i64 m, .int .i64 0, .int .i64 (M - 1)] wx fun e w' => e = .returned (.bool true) ∧ w' = wx := fun wx => by
    have h := l1In_c m 0 (M - 1) wx
    rw [show M - 1 = 3 * f by omega, show decide (0 ≤ m ∧ m ≤ 3 * f) = true from hq3, show 3 * f = M - 1 by omega] at h
    exact h
  have q2 := fun wx (h : Rd wx ta ls) => l1Has_c ta tn tc l ls wx HT.out (by omega) h
  rw [hq2] at q2
  subst hk
  have h3 : ¬ (sn : Int) < 200 := by rw [HS.out] at h2; omega
  clear G hg hM hq3 hq2 h2
  have HB_0 : Hid (Below w.heap.size w w) := Below.refl _ _
  have OB_0 : Hid (OwnBd w lo hi (.slice sa sn sc) (.slice la ln lc) (.slice ta tn tc) ⟨f, e, sg, li, ls⟩) := ho
  clear ho
  have hHB := HB_0.out.alloc HB_0.out.size (.cells #[.int .i64 f, .int .i64 e, .slice sa sn sc, .slice la ln lc, .slice ta tn tc] 29)
  have hOB := OB_0.out.later (balloc w (.cells #[.int .i64 f, .int .i64 e, .slice sa sn sc, .slice la ln lc, .slice ta tn tc] 29))
  have hA := x5_new w (.int .i64 f) (.int .i64 e) (.slice sa sn sc) (.slice la ln lc) (.slice ta tn tc) 29 w.heap.size rfl
  have hz : (w.alloc (.cells #[.int .i64 f, .int .i64 e, .slice sa sn sc, .slice la ln lc, .slice ta tn tc] 29)).heap.size = w.heap.size + 1 := by simp
  obtain ⟨w1, hV1⟩ : ∃ V, w.alloc (.cells #[.int .i64 f, .int .i64 e, .slice sa sn sc, .slice la ln lc, .slice ta tn tc] 29) = V := ⟨_, rfl⟩
  rw [hV1] at hHB hOB hA hz
  have HB_1 : Hid (Below w.heap.size w w1) := hHB
  have OB_1 : Hid (OwnBd w1 lo hi (.slice sa sn sc) (.slice la ln lc) (.slice ta tn tc) ⟨f, e, sg, li, ls⟩) := hOB
  have A_1 : Hid (X5 w1 w.heap.size (.int .i64 f) (.int .i64 e) (.slice sa sn sc) (.slice la ln lc) (.slice ta tn tc)) := hA
  have z1 : w.heap.size + 1 ≤ w1.heap.size := by omega
  clear HB_0 OB_0 hHB hOB hA hz
  have hHB := HB_1.out.alloc HB_1.out.size (.cells #[.int .i64 2, .int .i64 m, .int .i64 l] 40)
  have hOB := OB_1.out.later (balloc w1 (.cells #[.int .i64 2, .int .i64 m, .int .i64 l] 40))
  have hA := A_1.out.later (balloc w1 (.cells #[.int .i64 2, .int .i64 m, .int .i64 l] 40))
  have hB := x3_new w1 (.int .i64 2) (.int .i64 m) (.int .i64 l) 40 w1.heap.size rfl
  have hz : (w1.alloc (.cells #[.int .i64 2, .int .i64 m, .int .i64 l] 40)).heap.size = w1.heap.size + 1 := by simp
  obtain ⟨w2, hV2⟩ : ∃ V, w1.alloc (.cells #[.int .i64 2, .int .i64 m, .int .i64 l] 40) = V := ⟨_, rfl⟩
  rw [hV2] at hHB hOB hA hB hz
  have HB_2 : Hid (Below w.heap.size w w2) := hHB
  have OB_2 : Hid (OwnBd w2 lo hi (.slice sa sn sc) (.slice la ln lc) (.slice ta tn tc) ⟨f, e, sg, li, ls⟩) := hOB
  have A_2 : Hid (X5 w2 w.heap.size (.int .i64 f) (.int .i64 e) (.slice sa sn sc) (.slice la ln lc) (.slice ta tn tc)) := hA
  have B_2 : Hid (X3 w2 w1.heap.size (.int .i64 2) (.int .i64 m) (.int .i64 l)) := hB
  have z2 : w1.heap.size + 1 ≤ w2.heap.size := by omega
  clear HB_1 OB_1 A_1 hHB hOB hA hB hz
  have hHB := HB_2.out.alloc HB_2.out.size (.cells #[.int .i64 0, .int .i64 0, .slice none 0 0, .slice none 0 0, .slice none 0 0] 29)
  have hOB := OB_2.out.later (balloc w2 (.cells #[.int .i64 0, .int .i64 0, .slice none 0 0, .slice none 0 0, .slice none 0 0] 29))
  have hA := A_2.out.later (balloc w2 (.cells #[.int .i64 0, .int .i64 0, .slice none 0 0, .slice none 0 0, .slice none 0 0] 29))
  have hB := B_2.out.later (balloc w2 (.cells #[.int .i64 0, .int .i64 0, .slice none 0 0, .slice none 0 0, .slice none 0 0] 29))
  have hR := x5_new w2 (.int .i64 0) (.int .i64 0) (.slice none 0 0) (.slice none 0 0) (.slice none 0 0) 29 w2.heap.size rfl
  have hz : (w2.alloc (.cells #[.int .i64 0, .int .i64 0, .slice none 0 0, .slice none 0 0, .slice none 0 0] 29)).heap.size = w2.heap.size + 1 := by simp
  obtain ⟨w3, hV3⟩ : ∃ V, w2.alloc (.cells #[.int .i64 0, .int .i64 0, .slice none 0 0, .slice none 0 0, .slice none 0 0] 29) = V := ⟨_, rfl⟩
  rw [hV3] at hHB hOB hA hB hR hz
  have HB_3 : Hid (Below w.heap.size w w3) := hHB
  have OB_3 : Hid (OwnBd w3 lo hi (.slice sa sn sc) (.slice la ln lc) (.slice ta tn tc) ⟨f, e, sg, li, ls⟩) := hOB
  have A_3 : Hid (X5 w3 w.heap.size (.int .i64 f) (.int .i64 e) (.slice sa sn sc) (.slice la ln lc) (.slice ta tn tc)) := hA
  have B_3 : Hid (X3 w3 w1.heap.size (.int .i64 2) (.int .i64 m) (.int .i64 l)) := hB
  have R_3 : Hid (X5 w3 w2.heap.size (.int .i64 0) (.int .i64 0) (.slice none 0 0) (.slice none 0 0) (.slice none 0 0)) := hR
  have z3 : w2.heap.size + 1 ≤ w3.heap.size := by omega
  clear HB_2 OB_2 A_2 B_2 hHB hOB hA hB hR hz
  go_enter Try.func54, Try.ntmps54
  obtain ⟨⟨Aq0, Aq1, Aq2, Aq3, Aq4⟩, Af⟩ := id (A_3.out)
  clear Af
  go_wp2_with fail
  clear hV1 hV2 hV3
  refine (q0 _).mono ?_
  clear Aq0 Aq1 Aq2 Aq3 Aq4
  rintro e w' ⟨rfl, hw⟩
  subst w'
  obtain ⟨⟨Aq0, Aq1, Aq2, Aq3, Aq4⟩, Af⟩ := id (A_3.out)
  clear Af
  obtain ⟨⟨Bq0, Bq1, Bq2⟩, Bf⟩ := id (B_3.out)
  clear Bf
  go_wp2_with fail
  refine (q3 _).mono ?_
  clear Aq0 Aq1 Aq2 Aq3 Aq4
  clear Bq0 Bq1 Bq2
  rintro e w' ⟨rfl, hw⟩
  subst w'
  obtain ⟨⟨Aq0, Aq1, Aq2, Aq3, Aq4⟩, Af⟩ := id (A_3.out)
  clear Af
  obtain ⟨⟨Bq0, Bq1, Bq2⟩, Bf⟩ := id (B_3.out)
  clear Bf
  go_wp2_with fail
  refine (q2 _ OB_3.out.rd.t).mono ?_
  clear Aq0 Aq1 Aq2 Aq3 Aq4
  clear Bq0 Bq1 Bq2
  rintro e w' ⟨rfl, hw⟩
  subst w'
  have hZF := (((((R_3.out.set0 (.int .i64 f)).set1 (.int .i64 e)).set2 (.slice sa sn sc)).set3 (.slice la ln lc)).set4 (.slice ta tn tc))
  have hBF : Below w.heap.size w (((((w3.setCell ⟨w2.heap.size, 0, none⟩ (.int .i64 f)).setCell ⟨w2.heap.size, 1, none⟩ (.int .i64 e)).setCell ⟨w2.heap.size, 2, none⟩ (.slice sa sn sc)).setCell ⟨w2.heap.size, 3, none⟩ (.slice la ln lc)).setCell ⟨w2.heap.size, 4, none⟩ (.slice ta tn tc)) := (((((HB_3.out.setCell (by show w.heap.size ≤ w2.heap.size; omega) _).setCell (by show w.heap.size ≤ w2.heap.size; omega) _).setCell (by show w.heap.size ≤ w2.heap.size; omega) _).setCell (by show w.heap.size ≤ w2.heap.size; omega) _).setCell (by show w.heap.size ≤ w2.heap.size; omega) _)
  have hOF := (((((OB_3.out.cell (r := w2.heap.size) (j := 0) (by omega) (.int .i64 f)).cell (r := w2.heap.size) (j := 1) (by omega) (.int .i64 e)).cell (r := w2.heap.size) (j := 2) (by omega) (.slice sa sn sc)).cell (r := w2.heap.size) (j := 3) (by omega) (.slice la ln lc)).cell (r := w2.heap.size) (j := 4) (by omega) (.slice ta tn tc))
  have hszF : (((((w3.setCell ⟨w2.heap.size, 0, none⟩ (.int .i64 f)).setCell ⟨w2.heap.size, 1, none⟩ (.int .i64 e)).setCell ⟨w2.heap.size, 2, none⟩ (.slice sa sn sc)).setCell ⟨w2.heap.size, 3, none⟩ (.slice la ln lc)).setCell ⟨w2.heap.size, 4, none⟩ (.slice ta tn tc)).heap.size = w3.heap.size := by simp
  obtain ⟨⟨y0, y1, y2, y3, y4⟩, yf⟩ := id (R_3.out)
  have yf0 := yf 0
  have yf1 := yf 1
  have yf2 := yf 2
  have yf3 := yf 3
  have yf4 := yf 4
  obtain ⟨FW, hFW⟩ : ∃ F, (((((w3.setCell ⟨w2.heap.size, 0, none⟩ (.int .i64 f)).setCell ⟨w2.heap.size, 1, none⟩ (.int .i64 e)).setCell ⟨w2.heap.size, 2, none⟩ (.slice sa sn sc)).setCell ⟨w2.heap.size, 3, none⟩ (.slice la ln lc)).setCell ⟨w2.heap.size, 4, none⟩ (.slice ta tn tc)) = F := ⟨_, rfl⟩
  rw [hFW] at hZF hBF hszF hOF
  obtain ⟨⟨t0, t1, t2, t3, t4⟩, _⟩ := hZF
  have HBF : Hid (Below w.heap.size w FW) := hBF
  have HSF : Hid (FW.heap.size = w3.heap.size) := hszF
  have HOF := hid_of hOF
  clear hBF yf hszF hOF
  obtain ⟨⟨Aq0, Aq1, Aq2, Aq3, Aq4⟩, Af⟩ := id (A_3.out)
  clear Af
  obtain ⟨⟨Bq0, Bq1, Bq2⟩, Bf⟩ := id (B_3.out)
  clear Bf
  go_wp2
  refine bodyPost_ret (v := .tuple #[.agg #[.int .i64 f, .int .i64 e, .slice sa sn sc, .slice la ln lc, .slice ta tn tc], .bool false]) (by simp [results, Try.results54, go_sem, t0, t1, t2, t3, t4]; try rfl) rfl ?_
  have h9 := HSF.out
  refine ⟨sa, sc, la, lc, ta, tc, ?_, ?_, below_toP HBF.out⟩
  · simp only [HS.out, HL.out, HT.out]
  · simp only [HS.out, HL.out, HT.out]
    exact HOF.out.mono (Nat.le_refl _) (by omega)

set_option maxHeartbeats 4000000 in
theorem l13Step_s4 (f e : Int) (sa : Option Addr) (sn sc : Nat) (la : Option Addr) (ln lc : Nat) (ta : Option Addr) (tn tc : Nat) (sg : List (List Int)) (li ls : List Int) (k m l : Int) (lo hi : Nat) (w : World) (hg : goodBd ⟨f, e, sg, li, ls⟩ = true) (ho : OwnBd w lo hi (.slice sa sn sc) (.slice la ln lc) (.slice ta tn tc) ⟨f, e, sg, li, ls⟩) (hhi : hi ≤ w.heap.size) (hlo : lo ≤ hi) (hk : k = 2) (h2 : sg.length < 200) (hq3 : memB f m = true) (hq2 : decide (l ∈ ls) = true) (hq4 : hasP e m l sg = true) :
    Calls Try.prog 54 #[.agg #[.int .i64 f, .int .i64 e, .slice sa sn sc, .slice la ln lc, .slice ta tn tc], .agg #[.int .i64 k, .int .i64 m, .int .i64 l]] w fun r w' => StOk r w w' lo hi ⟨f, e, sg, li, ls⟩ false := by
  have G := good_is hg
  have HS : Hid (sg.length = sn) := ho.rd.sl
  have HL : Hid (li.length = ln) := ho.rd.ll
  have HT : Hid (ls.length = tn) := ho.rd.tl
  have hsn : sn ≤ 200 := by rw [← HS.out]; exact (sgsB_all G.sgOk).1
  have hln : ln ≤ 2 := by have := G.ln; have := G.f2; rw [HL.out] at *; omega
  have htn : tn ≤ 10 := by rw [← HT.out]; exact G.tn
  have HG : Hid (sgsB f sg = true) := G.sgOk
  obtain ⟨M, hM⟩ : ∃ M, 3 * f + 1 = M := ⟨_, rfl⟩
  have hM1 : 1 ≤ M := by have := G.f0; omega
  have hM7 : M ≤ 7 := by have := G.f2; omega
  have q0 : ∀ wx, Calls Try.prog 31 #[.int .i64 f] wx fun e w' => e = .returned (.tuple #[.int .i64 M, .int .i64 (2 * f + 1), .bool true]) ∧ w' = wx := fun wx => by
    have h := specQuo_c f wx
    have h2 : inB f 0 2 = true := inB_iff.2 ⟨G.f0, G.f2⟩
    simp only [quoF, h2, if_true, hM] at h
    exact h
  have q3 : ∀ wx, Calls Try.prog 73 #[.int .i64 m, .int .i64 0, .int .i64 (M - 1)] wx fun e w' => e = .returned (.bool true) ∧ w' = wx := fun wx => by
    have h := l1In_c m 0 (M - 1) wx
    rw [show M - 1 = 3 * f by omega, show decide (0 ≤ m ∧ m ≤ 3 * f) = true from hq3, show 3 * f = M - 1 by omega] at h
    exact h
  have q2 := fun wx (h : Rd wx ta ls) => l1Has_c ta tn tc l ls wx HT.out (by omega) h
  rw [hq2] at q2
  have q4 := fun wx (h : RdII wx sa sg) => l13Has_c f e sa sn sc la ln lc ta tn tc sg li ls e m l wx HS.out h HG.out
  rw [hq4] at q4
  subst hk
  have h3 : (sn : Int) < 200 := by rw [HS.out] at h2; omega
  clear G hg hM hq3 hq2 hq4 h2
  have HB_0 : Hid (Below w.heap.size w w) := Below.refl _ _
  have OB_0 : Hid (OwnBd w lo hi (.slice sa sn sc) (.slice la ln lc) (.slice ta tn tc) ⟨f, e, sg, li, ls⟩) := ho
  clear ho
  have hHB := HB_0.out.alloc HB_0.out.size (.cells #[.int .i64 f, .int .i64 e, .slice sa sn sc, .slice la ln lc, .slice ta tn tc] 29)
  have hOB := OB_0.out.later (balloc w (.cells #[.int .i64 f, .int .i64 e, .slice sa sn sc, .slice la ln lc, .slice ta tn tc] 29))
  have hA := x5_new w (.int .i64 f) (.int .i64 e) (.slice sa sn sc) (.slice la ln lc) (.slice ta tn tc) 29 w.heap.size rfl
  have hz : (w.alloc (.cells #[.int .i64 f, .int .i64 e, .slice sa sn sc, .slice la ln lc, .slice ta tn tc] 29)).heap.size = w.heap.size + 1 := by simp
  obtain ⟨w1, hV1⟩ : ∃ V, w.alloc (.cells #[.int .i64 f, .int .i64 e, .slice sa sn sc, .slice la ln lc, .slice ta tn tc] 29) = V := ⟨_, rfl⟩
  rw [hV1] at hHB hOB hA hz
  have HB_1 : Hid (Below w.heap.size w w1) := hHB
  have OB_1 : Hid (OwnBd w1 lo hi (.slice sa sn sc) (.slice la ln lc) (.slice ta tn tc) ⟨f, e, sg, li, ls⟩) := hOB
  have A_1 : Hid (X5 w1 w.heap.size (.int .i64 f) (.int .i64 e) (.slice sa sn sc) (.slice la ln lc) (.slice ta tn tc)) := hA
  have z1 : w.heap.size + 1 ≤ w1.heap.size := by omega
  clear HB_0 OB_0 hHB hOB hA hz
  have hHB := HB_1.out.alloc HB_1.out.size (.cells #[.int .i64 2, .int .i64 m, .int .i64 l] 40)
  have hOB := OB_1.out.later (balloc w1 (.cells #[.int .i64 2, .int .i64 m, .int .i64 l] 40))
  have hA := A_1.out.later (balloc w1 (.cells #[.int .i64 2, .int .i64 m, .int .i64 l] 40))
  have hB := x3_new w1 (.int .i64 2) (.int .i64 m) (.int .i64 l) 40 w1.heap.size rfl
  have hz : (w1.alloc (.cells #[.int .i64 2, .int .i64 m, .int .i64 l] 40)).heap.size = w1.heap.size + 1 := by simp
  obtain ⟨w2, hV2⟩ : ∃ V, w1.alloc (.cells #[.int .i64 2, .int .i64 m, .int .i64 l] 40) = V := ⟨_, rfl⟩
  rw [hV2] at hHB hOB hA hB hz
  have HB_2 : Hid (Below w.heap.size w w2) := hHB
  have OB_2 : Hid (OwnBd w2 lo hi (.slice sa sn sc) (.slice la ln lc) (.slice ta tn tc) ⟨f, e, sg, li, ls⟩) := hOB
  have A_2 : Hid (X5 w2 w.heap.size (.int .i64 f) (.int .i64 e) (.slice sa sn sc) (.slice la ln lc) (.slice ta tn tc)) := hA
  have B_2 : Hid (X3 w2 w1.heap.size (.int .i64 2) (.int .i64 m) (.int .i64 l)) := hB
  have z2 : w1.heap.size + 1 ≤ w2.heap.size := by omega
  clear HB_1 OB_1 A_1 hHB hOB hA hB hz
  have hHB := HB_2.out.alloc HB_2.out.size (.cells #[.int .i64 0, .int .i64 0, .slice none 0 0, .slice none 0 0, .slice none 0 0] 29)
  have hOB := OB_2.out.later (balloc w2 (.cells #[.int .i64 0, .int .i64 0, .slice none 0 0, .slice none 0 0, .slice none 0 0] 29))
  have hA := A_2.out.later (balloc w2 (.cells #[.int .i64 0, .int .i64 0, .slice none 0 0, .slice none 0 0, .slice none 0 0] 29))
  have hB := B_2.out.later (balloc w2 (.cells #[.int .i64 0, .int .i64 0, .slice none 0 0, .slice none 0 0, .slice none 0 0] 29))
  have hR := x5_new w2 (.int .i64 0) (.int .i64 0) (.slice none 0 0) (.slice none 0 0) (.slice none 0 0) 29 w2.heap.size rfl
  have hz : (w2.alloc (.cells #[.int .i64 0, .int .i64 0, .slice none 0 0, .slice none 0 0, .slice none 0 0] 29)).heap.size = w2.heap.size + 1 := by simp
  obtain ⟨w3, hV3⟩ : ∃ V, w2.alloc (.cells #[.int .i64 0, .int .i64 0, .slice none 0 0, .slice none 0 0, .slice none 0 0] 29) = V := ⟨_, rfl⟩
  rw [hV3] at hHB hOB hA hB hR hz
  have HB_3 : Hid (Below w.heap.size w w3) := hHB
  have OB_3 : Hid (OwnBd w3 lo hi (.slice sa sn sc) (.slice la ln lc) (.slice ta tn tc) ⟨f, e, sg, li, ls⟩) := hOB
  have A_3 : Hid (X5 w3 w.heap.size (.int .i64 f) (.int .i64 e) (.slice sa sn sc) (.slice la ln lc) (.slice ta tn tc)) := hA
  have B_3 : Hid (X3 w3 w1.heap.size (.int .i64 2) (.int .i64 m) (.int .i64 l)) := hB
  have R_3 : Hid (X5 w3 w2.heap.size (.int .i64 0) (.int .i64 0) (.slice none 0 0) (.slice none 0 0) (.slice none 0 0)) := hR
  have z3 : w2.heap.size + 1 ≤ w3.heap.size := by omega
  clear HB_2 OB_2 A_2 B_2 hHB hOB hA hB hR hz
  go_enter Try.func54, Try.ntmps54
  obtain ⟨⟨Aq0, Aq1, Aq2, Aq3, Aq4⟩, Af⟩ := id (A_3.out)
  clear Af
  go_wp2_with fail
  clear hV1 hV2 hV3
  refine (q0 _).mono ?_
  clear Aq0 Aq1 Aq2 Aq3 Aq4
  rintro e w' ⟨rfl, hw⟩
  subst w'
  obtain ⟨⟨Aq0, Aq1, Aq2, Aq3, Aq4⟩, Af⟩ := id (A_3.out)
  clear Af
  obtain ⟨⟨Bq0, Bq1, Bq2⟩, Bf⟩ := id (B_3.out)
  clear Bf
  go_wp2_with fail
  refine (q3 _).mono ?_
  clear Aq0 Aq1 Aq2 Aq3 Aq4
  clear Bq0 Bq1 Bq2
  rintro e w' ⟨rfl, hw⟩
  subst w'
  obtain ⟨⟨Aq0, Aq1, Aq2, Aq3, Aq4⟩, Af⟩ := id (A_3.out)
  clear Af
  obtain ⟨⟨Bq0, Bq1, Bq2⟩, Bf⟩ := id (B_3.out)
  clear Bf
  go_wp2_with fail
  refine (q2 _ OB_3.out.rd.t).mono ?_
  clear Aq0 Aq1 Aq2 Aq3 Aq4
  clear Bq0 Bq1 Bq2
  rintro e w' ⟨rfl, hw⟩
  subst w'
  obtain ⟨⟨Aq0, Aq1, Aq2, Aq3, Aq4⟩, Af⟩ := id (A_3.out)
  clear Af
  obtain ⟨⟨Bq0, Bq1, Bq2⟩, Bf⟩ := id (B_3.out)
  clear Bf
  go_wp2_with fail
  refine (q4 _ OB_3.out.rd.s).mono ?_
  clear Aq0 Aq1 Aq2 Aq3 Aq4
  clear Bq0 Bq1 Bq2
  rintro e w4 ⟨rfl, hb⟩
  have hB : Below w3.heap.size w3 w4 := hb
  have HB_4 : Hid (Below w.heap.size w w4) := HB_3.out.trans (hB.mono HB_3.out.size)
  have OB_4 : Hid (OwnBd w4 lo hi (.slice sa sn sc) (.slice la ln lc) (.slice ta tn tc) ⟨f, e, sg, li, ls⟩) := OB_3.out.later hB
  have A_4 : Hid (X5 w4 w.heap.size (.int .i64 f) (.int .i64 e) (.slice sa sn sc) (.slice la ln lc) (.slice ta tn tc)) := A_3.out.later hB
  have B_4 : Hid (X3 w4 w1.heap.size (.int .i64 2) (.int .i64 m) (.int .i64 l)) := B_3.out.later hB
  have R_4 : Hid (X5 w4 w2.heap.size (.int .i64 0) (.int .i64 0) (.slice none 0 0) (.slice none 0 0) (.slice none 0 0)) := R_3.out.later hB
  have z4 : w3.heap.size ≤ w4.heap.size := hB.size
  clear hb hB HB_3 OB_3 A_3 B_3 R_3 
  have hZF := (((((R_4.out.set0 (.int .i64 f)).set1 (.int .i64 e)).set2 (.slice sa sn sc)).set3 (.slice la ln lc)).set4 (.slice ta tn tc))
  have hBF : Below w.heap.size w (((((w4.setCell ⟨w2.heap.size, 0, none⟩ (.int .i64 f)).setCell ⟨w2.heap.size, 1, none⟩ (.int .i64 e)).setCell ⟨w2.heap.size, 2, none⟩ (.slice sa sn sc)).setCell ⟨w2.heap.size, 3, none⟩ (.slice la ln lc)).setCell ⟨w2.heap.size, 4, none⟩ (.slice ta tn tc)) := (((((HB_4.out.setCell (by show w.heap.size ≤ w2.heap.size; omega) _).setCell (by show w.heap.size ≤ w2.heap.size; omega) _).setCell (by show w.heap.size ≤ w2.heap.size; omega) _).setCell (by show w.heap.size ≤ w2.heap.size; omega) _).setCell (by show w.heap.size ≤ w2.heap.size; omega) _)
  have hOF := (((((OB_4.out.cell (r := w2.heap.size) (j := 0) (by omega) (.int .i64 f)).cell (r := w2.heap.size) (j := 1) (by omega) (.int .i64 e)).cell (r := w2.heap.size) (j := 2) (by omega) (.slice sa sn sc)).cell (r := w2.heap.size) (j := 3) (by omega) (.slice la ln lc)).cell (r := w2.heap.size) (j := 4) (by omega) (.slice ta tn tc))
  have hszF : (((((w4.setCell ⟨w2.heap.size, 0, none⟩ (.int .i64 f)).setCell ⟨w2.heap.size, 1, none⟩ (.int .i64 e)).setCell ⟨w2.heap.size, 2, none⟩ (.slice sa sn sc)).setCell ⟨w2.heap.size, 3, none⟩ (.slice la ln lc)).setCell ⟨w2.heap.size, 4, none⟩ (.slice ta tn tc)).heap.size = w4.heap.size := by simp
  obtain ⟨⟨y0, y1, y2, y3, y4⟩, yf⟩ := id (R_4.out)
  have yf0 := yf 0
  have yf1 := yf 1
  have yf2 := yf 2
  have yf3 := yf 3
  have yf4 := yf 4
  obtain ⟨FW, hFW⟩ : ∃ F, (((((w4.setCell ⟨w2.heap.size, 0, none⟩ (.int .i64 f)).setCell ⟨w2.heap.size, 1, none⟩ (.int .i64 e)).setCell ⟨w2.heap.size, 2, none⟩ (.slice sa sn sc)).setCell ⟨w2.heap.size, 3, none⟩ (.slice la ln lc)).setCell ⟨w2.heap.size, 4, none⟩ (.slice ta tn tc)) = F := ⟨_, rfl⟩
  rw [hFW] at hZF hBF hszF hOF
  obtain ⟨⟨t0, t1, t2, t3, t4⟩, _⟩ := hZF
  have HBF : Hid (Below w.heap.size w FW) := hBF
  have HSF : Hid (FW.heap.size = w4.heap.size) := hszF
  have HOF := hid_of hOF
  clear hBF yf hszF hOF
  obtain ⟨⟨Aq0, Aq1, Aq2, Aq3, Aq4⟩, Af⟩ := id (A_4.out)
  clear Af
  obtain ⟨⟨Bq0, Bq1, Bq2⟩, Bf⟩ := id (B_4.out)
  clear Bf
  go_wp2
  refine bodyPost_ret (v := .tuple #[.agg #[.int .i64 f, .int .i64 e, .slice sa sn sc, .slice la ln lc, .slice ta tn tc], .bool false]) (by simp [results, Try.results54, go_sem, t0, t1, t2, t3, t4]; try rfl) rfl ?_
  have h9 := HSF.out
  refine ⟨sa, sc, la, lc, ta, tc, ?_, ?_, below_toP HBF.out⟩
  · simp only [HS.out, HL.out, HT.out]
  · simp only [HS.out, HL.out, HT.out]
    exact HOF.out.mono (Nat.le_refl _) (by omega)

set_option maxHeartbeats 4000000 in
theorem l13Step_s6 (f e : Int) (sa : Option Addr) (sn sc : Nat) (la : Option Addr) (ln lc : Nat) (ta : Option Addr) (tn tc : Nat) (sg : List (List Int)) (li ls : List Int) (k m l : Int) (lo hi : Nat) (w : World) (hg : goodBd ⟨f, e, sg, li, ls⟩ = true) (ho : OwnBd w lo hi (.slice sa sn sc) (.slice la ln lc) (.slice ta tn tc) ⟨f, e, sg, li, ls⟩) (hhi : hi ≤ w.heap.size) (hlo : lo ≤ hi) (hk : k = 2) (h2 : sg.length < 200) (hq3 : memB f m = true) (hq2 : decide (l ∈ ls) = true) (hq4 : hasP e m l sg = false) (hq5 : decide (m ∈ li) = false) (hq6 : hasP e m (-1) sg = true) :
    Calls Try.prog 54 #[.agg #[.int .i64 f, .int .i64 e, .slice sa sn sc, .slice la ln lc, .slice ta tn tc], .agg #[.int .i64 k, .int .i64 m, .int .i64 l]] w fun r w' => StOk r w w' lo hi ⟨f, e, sg, li, ls⟩ false := by
  have G := good_is hg
  have HS : Hid (sg.length = sn) := ho.rd.sl
  have HL : Hid (li.length = ln) := ho.rd.ll
  have HT : Hid (ls.length = tn) := ho.rd.tl
  have hsn : sn ≤ 200 := by rw [← HS.out]; exact (sgsB_all G.sgOk).1
  have hln : ln ≤ 2 := by have := G.ln; have := G.f2; rw [HL.out] at *; omega
  have htn : tn ≤ 10 := by rw [← HT.out]; exact G.tn
  have HG : Hid (sgsB f sg = true) := G.sgOk
  obtain ⟨M, hM⟩ : ∃ M, 3 * f + 1 = M := ⟨_, rfl⟩
  have hM1 : 1 ≤ M := by have := G.f0; omega
  have hM7 : M ≤ 7 := by have := G.f2; omega
  have q0 : ∀ wx, Calls Try.prog 31 #[.int .i64 f] wx fun e w' => e = .returned (.tuple #[.int .i64 M, .int .i64 (2 * f + 1), .bool true]) ∧ w' = wx := fun wx => by
    have h := specQuo_c f wx
    have h2 : inB f 0 2 = true := inB_iff.2 ⟨G.f0, G.f2⟩
    simp only [quoF, h2, if_true, hM] at h
    exact h
  have q3 : ∀ wx, Calls Try.prog 73 #[.int .i64 m, .int .i64 0, .int .i64 (M - 1)] wx fun e w' => e = .returned (.bool true) ∧ w' = wx := fun wx => by
    have h := l1In_c m 0 (M - 1) wx
    rw [show M - 1 = 3 * f by omega, show decide (0 ≤ m ∧ m ≤ 3 * f) = true from hq3, show 3 * f = M - 1 by omega] at h
    exact h
  have q2 := fun wx (h : Rd wx ta ls) => l1Has_c ta tn tc l ls wx HT.out (by omega) h
  rw [hq2] at q2
  have q4 := fun wx (h : RdII wx sa sg) => l13Has_c f e sa sn sc la ln lc ta tn tc sg li ls e m l wx HS.out h HG.out
  rw [hq4] at q4
  have q5 := fun wx (h : Rd wx la li) => l1Has_c la ln lc m li wx HL.out (by omega) h
  rw [hq5] at q5
  have q6 := fun wx (h : RdII wx sa sg) => l13Has_c f e sa sn sc la ln lc ta tn tc sg li ls e m (-1) wx HS.out h HG.out
  rw [hq6] at q6
  subst hk
  have h3 : (sn : Int) < 200 := by rw [HS.out] at h2; omega
  clear G hg hM hq3 hq2 hq4 hq5 hq6 h2
  have HB_0 : Hid (Below w.heap.size w w) := Below.refl _ _
  have OB_0 : Hid (OwnBd w lo hi (.slice sa sn sc) (.slice la ln lc) (.slice ta tn tc) ⟨f, e, sg, li, ls⟩) := ho
  clear ho
  have hHB := HB_0.out.alloc HB_0.out.size (.cells #[.int .i64 f, .int .i64 e, .slice sa sn sc, .slice la ln lc, .slice ta tn tc] 29)
  have hOB := OB_0.out.later (balloc w (.cells #[.int .i64 f, .int .i64 e, .slice sa sn sc, .slice la ln lc, .slice ta tn tc] 29))
  have hA := x5_new w (.int .i64 f) (.int .i64 e) (.slice sa sn sc) (.slice la ln lc) (.slice ta tn tc) 29 w.heap.size rfl
  have hz : (w.alloc (.cells #[.int .i64 f, .int .i64 e, .slice sa sn sc, .slice la ln lc, .slice ta tn tc] 29)).heap.size = w.heap.size + 1 := by simp
  obtain ⟨w1, hV1⟩ : ∃ V, w.alloc (.cells #[.int .i64 f, .int .i64 e, .slice sa sn sc, .slice la ln lc, .slice ta tn tc] 29) = V := ⟨_, rfl⟩
  rw [hV1] at hHB hOB hA hz
  have HB_1 : Hid (Below w.heap.size w w1) := hHB
  have OB_1 : Hid (OwnBd w1 lo hi (.slice sa sn sc) (.slice la ln lc) (.slice ta tn tc) ⟨f, e, sg, li, ls⟩) := hOB
  have A_1 : Hid (X5 w1 w.heap.size (.int .i64 f) (.int .i64 e) (.slice sa sn sc) (.slice la ln lc) (.slice ta tn tc)) := hA
  have z1 : w.heap.size + 1 ≤ w1.heap.size := by omega
  clear HB_0 OB_0 hHB hOB hA hz
  have hHB := HB_1.out.alloc HB_1.out.size (.cells #[.int .i64 2, .int .i64 m, .int .i64 l] 40)
  have hOB := OB_1.out.later (balloc w1 (.cells #[.int .i64 2, .int .i64 m, .int .i64 l] 40))
  have hA := A_1.out.later (balloc w1 (.cells #[.int .i64 2, .int .i64 m, .int .i64 l] 40))
  have hB := x3_new w1 (.int .i64 2) (.int .i64 m) (.int .i64 l) 40 w1.heap.size rfl
  have hz : (w1.alloc (.cells #[.int .i64 2, .int .i64 m, .int .i64 l] 40)).heap.size = w1.heap.size + 1 := by simp
  obtain ⟨w2, hV2⟩ : ∃ V, w1.alloc (.cells #[.int .i64 2, .int .i64 m, .int .i64 l] 40) = V := ⟨_, rfl⟩
  rw [hV2] at hHB hOB hA hB hz
  have HB_2 : Hid (Below w.heap.size w w2) := hHB
  have OB_2 : Hid (OwnBd w2 lo hi (.slice sa sn sc) (.slice la ln lc) (.slice ta tn tc) ⟨f, e, sg, li, ls⟩) := hOB
  have A_2 : Hid (X5 w2 w.heap.size (.int .i64 f) (.int .i64 e) (.slice sa sn sc) (.slice la ln lc) (.slice ta tn tc)) := hA
  have B_2 : Hid (X3 w2 w1.heap.size (.int .i64 2) (.int .i64 m) (.int .i64 l)) := hB
  have z2 : w1.heap.size + 1 ≤ w2.heap.size := by omega
  clear HB_1 OB_1 A_1 hHB hOB hA hB hz
  have hHB := HB_2.out.alloc HB_2.out.size (.cells #[.int .i64 0, .int .i64 0, .slice none 0 0, .slice none 0 0, .slice none 0 0] 29)
  have hOB := OB_2.out.later (balloc w2 (.cells #[.int .i64 0, .int .i64 0, .slice none 0 0, .slice none 0 0, .slice none 0 0] 29))
  have hA := A_2.out.later (balloc w2 (.cells #[.int .i64 0, .int .i64 0, .slice none 0 0, .slice none 0 0, .slice none 0 0] 29))
  have hB := B_2.out.later (balloc w2 (.cells #[.int .i64 0, .int .i64 0, .slice none 0 0, .slice none 0 0, .slice none 0 0] 29))
  have hR := x5_new w2 (.int .i64 0) (.int .i64 0) (.slice none 0 0) (.slice none 0 0) (.slice none 0 0) 29 w2.heap.size rfl
  have hz : (w2.alloc (.cells #[.int .i64 0, .int .i64 0, .slice none 0 0, .slice none 0 0, .slice none 0 0] 29)).heap.size = w2.heap.size + 1 := by simp
  obtain ⟨w3, hV3⟩ : ∃ V, w2.alloc (.cells #[.int .i64 0, .int .i64 0, .slice none 0 0, .slice none 0 0, .slice none 0 0] 29) = V := ⟨_, rfl⟩
  rw [hV3] at hHB hOB hA hB hR hz
  have HB_3 : Hid (Below w.heap.size w w3) := hHB
  have OB_3 : Hid (OwnBd w3 lo hi (.slice sa sn sc) (.slice la ln lc) (.slice ta tn tc) ⟨f, e, sg, li, ls⟩) := hOB
  have A_3 : Hid (X5 w3 w.heap.size (.int .i64 f) (.int .i64 e) (.slice sa sn sc) (.slice la ln lc) (.slice ta tn tc)) := hA
  have B_3 : Hid (X3 w3 w1.heap.size (.int .i64 2) (.int .i64 m) (.int .i64 l)) := hB
  have R_3 : Hid (X5 w3 w2.heap.size (.int .i64 0) (.int .i64 0) (.slice none 0 0) (.slice none 0 0) (.slice none 0 0)) := hR
  have z3 : w2.heap.size + 1 ≤ w3.heap.size := by omega
  clear HB_2 OB_2 A_2 B_2 hHB hOB hA hB hR hz
  go_enter Try.func54, Try.ntmps54
  obtain ⟨⟨Aq0, Aq1, Aq2, Aq3, Aq4⟩, Af⟩ := id (A_3.out)
  clear Af
  go_wp2_with fail
  clear hV1 hV2 hV3
  refine (q0 _).mono ?_
  clear Aq0 Aq1 Aq2 Aq3 Aq4
  rintro e w' ⟨rfl, hw⟩
  subst w'
  obtain ⟨⟨Aq0, Aq1, Aq2, Aq3, Aq4⟩, Af⟩ := id (A_3.out)
  clear Af
  obtain ⟨⟨Bq0, Bq1, Bq2⟩, Bf⟩ := id (B_3.out)
  clear Bf
  go_wp2_with fail
  refine (q3 _).mono ?_
  clear Aq0 Aq1 Aq2 Aq3 Aq4
  clear Bq0 Bq1 Bq2
  rintro e w' ⟨rfl, hw⟩
  subst w'
  obtain ⟨⟨Aq0, Aq1, Aq2, Aq3, Aq4⟩, Af⟩ := id (A_3.out)
  clear Af
  obtain ⟨⟨Bq0, Bq1, Bq2⟩, Bf⟩ := id (B_3.out)
  clear Bf
  go_wp2_with fail
  refine (q2 _ OB_3.out.rd.t).mono ?_
  clear Aq0 Aq1 Aq2 Aq3 Aq4
  clear Bq0 Bq1 Bq2
  rintro e w' ⟨rfl, hw⟩
  subst w'
  obtain ⟨⟨Aq0, Aq1, Aq2, Aq3, Aq4⟩, Af⟩ := id (A_3.out)
  clear Af
  obtain ⟨⟨Bq0, Bq1, Bq2⟩, Bf⟩ := id (B_3.out)
  clear Bf
  go_wp2_with fail
  refine (q4 _ OB_3.out.rd.s).mono ?_
  clear Aq0 Aq1 Aq2 Aq3 Aq4
  clear Bq0 Bq1 Bq2
  rintro e w4 ⟨rfl, hb⟩
  have hB : Below w3.heap.size w3 w4 := hb
  have HB_4 : Hid (Below w.heap.size w w4) := HB_3.out.trans (hB.mono HB_3.out.size)
  have OB_4 : Hid (OwnBd w4 lo hi (.slice sa sn sc) (.slice la ln lc) (.slice ta tn tc) ⟨f, e, sg, li, ls⟩) := OB_3.out.later hB
  have A_4 : Hid (X5 w4 w.heap.size (.int .i64 f) (.int .i64 e) (.slice sa sn sc) (.slice la ln lc) (.slice ta tn tc)) := A_3.out.later hB
  have B_4 : Hid (X3 w4 w1.heap.size (.int .i64 2) (.int .i64 m) (.int .i64 l)) := B_3.out.later hB
  have R_4 : Hid (X5 w4 w2.heap.size (.int .i64 0) (.int .i64 0) (.slice none 0 0) (.slice none 0 0) (.slice none 0 0)) := R_3.out.later hB
  have z4 : w3.heap.size ≤ w4.heap.size := hB.size
  clear hb hB HB_3 OB_3 A_3 B_3 R_3 
  obtain ⟨⟨Aq0, Aq1, Aq2, Aq3, Aq4⟩, Af⟩ := id (A_4.out)
  clear Af
  obtain ⟨⟨Bq0, Bq1, Bq2⟩, Bf⟩ := id (B_4.out)
  clear Bf
  go_wp2_with fail
  refine (q5 _ OB_4.out.rd.l).mono ?_
  clear Aq0 Aq1 Aq2 Aq3 Aq4
  clear Bq0 Bq1 Bq2
  rintro e w' ⟨rfl, hw⟩
  subst w'
  obtain ⟨⟨Aq0, Aq1, Aq2, Aq3, Aq4⟩, Af⟩ := id (A_4.out)
  clear Af
  obtain ⟨⟨Bq0, Bq1, Bq2⟩, Bf⟩ := id (B_4.out)
  clear Bf
  go_wp2_with fail
  refine (q6 _ OB_4.out.rd.s).mono ?_
  clear Aq0 Aq1 Aq2 Aq3 Aq4
  clear Bq0 Bq1 Bq2
  rintro e w5 ⟨rfl, hb⟩
  have hB : Below w4.heap.size w4 w5 := hb
  have HB_5 : Hid (Below w.heap.size w w5) := HB_4.out.trans (hB.mono HB_4.out.size)
  have OB_5 : Hid (OwnBd w5 lo hi (.slice sa sn sc) (.slice la ln lc) (.slice ta tn tc) ⟨f, e, sg, li, ls⟩) := OB_4.out.later hB
  have A_5 : Hid (X5 w5 w.heap.size (.int .i64 f) (.int .i64 e) (.slice sa sn sc) (.slice la ln lc) (.slice ta tn tc)) := A_4.out.later hB
  have B_5 : Hid (X3 w5 w1.heap.size (.int .i64 2) (.int .i64 m) (.int .i64 l)) := B_4.out.later hB
  have R_5 : Hid (X5 w5 w2.heap.size (.int .i64 0) (.int .i64 0) (.slice none 0 0) (.slice none 0 0) (.slice none 0 0)) := R_4.out.later hB
  have z5 : w4.heap.size ≤ w5.heap.size := hB.size
  clear hb hB HB_4 OB_4 A_4 B_4 R_4 
  have hZF := (((((R_5.out.set0 (.int .i64 f)).set1 (.int .i64 e)).set2 (.slice sa sn sc)).set3 (.slice la ln lc)).set4 (.slice ta tn tc))
  have hBF : Below w.heap.size w (((((w5.setCell ⟨w2.heap.size, 0, none⟩ (.int .i64 f)).setCell ⟨w2.heap.size, 1, none⟩ (.int .i64 e)).setCell ⟨w2.heap.size, 2, none⟩ (.slice sa sn sc)).setCell ⟨w2.heap.size, 3, none⟩ (.slice la ln lc)).setCell ⟨w2.heap.size, 4, none⟩ (.slice ta tn tc)) := (((((HB_5.out.setCell (by show w.heap.size ≤ w2.heap.size; omega) _).setCell (by show w.heap.size ≤ w2.heap.size; omega) _).setCell (by show w.heap.size ≤ w2.heap.size; omega) _).setCell (by show w.heap.size ≤ w2.heap.size; omega) _).setCell (by show w.heap.size ≤ w2.heap.size; omega) _)
  have hOF := (((((OB_5.out.cell (r := w2.heap.size) (j := 0) (by omega) (.int .i64 f)).cell (r := w2.heap.size) (j := 1) (by omega) (.int .i64 e)).cell (r := w2.heap.size) (j := 2) (by omega) (.slice sa sn sc)).cell (r := w2.heap.size) (j := 3) (by omega) (.slice la ln lc)).cell (r := w2.heap.size) (j := 4) (by omega) (.slice ta tn tc))
  have hszF : (((((w5.setCell ⟨w2.heap.size, 0, none⟩ (.int .i64 f)).setCell ⟨w2.heap.size, 1, none⟩ (.int .i64 e)).setCell ⟨w2.heap.size, 2, none⟩ (.slice sa sn sc)).setCell ⟨w2.heap.size, 3, none⟩ (.slice la ln lc)).setCell ⟨w2.heap.size, 4, none⟩ (.slice ta tn tc)).heap.size = w5.heap.size := by simp
  obtain ⟨⟨y0, y1, y2, y3, y4⟩, yf⟩ := id (R_5.out)
  have yf0 := yf 0
  have yf1 := yf 1
  have yf2 := yf 2
  have yf3 := yf 3
  have yf4 := yf 4
  obtain ⟨FW, hFW⟩ : ∃ F, (((((w5.setCell ⟨w2.heap.size, 0, none⟩ (.int .i64 f)).setCell ⟨w2.heap.size, 1, none⟩ (.int .i64 e)).setCell ⟨w2.heap.size, 2, none⟩ (.slice sa sn sc)).setCell ⟨w2.heap.size, 3, none⟩ (.slice la ln lc)).setCell ⟨w2.heap.size, 4, none⟩ (.slice ta tn tc)) = F := ⟨_, rfl⟩
  rw [hFW] at hZF hBF hszF hOF
  obtain ⟨⟨t0, t1, t2, t3, t4⟩, _⟩ := hZF
  have HBF : Hid (Below w.heap.size w FW) := hBF
  have HSF : Hid (FW.heap.size = w5.heap.size) := hszF
  have HOF := hid_of hOF
  clear hBF yf hszF hOF
  obtain ⟨⟨Aq0, Aq1, Aq2, Aq3, Aq4⟩, Af⟩ := id (A_5.out)
  clear Af
  obtain ⟨⟨Bq0, Bq1, Bq2⟩, Bf⟩ := id (B_5.out)
  clear Bf
  go_wp2
  refine bodyPost_ret (v := .tuple #[.agg #[.int .i64 f, .int .i64 e, .slice sa sn sc, .slice la ln lc, .slice ta tn tc], .bool false]) (by simp [results, Try.results54, go_sem, t0, t1, t2, t3, t4]; try rfl) rfl ?_
  have h9 := HSF.out
  refine ⟨sa, sc, la, lc, ta, tc, ?_, ?_, below_toP HBF.out⟩
  · simp only [HS.out, HL.out, HT.out]
  · simp only [HS.out, HL.out, HT.out]
    exact HOF.out.mono (Nat.le_refl _) (by omega)

set_option maxHeartbeats 4000000 in
theorem l13Step_e2 (f e : Int) (sa : Option Addr) (sn sc : Nat) (la : Option Addr) (ln lc : Nat) (ta : Option Addr) (tn tc : Nat) (sg : List (List Int)) (li ls : List Int) (k m l : Int) (lo hi : Nat) (w : World) (hg : goodBd ⟨f, e, sg, li, ls⟩ = true) (ho : OwnBd w lo hi (.slice sa sn sc) (.slice la ln lc) (.slice ta tn tc) ⟨f, e, sg, li, ls⟩) (hhi : hi ≤ w.heap.size) (hlo : lo ≤ hi) (hk : k = 3) (hm : m = 0) (hl : l = 0) (he : 20 ≤ e)  :
    Calls Try.prog 54 #[.agg #[.int .i64 f, .int .i64 e, .slice sa sn sc, .slice la ln lc, .slice ta tn tc], .agg #[.int .i64 k, .int .i64 m, .int .i64 l]] w fun r w' => StOk r w w' lo hi ⟨f, e, sg, li, ls⟩ false := by
  have G := good_is hg
  have HS : Hid (sg.length = sn) := ho.rd.sl
  have HL : Hid (li.length = ln) := ho.rd.ll
  have HT : Hid (ls.length = tn) := ho.rd.tl
  have hsn : sn ≤ 200 := by rw [← HS.out]; exact (sgsB_all G.sgOk).1
  have hln : ln ≤ 2 := by have := G.ln; have := G.f2; rw [HL.out] at *; omega
  have htn : tn ≤ 10 := by rw [← HT.out]; exact G.tn
  have HG : Hid (sgsB f sg = true) := G.sgOk
  obtain ⟨M, hM⟩ : ∃ M, 3 * f + 1 = M := ⟨_, rfl⟩
  have hM1 : 1 ≤ M := by have := G.f0; omega
  have hM7 : M ≤ 7 := by have := G.f2; omega
  have q0 : ∀ wx, Calls Try.prog 31 #[.int .i64 f] wx fun e w' => e = .returned (.tuple #[.int .i64 M, .int .i64 (2 * f + 1), .bool true]) ∧ w' = wx := fun wx => by
    have h := specQuo_c f wx
    have h2 : inB f 0 2 = true := inB_iff.2 ⟨G.f0, G.f2⟩
    simp only [quoF, h2, if_true, hM] at h
    exact h
  subst hk
  subst hm
  subst hl
  have he2 : ¬ e < 20 := by omega
  clear G hg hM  he
  have HB_0 : Hid (Below w.heap.size w w) := Below.refl _ _
  have OB_0 : Hid (OwnBd w lo hi (.slice sa sn sc) (.slice la ln lc) (.slice ta tn tc) ⟨f, e, sg, li, ls⟩) := ho
  clear ho
  have hHB := HB_0.out.alloc HB_0.out.size (.cells #[.int .i64 f, .int .i64 e, .slice sa sn sc, .slice la ln lc, .slice ta tn tc] 29)
  have hOB := OB_0.out.later (balloc w (.cells #[.int .i64 f, .int .i64 e, .slice sa sn sc, .slice la ln lc, .slice ta tn tc] 29))
  have hA := x5_new w (.int .i64 f) (.int .i64 e) (.slice sa sn sc) (.slice la ln lc) (.slice ta tn tc) 29 w.heap.size rfl
  have hz : (w.alloc (.cells #[.int .i64 f, .int .i64 e, .slice sa sn sc, .slice la ln lc, .slice ta tn tc] 29)).heap.size = w.heap.size + 1 := by simp
  obtain ⟨w1, hV1⟩ : ∃ V, w.alloc (.cells #[.int .i64 f, .int .i64 e, .slice sa sn sc, .slice la ln lc, .slice ta tn tc] 29) = V := ⟨_, rfl⟩
  rw [hV1] at hHB hOB hA hz
  have HB_1 : Hid (Below w.heap.size w w1) := hHB
  have OB_1 : Hid (OwnBd w1 lo hi (.slice sa sn sc) (.slice la ln lc) (.slice ta tn tc) ⟨f, e, sg, li, ls⟩) := hOB
  have A_1 : Hid (X5 w1 w.heap.size (.int .i64 f) (.int .i64 e) (.slice sa sn sc) (.slice la ln lc) (.slice ta tn tc)) := hA
  have z1 : w.heap.size + 1 ≤ w1.heap.size := by omega
  clear HB_0 OB_0 hHB hOB hA hz
  have hHB := HB_1.out.alloc HB_1.out.size (.cells #[.int .i64 3, .int .i64 0, .int .i64 0] 40)
  have hOB := OB_1.out.later (balloc w1 (.cells #[.int .i64 3, .int .i64 0, .int .i64 0] 40))
  have hA := A_1.out.later (balloc w1 (.cells #[.int .i64 3, .int .i64 0, .int .i64 0] 40))
  have hB := x3_new w1 (.int .i64 3) (.int .i64 0) (.int .i64 0) 40 w1.heap.size rfl
  have hz : (w1.alloc (.cells #[.int .i64 3, .int .i64 0, .int .i64 0] 40)).heap.size = w1.heap.size + 1 := by simp
  obtain ⟨w2, hV2⟩ : ∃ V, w1.alloc (.cells #[.int .i64 3, .int .i64 0, .int .i64 0] 40) = V := ⟨_, rfl⟩
  rw [hV2] at hHB hOB hA hB hz
  have HB_2 : Hid (Below w.heap.size w w2) := hHB
  have OB_2 : Hid (OwnBd w2 lo hi (.slice sa sn sc) (.slice la ln lc) (.slice ta tn tc) ⟨f, e, sg, li, ls⟩) := hOB
  have A_2 : Hid (X5 w2 w.heap.size (.int .i64 f) (.int .i64 e) (.slice sa sn sc) (.slice la ln lc) (.slice ta tn tc)) := hA
  have B_2 : Hid (X3 w2 w1.heap.size (.int .i64 3) (.int .i64 0) (.int .i64 0)) := hB
  have z2 : w1.heap.size + 1 ≤ w2.heap.size := by omega
  clear HB_1 OB_1 A_1 hHB hOB hA hB hz
  have hHB := HB_2.out.alloc HB_2.out.size (.cells #[.int .i64 0, .int .i64 0, .slice none 0 0, .slice none 0 0, .slice none 0 0] 29)
  have hOB := OB_2.out.later (balloc w2 (.cells #[.int .i64 0, .int .i64 0, .slice none 0 0, .slice none 0 0, .slice none 0 0] 29))
  have hA := A_2.out.later (balloc w2 (.cells #[.int .i64 0, .int .i64 0, .slice none 0 0, .slice none 0 0, .slice none 0 0] 29))
  have hB := B_2.out.later (balloc w2 (.cells #[.int .i64 0, .int .i64 0, .slice none 0 0, .slice none 0 0, .slice none 0 0] 29))
  have hR := x5_new w2 (.int .i64 0) (.int .i64 0) (.slice none 0 0) (.slice none 0 0) (.slice none 0 0) 29 w2.heap.size rfl
  have hz : (w2.alloc (.cells #[.int .i64 0, .int .i64 0, .slice none 0 0, .slice none 0 0, .slice none 0 0] 29)).heap.size = w2.heap.size + 1 := by simp
  obtain ⟨w3, hV3⟩ : ∃ V, w2.alloc (.cells #[.int .i64 0, .int .i64 0, .slice none 0 0, .slice none 0 0, .slice none 0 0] 29) = V := ⟨_, rfl⟩
  rw [hV3] at hHB hOB hA hB hR hz
  have HB_3 : Hid (Below w.heap.size w w3) := hHB
  have OB_3 : Hid (OwnBd w3 lo hi (.slice sa sn sc) (.slice la ln lc) (.slice ta tn tc) ⟨f, e, sg, li, ls⟩) := hOB
  have A_3 : Hid (X5 w3 w.heap.size (.int .i64 f) (.int .i64 e) (.slice sa sn sc) (.slice la ln lc) (.slice ta tn tc)) := hA
  have B_3 : Hid (X3 w3 w1.heap.size (.int .i64 3) (.int .i64 0) (.int .i64 0)) := hB
  have R_3 : Hid (X5 w3 w2.heap.size (.int .i64 0) (.int .i64 0) (.slice none 0 0) (.slice none 0 0) (.slice none 0 0)) := hR
  have z3 : w2.heap.size + 1 ≤ w3.heap.size := by omega
  clear HB_2 OB_2 A_2 B_2 hHB hOB hA hB hR hz
  go_enter Try.func54, Try.ntmps54
  obtain ⟨⟨Aq0, Aq1, Aq2, Aq3, Aq4⟩, Af⟩ := id (A_3.out)
  clear Af
  go_wp2_with fail
  clear hV1 hV2 hV3
  refine (q0 _).mono ?_
  clear Aq0 Aq1 Aq2 Aq3 Aq4
  rintro e w' ⟨rfl, hw⟩
  subst w'
  have hZF := (((((R_3.out.set0 (.int .i64 f)).set1 (.int .i64 e)).set2 (.slice sa sn sc)).set3 (.slice la ln lc)).set4 (.slice ta tn tc))
  have hBF : Below w.heap.size w (((((w3.setCell ⟨w2.heap.size, 0, none⟩ (.int .i64 f)).setCell ⟨w2.heap.size, 1, none⟩ (.int .i64 e)).setCell ⟨w2.heap.size, 2, none⟩ (.slice sa sn sc)).setCell ⟨w2.heap.size, 3, none⟩ (.slice la ln lc)).setCell ⟨w2.heap.size, 4, none⟩ (.slice ta tn tc)) := (((((HB_3.out.setCell (by show w.heap.size ≤ w2.heap.size; omega) _).setCell (by show w.heap.size ≤ w2.heap.size; omega) _).setCell (by show w.heap.size ≤ w2.heap.size; omega) _).setCell (by show w.heap.size ≤ w2.heap.size; omega) _).setCell (by show w.heap.size ≤ w2.heap.size; omega) _)
  have hOF := (((((OB_3.out.cell (r := w2.heap.size) (j := 0) (by omega) (.int .i64 f)).cell (r := w2.heap.size) (j := 1) (by omega) (.int .i64 e)).cell (r := w2.heap.size) (j := 2) (by omega) (.slice sa sn sc)).cell (r := w2.heap.size) (j := 3) (by omega) (.slice la ln lc)).cell (r := w2.heap.size) (j := 4) (by omega) (.slice ta tn tc))
  have hszF : (((((w3.setCell ⟨w2.heap.size, 0, none⟩ (.int .i64 f)).setCell ⟨w2.heap.size, 1, none⟩ (.int .i64 e)).setCell ⟨w2.heap.size, 2, none⟩ (.slice sa sn sc)).setCell ⟨w2.heap.size, 3, none⟩ (.slice la ln lc)).setCell ⟨w2.heap.size, 4, none⟩ (.slice ta tn tc)).heap.size = w3.heap.size := by simp
  obtain ⟨⟨y0, y1, y2, y3, y4⟩, yf⟩ := id (R_3.out)
  have yf0 := yf 0
  have yf1 := yf 1
  have yf2 := yf 2
  have yf3 := yf 3
  have yf4 := yf 4
  obtain ⟨FW, hFW⟩ : ∃ F, (((((w3.setCell ⟨w2.heap.size, 0, none⟩ (.int .i64 f)).setCell ⟨w2.heap.size, 1, none⟩ (.int .i64 e)).setCell ⟨w2.heap.size, 2, none⟩ (.slice sa sn sc)).setCell ⟨w2.heap.size, 3, none⟩ (.slice la ln lc)).setCell ⟨w2.heap.size, 4, none⟩ (.slice ta tn tc)) = F := ⟨_, rfl⟩
  rw [hFW] at hZF hBF hszF hOF
  obtain ⟨⟨t0, t1, t2, t3, t4⟩, _⟩ := hZF
  have HBF : Hid (Below w.heap.size w FW) := hBF
  have HSF : Hid (FW.heap.size = w3.heap.size) := hszF
  have HOF := hid_of hOF
  clear hBF yf hszF hOF
  obtain ⟨⟨Aq0, Aq1, Aq2, Aq3, Aq4⟩, Af⟩ := id (A_3.out)
  clear Af
  obtain ⟨⟨Bq0, Bq1, Bq2⟩, Bf⟩ := id (B_3.out)
  clear Bf
  go_wp2
  refine bodyPost_ret (v := .tuple #[.agg #[.int .i64 f, .int .i64 e, .slice sa sn sc, .slice la ln lc, .slice ta tn tc], .bool false]) (by simp [results, Try.results54, go_sem, t0, t1, t2, t3, t4]; try rfl) rfl ?_
  have h9 := HSF.out
  refine ⟨sa, sc, la, lc, ta, tc, ?_, ?_, below_toP HBF.out⟩
  · simp only [HS.out, HL.out, HT.out]
  · simp only [HS.out, HL.out, HT.out]
    exact HOF.out.mono (Nat.le_refl _) (by omega)

set_option maxHeartbeats 4000000 in
theorem l13Step_e3 (f e : Int) (sa : Option Addr) (sn sc : Nat) (la : Option Addr) (ln lc : Nat) (ta : Option Addr) (tn tc : Nat) (sg : List (List Int)) (li ls : List Int) (k m l : Int) (lo hi : Nat) (w : World) (hg : goodBd ⟨f, e, sg, li, ls⟩ = true) (ho : OwnBd w lo hi (.slice sa sn sc) (.slice la ln lc) (.slice ta tn tc) ⟨f, e, sg, li, ls⟩) (hhi : hi ≤ w.heap.size) (hlo : lo ≤ hi) (hk : k = 3) (hm : m ≠ 0)  :
    Calls Try.prog 54 #[.agg #[.int .i64 f, .int .i64 e, .slice sa sn sc, .slice la ln lc, .slice ta tn tc], .agg #[.int .i64 k, .int .i64 m, .int .i64 l]] w fun r w' => StOk r w w' lo hi ⟨f, e, sg, li, ls⟩ false := by
  have G := good_is hg
  have HS : Hid (sg.length = sn) := ho.rd.sl
  have HL : Hid (li.length = ln) := ho.rd.ll
  have HT : Hid (ls.length = tn) := ho.rd.tl
  have hsn : sn ≤ 200 := by rw [← HS.out]; exact (sgsB_all G.sgOk).1
  have hln : ln ≤ 2 := by have := G.ln; have := G.f2; rw [HL.out] at *; omega
  have htn : tn ≤ 10 := by rw [← HT.out]; exact G.tn
  have HG : Hid (sgsB f sg = true) := G.sgOk
  obtain ⟨M, hM⟩ : ∃ M, 3 * f + 1 = M := ⟨_, rfl⟩
  have hM1 : 1 ≤ M := by have := G.f0; omega
  have hM7 : M ≤ 7 := by have := G.f2; omega
  have q0 : ∀ wx, Calls Try.prog 31 #[.int .i64 f] wx fun e w' => e = .returned (.tuple #[.int .i64 M, .int .i64 (2 * f + 1), .bool true]) ∧ w' = wx := fun wx => by
    have h := specQuo_c f wx
    have h2 : inB f 0 2 = true := inB_iff.2 ⟨G.f0, G.f2⟩
    simp only [quoF, h2, if_true, hM] at h
    exact h
  subst hk
  have hm2 : (m == 0) = false := by simpa using hm
  clear G hg hM  hm
  have HB_0 : Hid (Below w.heap.size w w) := Below.refl _ _
  have OB_0 : Hid (OwnBd w lo hi (.slice sa sn sc) (.slice la ln lc) (.slice ta tn tc) ⟨f, e, sg, li, ls⟩) := ho
  clear ho
  have hHB := HB_0.out.alloc HB_0.out.size (.cells #[.int .i64 f, .int .i64 e, .slice sa sn sc, .slice la ln lc, .slice ta tn tc] 29)
  have hOB := OB_0.out.later (balloc w (.cells #[.int .i64 f, .int .i64 e, .slice sa sn sc, .slice la ln lc, .slice ta tn tc] 29))
  have hA := x5_new w (.int .i64 f) (.int .i64 e) (.slice sa sn sc) (.slice la ln lc) (.slice ta tn tc) 29 w.heap.size rfl
  have hz : (w.alloc (.cells #[.int .i64 f, .int .i64 e, .slice sa sn sc, .slice la ln lc, .slice ta tn tc] 29)).heap.size = w.heap.size + 1 := by simp
  obtain ⟨w1, hV1⟩ : ∃ V, w.alloc (.cells #[.int .i64 f, .int .i64 e, .slice sa sn sc, .slice la ln lc, .slice ta tn tc] 29) = V := ⟨_, rfl⟩
  rw [hV1] at hHB hOB hA hz
  have HB_1 : Hid (Below w.heap.size w w1) := hHB
  have OB_1 : Hid (OwnBd w1 lo hi (.slice sa sn sc) (.slice la ln lc) (.slice ta tn tc) ⟨f, e, sg, li, ls⟩) := hOB
  have A_1 : Hid (X5 w1 w.heap.size (.int .i64 f) (.int .i64 e) (.slice sa sn sc) (.slice la ln lc) (.slice ta tn tc)) := hA
  have z1 : w.heap.size + 1 ≤ w1.heap.size := by omega
  clear HB_0 OB_0 hHB hOB hA hz
  have hHB := HB_1.out.alloc HB_1.out.size (.cells #[.int .i64 3, .int .i64 m, .int .i64 l] 40)
  have hOB := OB_1.out.later (balloc w1 (.cells #[.int .i64 3, .int .i64 m, .int .i64 l] 40))
  have hA := A_1.out.later (balloc w1 (.cells #[.int .i64 3, .int .i64 m, .int .i64 l] 40))
  have hB := x3_new w1 (.int .i64 3) (.int .i64 m) (.int .i64 l) 40 w1.heap.size rfl
  have hz : (w1.alloc (.cells #[.int .i64 3, .int .i64 m, .int .i64 l] 40)).heap.size = w1.heap.size + 1 := by simp
  obtain ⟨w2, hV2⟩ : ∃ V, w1.alloc (.cells #[.int .i64 3, .int .i64 m, .int .i64 l] 40) = V := ⟨_, rfl⟩
  rw [hV2] at hHB hOB hA hB hz
  have HB_2 : Hid (Below w.heap.size w w2) := hHB
  have OB_2 : Hid (OwnBd w2 lo hi (.slice sa sn sc) (.slice la ln lc) (.slice ta tn tc) ⟨f, e, sg, li, ls⟩) := hOB
  have A_2 : Hid (X5 w2 w.heap.size (.int .i64 f) (.int .i64 e) (.slice sa sn sc) (.slice la ln lc) (.slice ta tn tc)) := hA
  have B_2 : Hid (X3 w2 w1.heap.size (.int .i64 3) (.int .i64 m) (.int .i64 l)) := hB
  have z2 : w1.heap.size + 1 ≤ w2.heap.size := by omega
  clear HB_1 OB_1 A_1 hHB hOB hA hB hz
  have hHB := HB_2.out.alloc HB_2.out.size (.cells #[.int .i64 0, .int .i64 0, .slice none 0 0, .slice none 0 0, .slice none 0 0] 29)
  have hOB := OB_2.out.later (balloc w2 (.cells #[.int .i64 0, .int .i64 0, .slice none 0 0, .slice none 0 0, .slice none 0 0] 29))
  have hA := A_2.out.later (balloc w2 (.cells #[.int .i64 0, .int .i64 0, .slice none 0 0, .slice none 0 0, .slice none 0 0] 29))
  have hB := B_2.out.later (balloc w2 (.cells #[.int .i64 0, .int .i64 0, .slice none 0 0, .slice none 0 0, .slice none 0 0] 29))
  have hR := x5_new w2 (.int .i64 0) (.int .i64 0) (.slice none 0 0) (.slice none 0 0) (.slice none 0 0) 29 w2.heap.size rfl
  have hz : (w2.alloc (.cells #[.int .i64 0, .int .i64 0, .slice none 0 0, .slice none 0 0, .slice none 0 0] 29)).heap.size = w2.heap.size + 1 := by simp
  obtain ⟨w3, hV3⟩ : ∃ V, w2.alloc (.cells #[.int .i64 0, .int .i64 0, .slice none 0 0, .slice none 0 0, .slice none 0 0] 29) = V := ⟨_, rfl⟩
  rw [hV3] at hHB hOB hA hB hR hz
  have HB_3 : Hid (Below w.heap.size w w3) := hHB
  have OB_3 : Hid (OwnBd w3 lo hi (.slice sa sn sc) (.slice la ln lc) (.slice ta tn tc) ⟨f, e, sg, li, ls⟩) := hOB
  have A_3 : Hid (X5 w3 w.heap.size (.int .i64 f) (.int .i64 e) (.slice sa sn sc) (.slice la ln lc) (.slice ta tn tc)) := hA
  have B_3 : Hid (X3 w3 w1.heap.size (.int .i64 3) (.int .i64 m) (.int .i64 l)) := hB
  have R_3 : Hid (X5 w3 w2.heap.size (.int .i64 0) (.int .i64 0) (.slice none 0 0) (.slice none 0 0) (.slice none 0 0)) := hR
  have z3 : w2.heap.size + 1 ≤ w3.heap.size := by omega
  clear HB_2 OB_2 A_2 B_2 hHB hOB hA hB hR hz
  go_enter Try.func54, Try.ntmps54
  obtain ⟨⟨Aq0, Aq1, Aq2, Aq3, Aq4⟩, Af⟩ := id (A_3.out)
  clear Af
  go_wp2_with fail
  clear hV1 hV2 hV3
  refine (q0 _).mono ?_
  clear Aq0 Aq1 Aq2 Aq3 Aq4
  rintro e w' ⟨rfl, hw⟩
  subst w'
  have hZF := (((((R_3.out.set0 (.int .i64 f)).set1 (.int .i64 e)).set2 (.slice sa sn sc)).set3 (.slice la ln lc)).set4 (.slice ta tn tc))
  have hBF : Below w.heap.size w (((((w3.setCell ⟨w2.heap.size, 0, none⟩ (.int .i64 f)).setCell ⟨w2.heap.size, 1, none⟩ (.int .i64 e)).setCell ⟨w2.heap.size, 2, none⟩ (.slice sa sn sc)).setCell ⟨w2.heap.size, 3, none⟩ (.slice la ln lc)).setCell ⟨w2.heap.size, 4, none⟩ (.slice ta tn tc)) := (((((HB_3.out.setCell (by show w.heap.size ≤ w2.heap.size; omega) _).setCell (by show w.heap.size ≤ w2.heap.size; omega) _).setCell (by show w.heap.size ≤ w2.heap.size; omega) _).setCell (by show w.heap.size ≤ w2.heap.size; omega) _).setCell (by show w.heap.size ≤ w2.heap.size; omega) _)
  have hOF := (((((OB_3.out.cell (r := w2.heap.size) (j := 0) (by omega) (.int .i64 f)).cell (r := w2.heap.size) (j := 1) (by omega) (.int .i64 e)).cell (r := w2.heap.size) (j := 2) (by omega) (.slice sa sn sc)).cell (r := w2.heap.size) (j := 3) (by omega) (.slice la ln lc)).cell (r := w2.heap.size) (j := 4) (by omega) (.slice ta tn tc))
  have hszF : (((((w3.setCell ⟨w2.heap.size, 0, none⟩ (.int .i64 f)).setCell ⟨w2.heap.size, 1, none⟩ (.int .i64 e)).setCell ⟨w2.heap.size, 2, none⟩ (.slice sa sn sc)).setCell ⟨w2.heap.size, 3, none⟩ (.slice la ln lc)).setCell ⟨w2.heap.size, 4, none⟩ (.slice ta tn tc)).heap.size = w3.heap.size := by simp
  obtain ⟨⟨y0, y1, y2, y3, y4⟩, yf⟩ := id (R_3.out)
  have yf0 := yf 0
  have yf1 := yf 1
  have yf2 := yf 2
  have yf3 := yf 3
  have yf4 := yf 4
  obtain ⟨FW, hFW⟩ : ∃ F, (((((w3.setCell ⟨w2.heap.size, 0, none⟩ (.int .i64 f)).setCell ⟨w2.heap.size, 1, none⟩ (.int .i64 e)).setCell ⟨w2.heap.size, 2, none⟩ (.slice sa sn sc)).setCell ⟨w2.heap.size, 3, none⟩ (.slice la ln lc)).setCell ⟨w2.heap.size, 4, none⟩ (.slice ta tn tc)) = F := ⟨_, rfl⟩
  rw [hFW] at hZF hBF hszF hOF
  obtain ⟨⟨t0, t1, t2, t3, t4⟩, _⟩ := hZF
  have HBF : Hid (Below w.heap.size w FW) := hBF
  have HSF : Hid (FW.heap.size = w3.heap.size) := hszF
  have HOF := hid_of hOF
  clear hBF yf hszF hOF
  obtain ⟨⟨Aq0, Aq1, Aq2, Aq3, Aq4⟩, Af⟩ := id (A_3.out)
  clear Af
  obtain ⟨⟨Bq0, Bq1, Bq2⟩, Bf⟩ := id (B_3.out)
  clear Bf
  go_wp2
  refine bodyPost_ret (v := .tuple #[.agg #[.int .i64 f, .int .i64 e, .slice sa sn sc, .slice la ln lc, .slice ta tn tc], .bool false]) (by simp [results, Try.results54, go_sem, t0, t1, t2, t3, t4]; try rfl) rfl ?_
  have h9 := HSF.out
  refine ⟨sa, sc, la, lc, ta, tc, ?_, ?_, below_toP HBF.out⟩
  · simp only [HS.out, HL.out, HT.out]
  · simp only [HS.out, HL.out, HT.out]
    exact HOF.out.mono (Nat.le_refl _) (by omega)

set_option maxHeartbeats 4000000 in
theorem l13Step_e4 (f e : Int) (sa : Option Addr) (sn sc : Nat) (la : Option Addr) (ln lc : Nat) (ta : Option Addr) (tn tc : Nat) (sg : List (List Int)) (li ls : List Int) (k m l : Int) (lo hi : Nat) (w : World) (hg : goodBd ⟨f, e, sg, li, ls⟩ = true) (ho : OwnBd w lo hi (.slice sa sn sc) (.slice la ln lc) (.slice ta tn tc) ⟨f, e, sg, li, ls⟩) (hhi : hi ≤ w.heap.size) (hlo : lo ≤ hi) (hk : k = 3) (hm : m = 0) (hl : l ≠ 0)  :
    Calls Try.prog 54 #[.agg #[.int .i64 f, .int .i64 e, .slice sa sn sc, .slice la ln lc, .slice ta tn tc], .agg #[.int .i64 k, .int .i64 m, .int .i64 l]] w fun r w' => StOk r w w' lo hi ⟨f, e, sg, li, ls⟩ false := by
  have G := good_is hg
  have HS : Hid (sg.length = sn) := ho.rd.sl
  have HL : Hid (li.length = ln) := ho.rd.ll
  have HT : Hid (ls.length = tn) := ho.rd.tl
  have hsn : sn ≤ 200 := by rw [← HS.out]; exact (sgsB_all G.sgOk).1
  have hln : ln ≤ 2 := by have := G.ln; have := G.f2; rw [HL.out] at *; omega
  have htn : tn ≤ 10 := by rw [← HT.out]; exact G.tn
  have HG : Hid (sgsB f sg = true) := G.sgOk
  obtain ⟨M, hM⟩ : ∃ M, 3 * f + 1 = M := ⟨_, rfl⟩
  have hM1 : 1 ≤ M := by have := G.f0; omega
  have hM7 : M ≤ 7 := by have := G.f2; omega
  have q0 : ∀ wx, Calls Try.prog 31 #[.int .i64 f] wx fun e w' => e = .returned (.tuple #[.int .i64 M, .int .i64 (2 * f + 1), .bool true]) ∧ w' = wx := fun wx => by
    have h := specQuo_c f wx
    have h2 : inB f 0 2 = true := inB_iff.2 ⟨G.f0, G.f2⟩
    simp only [quoF, h2, if_true, hM] at h
    exact h
  subst hk
  subst hm
  have hl2 : (l == 0) = false := by simpa using hl
  clear G hg hM  hl
  have HB_0 : Hid (Below w.heap.size w w) := Below.refl _ _
  have OB_0 : Hid (OwnBd w lo hi (.slice sa sn sc) (.slice la ln lc) (.slice ta tn tc) ⟨f, e, sg, li, ls⟩) := ho
  clear ho
  have hHB := HB_0.out.alloc HB_0.out.size (.cells #[.int .i64 f, .int .i64 e, .slice sa sn sc, .slice la ln lc, .slice ta tn tc] 29)
  have hOB := OB_0.out.later (balloc w (.cells #[.int .i64 f, .int .i64 e, .slice sa sn sc, .slice la ln lc, .slice ta tn tc] 29))
  have hA := x5_new w (.int .i64 f) (.int .i64 e) (.slice sa sn sc) (.slice la ln lc) (.slice ta tn tc) 29 w.heap.size rfl
  have hz : (w.alloc (.cells #[.int .i64 f, .int .i64 e, .slice sa sn sc, .slice la ln lc, .slice ta tn tc] 29)).heap.size = w.heap.size + 1 := by simp
  obtain ⟨w1, hV1⟩ : ∃ V, w.alloc (.cells #[.int .i64 f, .int .i64 e, .slice sa sn sc, .slice la ln lc, .slice ta tn tc] 29) = V := ⟨_, rfl⟩
  rw [hV1] at hHB hOB hA hz
  have HB_1 : Hid (Below w.heap.size w w1) := hHB
  have OB_1 : Hid (OwnBd w1 lo hi (.slice sa sn sc) (.slice la ln lc) (.slice ta tn tc) ⟨f, e, sg, li, ls⟩) := hOB
  have A_1 : Hid (X5 w1 w.heap.size (.int .i64 f) (.int .i64 e) (.slice sa sn sc) (.slice la ln lc) (.slice ta tn tc)) := hA
  have z1 : w.heap.size + 1 ≤ w1.heap.size := by omega
  clear HB_0 OB_0 hHB hOB hA hz
  have hHB := HB_1.out.alloc HB_1.out.size (.cells #[.int .i64 3, .int .i64 0, .int .i64 l] 40)
  have hOB := OB_1.out.later (balloc w1 (.cells #[.int .i64 3, .int .i64 0, .int .i64 l] 40))
  have hA := A_1.out.later (balloc w1 (.cells #[.int .i64 3, .int .i64 0, .int .i64 l] 40))
  have hB := x3_new w1 (.int .i64 3) (.int .i64 0) (.int .i64 l) 40 w1.heap.size rfl
  have hz : (w1.alloc (.cells #[.int .i64 3, .int .i64 0, .int .i64 l] 40)).heap.size = w1.heap.size + 1 := by simp
  obtain ⟨w2, hV2⟩ : ∃ V, w1.alloc (.cells #[.int .i64 3, .int .i64 0, .int .i64 l] 40) = V := ⟨_, rfl⟩
  rw [hV2] at hHB hOB hA hB hz
  have HB_2 : Hid (Below w.heap.size w w2) := hHB
  have OB_2 : Hid (OwnBd w2 lo hi (.slice sa sn sc) (.slice la ln lc) (.slice ta tn tc) ⟨f, e, sg, li, ls⟩) := hOB
  have A_2 : Hid (X5 w2 w.heap.size (.int .i64 f) (.int .i64 e) (.slice sa sn sc) (.slice la ln lc) (.slice ta tn tc)) := hA
  have B_2 : Hid (X3 w2 w1.heap.size (.int .i64 3) (.int .i64 0) (.int .i64 l)) := hB
  have z2 : w1.heap.size + 1 ≤ w2.heap.size := by omega
  clear HB_1 OB_1 A_1 hHB hOB hA hB hz
  have hHB := HB_2.out.alloc HB_2.out.size (.cells #[.int .i64 0, .int .i64 0, .slice none 0 0, .slice none 0 0, .slice none 0 0] 29)
  have hOB := OB_2.out.later (balloc w2 (.cells #[.int .i64 0, .int .i64 0, .slice none 0 0, .slice none 0 0, .slice none 0 0] 29))
  have hA := A_2.out.later (balloc w2 (.cells #[.int .i64 0, .int .i64 0, .slice none 0 0, .slice none 0 0, .slice none 0 0] 29))
  have hB := B_2.out.later (balloc w2 (.cells #[.int .i64 0, .int .i64 0, .slice none 0 0, .slice none 0 0, .slice none 0 0] 29))
  have hR := x5_new w2 (.int .i64 0) (.int .i64 0) (.slice none 0 0) (.slice none 0 0) (.slice none 0 0) 29 w2.heap.size rfl
  have hz : (w2.alloc (.cells #[.int .i64 0, .int .i64 0, .slice none 0 0, .slice none 0 0, .slice none 0 0] 29)).heap.size = w2.heap.size + 1 := by simp
  obtain ⟨w3, hV3⟩ : ∃ V, w2.alloc (.cells #[.int .i64 0, .int .i64 0, .slice none 0 0, .slice none 0 0, .slice none 0 0] 29) = V := ⟨_, rfl⟩
  rw [hV3] at hHB hOB hA hB hR hz
  have HB_3 : Hid (Below w.heap.size w w3) := hHB
  have OB_3 : Hid (OwnBd w3 lo hi (.slice sa sn sc) (.slice la ln lc) (.slice ta tn tc) ⟨f, e, sg, li, ls⟩) := hOB
  have A_3 : Hid (X5 w3 w.heap.size (.int .i64 f) (.int .i64 e) (.slice sa sn sc) (.slice la ln lc) (.slice ta tn tc)) := hA
  have B_3 : Hid (X3 w3 w1.heap.size (.int .i64 3) (.int .i64 0) (.int .i64 l)) := hB
  have R_3 : Hid (X5 w3 w2.heap.size (.int .i64 0) (.int .i64 0) (.slice none 0 0) (.slice none 0 0) (.slice none 0 0)) := hR
  have z3 : w2.heap.size + 1 ≤ w3.heap.size := by omega
  clear HB_2 OB_2 A_2 B_2 hHB hOB hA hB hR hz
  go_enter Try.func54, Try.ntmps54
  obtain ⟨⟨Aq0, Aq1, Aq2, Aq3, Aq4⟩, Af⟩ := id (A_3.out)
  clear Af
  go_wp2_with fail
  clear hV1 hV2 hV3
  refine (q0 _).mono ?_
  clear Aq0 Aq1 Aq2 Aq3 Aq4
  rintro e w' ⟨rfl, hw⟩
  subst w'
  have hZF := (((((R_3.out.set0 (.int .i64 f)).set1 (.int .i64 e)).set2 (.slice sa sn sc)).set3 (.slice la ln lc)).set4 (.slice ta tn tc))
  have hBF : Below w.heap.size w (((((w3.setCell ⟨w2.heap.size, 0, none⟩ (.int .i64 f)).setCell ⟨w2.heap.size, 1, none⟩ (.int .i64 e)).setCell ⟨w2.heap.size, 2, none⟩ (.slice sa sn sc)).setCell ⟨w2.heap.size, 3, none⟩ (.slice la ln lc)).setCell ⟨w2.heap.size, 4, none⟩ (.slice ta tn tc)) := (((((HB_3.out.setCell (by show w.heap.size ≤ w2.heap.size; omega) _).setCell (by show w.heap.size ≤ w2.heap.size; omega) _).setCell (by show w.heap.size ≤ w2.heap.size; omega) _).setCell (by show w.heap.size ≤ w2.heap.size; omega) _).setCell (by show w.heap.size ≤ w2.heap.size; omega) _)
  have hOF := (((((OB_3.out.cell (r := w2.heap.size) (j := 0) (by omega) (.int .i64 f)).cell (r := w2.heap.size) (j := 1) (by omega) (.int .i64 e)).cell (r := w2.heap.size) (j := 2) (by omega) (.slice sa sn sc)).cell (r := w2.heap.size) (j := 3) (by omega) (.slice la ln lc)).cell (r := w2.heap.size) (j := 4) (by omega) (.slice ta tn tc))
  have hszF : (((((w3.setCell ⟨w2.heap.size, 0, none⟩ (.int .i64 f)).setCell ⟨w2.heap.size, 1, none⟩ (.int .i64 e)).setCell ⟨w2.heap.size, 2, none⟩ (.slice sa sn sc)).setCell ⟨w2.heap.size, 3, none⟩ (.slice la ln lc)).setCell ⟨w2.heap.size, 4, none⟩ (.slice ta tn tc)).heap.size = w3.heap.size := by simp
  obtain ⟨⟨y0, y1, y2, y3, y4⟩, yf⟩ := id (R_3.out)
  have yf0 := yf 0
  have yf1 := yf 1
  have yf2 := yf 2
  have yf3 := yf 3
  have yf4 := yf 4
  obtain ⟨FW, hFW⟩ : ∃ F, (((((w3.setCell ⟨w2.heap.size, 0, none⟩ (.int .i64 f)).setCell ⟨w2.heap.size, 1, none⟩ (.int .i64 e)).setCell ⟨w2.heap.size, 2, none⟩ (.slice sa sn sc)).setCell ⟨w2.heap.size, 3, none⟩ (.slice la ln lc)).setCell ⟨w2.heap.size, 4, none⟩ (.slice ta tn tc)) = F := ⟨_, rfl⟩
  rw [hFW] at hZF hBF hszF hOF
  obtain ⟨⟨t0, t1, t2, t3, t4⟩, _⟩ := hZF
  have HBF : Hid (Below w.heap.size w FW) := hBF
  have HSF : Hid (FW.heap.size = w3.heap.size) := hszF
  have HOF := hid_of hOF
  clear hBF yf hszF hOF
  obtain ⟨⟨Aq0, Aq1, Aq2, Aq3, Aq4⟩, Af⟩ := id (A_3.out)
  clear Af
  obtain ⟨⟨Bq0, Bq1, Bq2⟩, Bf⟩ := id (B_3.out)
  clear Bf
  go_wp2
  refine bodyPost_ret (v := .tuple #[.agg #[.int .i64 f, .int .i64 e, .slice sa sn sc, .slice la ln lc, .slice ta tn tc], .bool false]) (by simp [results, Try.results54, go_sem, t0, t1, t2, t3, t4]; try rfl) rfl ?_
  have h9 := HSF.out
  refine ⟨sa, sc, la, lc, ta, tc, ?_, ?_, below_toP HBF.out⟩
  · simp only [HS.out, HL.out, HT.out]
  · simp only [HS.out, HL.out, HT.out]
    exact HOF.out.mono (Nat.le_refl _) (by omega)

set_option maxHeartbeats 4000000 in
theorem l13Step_o (f e : Int) (sa : Option Addr) (sn sc : Nat) (la : Option Addr) (ln lc : Nat) (ta : Option Addr) (tn tc : Nat) (sg : List (List Int)) (li ls : List Int) (k m l : Int) (lo hi : Nat) (w : World) (hg : goodBd ⟨f, e, sg, li, ls⟩ = true) (ho : OwnBd w lo hi (.slice sa sn sc) (.slice la ln lc) (.slice ta tn tc) ⟨f, e, sg, li, ls⟩) (hhi : hi ≤ w.heap.size) (hlo : lo ≤ hi) (h1 : k ≠ 1) (h2 : k ≠ 2) (h3 : k ≠ 3)  :
    Calls Try.prog 54 #[.agg #[.int .i64 f, .int .i64 e, .slice sa sn sc, .slice la ln lc, .slice ta tn tc], .agg #[.int .i64 k, .int .i64 m, .int .i64 l]] w fun r w' => StOk r w w' lo hi ⟨f, e, sg, li, ls⟩ false := by
  have G := good_is hg
  have HS : Hid (sg.length = sn) := ho.rd.sl
  have HL : Hid (li.length = ln) := ho.rd.ll
  have HT : Hid (ls.length = tn) := ho.rd.tl
  have hsn : sn ≤ 200 := by rw [← HS.out]; exact (sgsB_all G.sgOk).1
  have hln : ln ≤ 2 := by have := G.ln; have := G.f2; rw [HL.out] at *; omega
  have htn : tn ≤ 10 := by rw [← HT.out]; exact G.tn
  have HG : Hid (sgsB f sg = true) := G.sgOk
  obtain ⟨M, hM⟩ : ∃ M, 3 * f + 1 = M := ⟨_, rfl⟩
  have hM1 : 1 ≤ M := by have := G.f0; omega
  have hM7 : M ≤ 7 := by have := G.f2; omega
  have q0 : ∀ wx, Calls Try.prog 31 #[.int .i64 f] wx fun e w' => e = .returned (.tuple #[.int .i64 M, .int .i64 (2 * f + 1), .bool true]) ∧ w' = wx := fun wx => by
    have h := specQuo_c f wx
    have h2 : inB f 0 2 = true := inB_iff.2 ⟨G.f0, G.f2⟩
    simp only [quoF, h2, if_true, hM] at h
    exact h
  have h1b : (k == 1) = false := by simpa using h1
  have h2b : (k == 2) = false := by simpa using h2
  have h3b : (k == 3) = false := by simpa using h3
  clear G hg hM  h1 h2 h3
  have HB_0 : Hid (Below w.heap.size w w) := Below.refl _ _
  have OB_0 : Hid (OwnBd w lo hi (.slice sa sn sc) (.slice la ln lc) (.slice ta tn tc) ⟨f, e, sg, li, ls⟩) := ho
  clear ho
  have hHB := HB_0.out.alloc HB_0.out.size (.cells #[.int .i64 f, .int .i64 e, .slice sa sn sc, .slice la ln lc, .slice ta tn tc] 29)
  have hOB := OB_0.out.later (balloc w (.cells #[.int .i64 f, .int .i64 e, .slice sa sn sc, .slice la ln lc, .slice ta tn tc] 29))
  have hA := x5_new w (.int .i64 f) (.int .i64 e) (.slice sa sn sc) (.slice la ln lc) (.slice ta tn tc) 29 w.heap.size rfl
  have hz : (w.alloc (.cells #[.int .i64 f, .int .i64 e, .slice sa sn sc, .slice la ln lc, .slice ta tn tc] 29)).heap.size = w.heap.size + 1 := by simp
  obtain ⟨w1, hV1⟩ : ∃ V, w.alloc (.cells #[.int .i64 f, .int .i64 e, .slice sa sn sc, .slice la ln lc, .slice ta tn tc] 29) = V := ⟨_, rfl⟩
  rw [hV1] at hHB hOB hA hz
  have HB_1 : Hid (Below w.heap.size w w1) := hHB
  have OB_1 : Hid (OwnBd w1 lo hi (.slice sa sn sc) (.slice la ln lc) (.slice ta tn tc) ⟨f, e, sg, li, ls⟩) := hOB
  have A_1 : Hid (X5 w1 w.heap.size (.int .i64 f) (.int .i64 e) (.slice sa sn sc) (.slice la ln lc) (.slice ta tn tc)) := hA
  have z1 : w.heap.size + 1 ≤ w1.heap.size := by omega
  clear HB_0 OB_0 hHB hOB hA hz
  have hHB := HB_1.out.alloc HB_1.out.size (.cells #[.int .i64 k, .int .i64 m, .int .i64 l] 40)
  have hOB := OB_1.out.later (balloc w1 (.cells #[.int .i64 k, .int .i64 m, .int .i64 l] 40))
  have hA := A_1.out.later (balloc w1 (.cells #[.int .i64 k, .int .i64 m, .int .i64 l] 40))
  have hB := x3_new w1 (.int .i64 k) (.int .i64 m) (.int .i64 l) 40 w1.heap.size rfl
  have hz : (w1.alloc (.cells #[.int .i64 k, .int .i64 m, .int .i64 l] 40)).heap.size = w1.heap.size + 1 := by simp
  obtain ⟨w2, hV2⟩ : ∃ V, w1.alloc (.cells #[.int .i64 k, .int .i64 m, .int .i64 l] 40) = V := ⟨_, rfl⟩
  rw [hV2] at hHB hOB hA hB hz
  have HB_2 : Hid (Below w.heap.size w w2) := hHB
  have OB_2 : Hid (OwnBd w2 lo hi (.slice sa sn sc) (.slice la ln lc) (.slice ta tn tc) ⟨f, e, sg, li, ls⟩) := hOB
  have A_2 : Hid (X5 w2 w.heap.size (.int .i64 f) (.int .i64 e) (.slice sa sn sc) (.slice la ln lc) (.slice ta tn tc)) := hA
  have B_2 : Hid (X3 w2 w1.heap.size (.int .i64 k) (.int .i64 m) (.int .i64 l)) := hB
  have z2 : w1.heap.size + 1 ≤ w2.heap.size := by omega
  clear HB_1 OB_1 A_1 hHB hOB hA hB hz
  have hHB := HB_2.out.alloc HB_2.out.size (.cells #[.int .i64 0, .int .i64 0, .slice none 0 0, .slice none 0 0, .slice none 0 0] 29)
  have hOB := OB_2.out.later (balloc w2 (.cells #[.int .i64 0, .int .i64 0, .slice none 0 0, .slice none 0 0, .slice none 0 0] 29))
  have hA := A_2.out.later (balloc w2 (.cells #[.int .i64 0, .int .i64 0, .slice none 0 0, .slice none 0 0, .slice none 0 0] 29))
  have hB := B_2.out.later (balloc w2 (.cells #[.int .i64 0, .int .i64 0, .slice none 0 0, .slice none 0 0, .slice none 0 0] 29))
  have hR := x5_new w2 (.int .i64 0) (.int .i64 0) (.slice none 0 0) (.slice none 0 0) (.slice none 0 0) 29 w2.heap.size rfl
  have hz : (w2.alloc (.cells #[.int .i64 0, .int .i64 0, .slice none 0 0, .slice none 0 0, .slice none 0 0] 29)).heap.size = w2.heap.size + 1 := by simp
  obtain ⟨w3, hV3⟩ : ∃ V, w2.alloc (.cells #[.int .i64 0, .int .i64 0, .slice none 0 0, .slice none 0 0, .slice none 0 0] 29) = V := ⟨_, rfl⟩
  rw [hV3] at hHB hOB hA hB hR hz
  have HB_3 : Hid (Below w.heap.size w w3) := hHB
  have OB_3 : Hid (OwnBd w3 lo hi (.slice sa sn sc) (.slice la ln lc) (.slice ta tn tc) ⟨f, e, sg, li, ls⟩) := hOB
  have A_3 : Hid (X5 w3 w.heap.size (.int .i64 f) (.int .i64 e) (.slice sa sn sc) (.slice la ln lc) (.slice ta tn tc)) := hA
  have B_3 : Hid (X3 w3 w1.heap.size (.int .i64 k) (.int .i64 m) (.int .i64 l)) := hB
  have R_3 : Hid (X5 w3 w2.heap.size (.int .i64 0) (.int .i64 0) (.slice none 0 0) (.slice none 0 0) (.slice none 0 0)) := hR
  have z3 : w2.heap.size + 1 ≤ w3.heap.size := by omega
  clear HB_2 OB_2 A_2 B_2 hHB hOB hA hB hR hz
  go_enter Try.func54, Try.ntmps54
  obtain ⟨⟨Aq0, Aq1, Aq2, Aq3, Aq4⟩, Af⟩ := id (A_3.out)
  clear Af
  go_wp2_with fail
  clear hV1 hV2 hV3
  refine (q0 _).mono ?_
  clear Aq0 Aq1 Aq2 Aq3 Aq4
  rintro e w' ⟨rfl, hw⟩
  subst w'
  have hZF := (((((R_3.out.set0 (.int .i64 f)).set1 (.int .i64 e)).set2 (.slice sa sn sc)).set3 (.slice la ln lc)).set4 (.slice ta tn tc))
  have hBF : Below w.heap.size w (((((w3.setCell ⟨w2.heap.size, 0, none⟩ (.int .i64 f)).setCell ⟨w2.heap.size, 1, none⟩ (.int .i64 e)).setCell ⟨w2.heap.size, 2, none⟩ (.slice sa sn sc)).setCell ⟨w2.heap.size, 3, none⟩ (.slice la ln lc)).setCell ⟨w2.heap.size, 4, none⟩ (.slice ta tn tc)) := (((((HB_3.out.setCell (by show w.heap.size ≤ w2.heap.size; omega) _).setCell (by show w.heap.size ≤ w2.heap.size; omega) _).setCell (by show w.heap.size ≤ w2.heap.size; omega) _).setCell (by show w.heap.size ≤ w2.heap.size; omega) _).setCell (by show w.heap.size ≤ w2.heap.size; omega) _)
  have hOF := (((((OB_3.out.cell (r := w2.heap.size) (j := 0) (by omega) (.int .i64 f)).cell (r := w2.heap.size) (j := 1) (by omega) (.int .i64 e)).cell (r := w2.heap.size) (j := 2) (by omega) (.slice sa sn sc)).cell (r := w2.heap.size) (j := 3) (by omega) (.slice la ln lc)).cell (r := w2.heap.size) (j := 4) (by omega) (.slice ta tn tc))
  have hszF : (((((w3.setCell ⟨w2.heap.size, 0, none⟩ (.int .i64 f)).setCell ⟨w2.heap.size, 1, none⟩ (.int .i64 e)).setCell ⟨w2.heap.size, 2, none⟩ (.slice sa sn sc)).setCell ⟨w2.heap.size, 3, none⟩ (.slice la ln lc)).setCell ⟨w2.heap.size, 4, none⟩ (.slice ta tn tc)).heap.size = w3.heap.size := by simp
  obtain ⟨⟨y0, y1, y2, y3, y4⟩, yf⟩ := id (R_3.out)
  have yf0 := yf 0
  have yf1 := yf 1
  have yf2 := yf 2
  have yf3 := yf 3
  have yf4 := yf 4
  obtain ⟨FW, hFW⟩ : ∃ F, (((((w3.setCell ⟨w2.heap.size, 0, none⟩ (.int .i64 f)).setCell ⟨w2.heap.size, 1, none⟩ (.int .i64 e)).setCell ⟨w2.heap.size, 2, none⟩ (.slice sa sn sc)).setCell ⟨w2.heap.size, 3, none⟩ (.slice la ln lc)).setCell ⟨w2.heap.size, 4, none⟩ (.slice ta tn tc)) = F := ⟨_, rfl⟩
  rw [hFW] at hZF hBF hszF hOF
  obtain ⟨⟨t0, t1, t2, t3, t4⟩, _⟩ := hZF
  have HBF : Hid (Below w.heap.size w FW) := hBF
  have HSF : Hid (FW.heap.size = w3.heap.size) := hszF
  have HOF := hid_of hOF
  clear hBF yf hszF hOF
  obtain ⟨⟨Aq0, Aq1, Aq2, Aq3, Aq4⟩, Af⟩ := id (A_3.out)
  clear Af
  obtain ⟨⟨Bq0, Bq1, Bq2⟩, Bf⟩ := id (B_3.out)
  clear Bf
  go_wp2
  refine bodyPost_ret (v := .tuple #[.agg #[.int .i64 f, .int .i64 e, .slice sa sn sc, .slice la ln lc, .slice ta tn tc], .bool false]) (by simp [results, Try.results54, go_sem, t0, t1, t2, t3, t4]; try rfl) rfl ?_
  have h9 := HSF.out
  refine ⟨sa, sc, la, lc, ta, tc, ?_, ?_, below_toP HBF.out⟩
  · simp only [HS.out, HL.out, HT.out]
  · simp only [HS.out, HL.out, HT.out]
    exact HOF.out.mono (Nat.le_refl _) (by omega)

end Go.Proofs.Ytaokmjbhgkfnfaa
