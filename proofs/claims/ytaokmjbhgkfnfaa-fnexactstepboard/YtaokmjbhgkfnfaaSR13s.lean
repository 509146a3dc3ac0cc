/- Chapter 13: StepBoard of the specification. -/
import Derived.Test.YtaokmjbhgkfnfaaBX13s
namespace Go.Proofs.Ytaokmjbhgkfnfaa
set_option linter.unusedVariables false
set_option maxRecDepth 1000000
set_option linter.unusedSimpArgs false
open Go.RowKit

set_option maxHeartbeats 16000000 in
theorem specStep_bad (f e : Int) (sa : Option Addr) (sn sc : Nat) (la : Option Addr) (ln lc : Nat) (ta : Option Addr) (tn tc : Nat) (sg : List (List Int)) (li ls : List Int) (k m l : Int) (w : World) (hg : goodBd ⟨f, e, sg, li, ls⟩ = false) (hr : ReadB w sa sn sc la ln lc ta tn tc ⟨f, e, sg, li, ls⟩) (hsn : sn ≤ 1048576) (hln : ln ≤ 1048576) (htn : tn ≤ 1048576) :
    Calls Try.prog 21 #[.agg #[.int .i64 f, .int .i64 e, .slice sa sn sc, .slice la ln lc, .slice ta tn tc], .agg #[.int .i64 k, .int .i64 m, .int .i64 l]] w fun r w' => BdOk r w w' (stepV ⟨f, e, sg, li, ls⟩ k m l) (stepB ⟨f, e, sg, li, ls⟩ k m l) := by
  have q0 := fun wx (h : ReadB wx sa sn sc la ln lc ta tn tc ⟨f, e, sg, li, ls⟩) => specGood_c f e sa sn sc la ln lc ta tn tc sg li ls wx hr.rd.cp hr.rd.sl (by omega) hr.rd.ll (by omega) hr.rd.tl (by omega) h.rd.s h.rd.l h.rd.t
  rw [hg] at q0
  have HV : Hid (stepB ⟨f, e, sg, li, ls⟩ k m l = false ∧ stepV ⟨f, e, sg, li, ls⟩ k m l = zeroBd) := step_bad hg
  clear hg hsn hln htn
  have HB_0 : Hid (Below w.heap.size w w) := Below.refl _ _
  have RB_0 : Hid (ReadB w sa sn sc la ln lc ta tn tc ⟨f, e, sg, li, ls⟩) := hr
  clear hr
  have hHB := HB_0.out.alloc HB_0.out.size (.cells #[.int .i64 f, .int .i64 e, .slice sa sn sc, .slice la ln lc, .slice ta tn tc] 29)
  have hRB := RB_0.out.later (balloc w (.cells #[.int .i64 f, .int .i64 e, .slice sa sn sc, .slice la ln lc, .slice ta tn tc] 29))
  have hA := x5_new w (.int .i64 f) (.int .i64 e) (.slice sa sn sc) (.slice la ln lc) (.slice ta tn tc) 29 w.heap.size rfl
  have hz : (w.alloc (.cells #[.int .i64 f, .int .i64 e, .slice sa sn sc, .slice la ln lc, .slice ta tn tc] 29)).heap.size = w.heap.size + 1 := by simp
  obtain ⟨w1, hV1⟩ : ∃ V, w.alloc (.cells #[.int .i64 f, .int .i64 e, .slice sa sn sc, .slice la ln lc, .slice ta tn tc] 29) = V := ⟨_, rfl⟩
  rw [hV1] at hHB hRB hA hz
  have HB_1 : Hid (Below w.heap.size w w1) := hHB
  have RB_1 : Hid (ReadB w1 sa sn sc la ln lc ta tn tc ⟨f, e, sg, li, ls⟩) := hRB
  have A_1 : Hid (X5 w1 w.heap.size (.int .i64 f) (.int .i64 e) (.slice sa sn sc) (.slice la ln lc) (.slice ta tn tc)) := hA
  have z1 : w.heap.size + 1 ≤ w1.heap.size := by omega
  clear HB_0 RB_0 hHB hRB hA hz
  have hHB := HB_1.out.alloc HB_1.out.size (.cells #[.int .i64 k, .int .i64 m, .int .i64 l] 40)
  have hRB := RB_1.out.later (balloc w1 (.cells #[.int .i64 k, .int .i64 m, .int .i64 l] 40))
  have hA := A_1.out.later (balloc w1 (.cells #[.int .i64 k, .int .i64 m, .int .i64 l] 40))
  have hB := x3_new w1 (.int .i64 k) (.int .i64 m) (.int .i64 l) 40 w1.heap.size rfl
  have hz : (w1.alloc (.cells #[.int .i64 k, .int .i64 m, .int .i64 l] 40)).heap.size = w1.heap.size + 1 := by simp
  obtain ⟨w2, hV2⟩ : ∃ V, w1.alloc (.cells #[.int .i64 k, .int .i64 m, .int .i64 l] 40) = V := ⟨_, rfl⟩
  rw [hV2] at hHB hRB hA hB hz
  have HB_2 : Hid (Below w.heap.size w w2) := hHB
  have RB_2 : Hid (ReadB w2 sa sn sc la ln lc ta tn tc ⟨f, e, sg, li, ls⟩) := hRB
  have A_2 : Hid (X5 w2 w.heap.size (.int .i64 f) (.int .i64 e) (.slice sa sn sc) (.slice la ln lc) (.slice ta tn tc)) := hA
  have B_2 : Hid (X3 w2 w1.heap.size (.int .i64 k) (.int .i64 m) (.int .i64 l)) := hB
  have z2 : w1.heap.size + 1 ≤ w2.heap.size := by omega
  clear HB_1 RB_1 A_1 hHB hRB hA hB hz
  have hHB := HB_2.out.alloc HB_2.out.size (.cells #[.int .i64 0, .int .i64 0, .slice none 0 0, .slice none 0 0, .slice none 0 0] 29)
  have hRB := RB_2.out.later (balloc w2 (.cells #[.int .i64 0, .int .i64 0, .slice none 0 0, .slice none 0 0, .slice none 0 0] 29))
  have hA := A_2.out.later (balloc w2 (.cells #[.int .i64 0, .int .i64 0, .slice none 0 0, .slice none 0 0, .slice none 0 0] 29))
  have hB := B_2.out.later (balloc w2 (.cells #[.int .i64 0, .int .i64 0, .slice none 0 0, .slice none 0 0, .slice none 0 0] 29))
  have hR := x5_new w2 (.int .i64 0) (.int .i64 0) (.slice none 0 0) (.slice none 0 0) (.slice none 0 0) 29 w2.heap.size rfl
  have hz : (w2.alloc (.cells #[.int .i64 0, .int .i64 0, .slice none 0 0, .slice none 0 0, .slice none 0 0] 29)).heap.size = w2.heap.size + 1 := by simp
  obtain ⟨w3, hV3⟩ : ∃ V, w2.alloc (.cells #[.int .i64 0, .int .i64 0, .slice none 0 0, .slice none 0 0, .slice none 0 0] 29) = V := ⟨_, rfl⟩
  rw [hV3] at hHB hRB hA hB hR hz
  have HB_3 : Hid (Below w.heap.size w w3) := hHB
  have RB_3 : Hid (ReadB w3 sa sn sc la ln lc ta tn tc ⟨f, e, sg, li, ls⟩) := hRB
  have A_3 : Hid (X5 w3 w.heap.size (.int .i64 f) (.int .i64 e) (.slice sa sn sc) (.slice la ln lc) (.slice ta tn tc)) := hA
  have B_3 : Hid (X3 w3 w1.heap.size (.int .i64 k) (.int .i64 m) (.int .i64 l)) := hB
  have R_3 : Hid (X5 w3 w2.heap.size (.int .i64 0) (.int .i64 0) (.slice none 0 0) (.slice none 0 0) (.slice none 0 0)) := hR
  have z3 : w2.heap.size + 1 ≤ w3.heap.size := by omega
  clear HB_2 RB_2 A_2 B_2 hHB hRB hA hB hR hz
  go_enter Try.func21, Try.ntmps21
  obtain ⟨⟨Aq0, Aq1, Aq2, Aq3, Aq4⟩, Af⟩ := id (A_3.out)
  clear Af
  go_wp2_with fail
  clear hV1 hV2 hV3
  refine (q0 _ RB_3.out).mono ?_
  clear Aq0 Aq1 Aq2 Aq3 Aq4
  rintro e w4 ⟨rfl, hb⟩
  have hB : Below w3.heap.size w3 w4 := hb
  have HB_4 : Hid (Below w.heap.size w w4) := HB_3.out.trans (hB.mono HB_3.out.size)
  have RB_4 : Hid (ReadB w4 sa sn sc la ln lc ta tn tc ⟨f, e, sg, li, ls⟩) := RB_3.out.later hB
  have A_4 : Hid (X5 w4 w.heap.size (.int .i64 f) (.int .i64 e) (.slice sa sn sc) (.slice la ln lc) (.slice ta tn tc)) := A_3.out.later hB
  have B_4 : Hid (X3 w4 w1.heap.size (.int .i64 k) (.int .i64 m) (.int .i64 l)) := B_3.out.later hB
  have R_4 : Hid (X5 w4 w2.heap.size (.int .i64 0) (.int .i64 0) (.slice none 0 0) (.slice none 0 0) (.slice none 0 0)) := R_3.out.later hB
  have z4 : w3.heap.size ≤ w4.heap.size := hB.size
  clear hb hB HB_3 RB_3 A_3 B_3 R_3 
  have hZF := (((((R_4.out.set0 (.int .i64 0)).set1 (.int .i64 0)).set2 (.slice none 0 0)).set3 (.slice none 0 0)).set4 (.slice none 0 0))
  have hBF : Below w.heap.size w (((((w4.setCell ⟨w2.heap.size, 0, none⟩ (.int .i64 0)).setCell ⟨w2.heap.size, 1, none⟩ (.int .i64 0)).setCell ⟨w2.heap.size, 2, none⟩ (.slice none 0 0)).setCell ⟨w2.heap.size, 3, none⟩ (.slice none 0 0)).setCell ⟨w2.heap.size, 4, none⟩ (.slice none 0 0)) := (((((HB_4.out.setCell (by show w.heap.size ≤ w2.heap.size; omega) _).setCell (by show w.heap.size ≤ w2.heap.size; omega) _).setCell (by show w.heap.size ≤ w2.heap.size; omega) _).setCell (by show w.heap.size ≤ w2.heap.size; omega) _).setCell (by show w.heap.size ≤ w2.heap.size; omega) _)
  obtain ⟨⟨y0, y1, y2, y3, y4⟩, yf⟩ := id (R_4.out)
  have yf0 := yf 0
  have yf1 := yf 1
  have yf2 := yf 2
  have yf3 := yf 3
  have yf4 := yf 4
  obtain ⟨FW, hFW⟩ : ∃ F, (((((w4.setCell ⟨w2.heap.size, 0, none⟩ (.int .i64 0)).setCell ⟨w2.heap.size, 1, none⟩ (.int .i64 0)).setCell ⟨w2.heap.size, 2, none⟩ (.slice none 0 0)).setCell ⟨w2.heap.size, 3, none⟩ (.slice none 0 0)).setCell ⟨w2.heap.size, 4, none⟩ (.slice none 0 0)) = F := ⟨_, rfl⟩
  rw [hFW] at hZF hBF
  obtain ⟨⟨t0, t1, t2, t3, t4⟩, _⟩ := hZF
  have HBF : Hid (Below w.heap.size w FW) := hBF
  clear hBF yf
  obtain ⟨⟨Aq0, Aq1, Aq2, Aq3, Aq4⟩, Af⟩ := id (A_4.out)
  clear Af
  obtain ⟨⟨Bq0, Bq1, Bq2⟩, Bf⟩ := id (B_4.out)
  clear Bf
  go_wp2
  refine bodyPost_ret (v := .tuple #[.agg #[.int .i64 0, .int .i64 0, .slice none 0 0, .slice none 0 0, .slice none 0 0], .bool false]) (by simp [results, Try.results21, go_sem, t0, t1, t2, t3, t4]; try rfl) rfl ?_
  exact ⟨none, 0, none, 0, none, 0, by rw [HV.out.1, HV.out.2]; rfl, by rw [HV.out.2]; exact zeroOwn _ _ _, HBF.out⟩

set_option maxHeartbeats 16000000 in
theorem specStep_ok (f e : Int) (sa : Option Addr) (sn sc : Nat) (la : Option Addr) (ln lc : Nat) (ta : Option Addr) (tn tc : Nat) (sg : List (List Int)) (li ls : List Int) (k m l : Int) (w : World) (hg : goodBd ⟨f, e, sg, li, ls⟩ = true) (hfb : (stepO ⟨f, e, sg, li, ls⟩ k m l).isSome = true) (hr : ReadB w sa sn sc la ln lc ta tn tc ⟨f, e, sg, li, ls⟩) :
    Calls Try.prog 21 #[.agg #[.int .i64 f, .int .i64 e, .slice sa sn sc, .slice la ln lc, .slice ta tn tc], .agg #[.int .i64 k, .int .i64 m, .int .i64 l]] w fun r w' => BdOk r w w' (stepV ⟨f, e, sg, li, ls⟩ k m l) (stepB ⟨f, e, sg, li, ls⟩ k m l) := by
  have F := good_few hg
  have hsn : sn ≤ 200 := by have := F.s; have := hr.rd.sl; simp only at *; omega
  have hln : ln ≤ 2 := by have := F.l; have := hr.rd.ll; simp only at *; omega
  have htn : tn ≤ 10 := by have := F.t; have := hr.rd.tl; simp only at *; omega
  have q0 := fun wx (h : ReadB wx sa sn sc la ln lc ta tn tc ⟨f, e, sg, li, ls⟩) => specGood_c f e sa sn sc la ln lc ta tn tc sg li ls wx hr.rd.cp hr.rd.sl (by omega) hr.rd.ll (by omega) hr.rd.tl (by omega) h.rd.s h.rd.l h.rd.t
  rw [hg] at q0
  have qO : ∀ wx, ReadB wx sa sn sc la ln lc ta tn tc ⟨f, e, sg, li, ls⟩ → _ := fun wx h => own_read wx sa sn sc la ln lc ta tn tc ⟨f, e, sg, li, ls⟩ hg h
  dsimp only at qO
  obtain ⟨nb, hnb⟩ : ∃ nb, (stepO ⟨f, e, sg, li, ls⟩ k m l).getD ⟨f, e, sg, li, ls⟩ = nb := ⟨_, rfl⟩
  have hgn : goodBd nb = true := by rw [← hnb]; exact stepW_good hg
  obtain ⟨nf2, hn1⟩ : ∃ n, nb.f = n := ⟨_, rfl⟩
  obtain ⟨ne2, hn2⟩ : ∃ n, nb.e = n := ⟨_, rfl⟩
  obtain ⟨ns2, hn3⟩ : ∃ n, nb.sg.length = n := ⟨_, rfl⟩
  obtain ⟨nl2, hn4⟩ : ∃ n, nb.li.length = n := ⟨_, rfl⟩
  obtain ⟨nt2, hn5⟩ : ∃ n, nb.ls.length = n := ⟨_, rfl⟩
  have qS : ∀ a1 c1 a2 c2 a3 c3 lo hi wx, OwnBd wx lo hi (.slice a1 sn c1) (.slice a2 ln c2) (.slice a3 tn c3) ⟨f, e, sg, li, ls⟩ → hi ≤ wx.heap.size → lo ≤ hi → _ := fun a1 c1 a2 c2 a3 c3 lo hi wx h h1 h2 => l13Step_c f e a1 sn c1 a2 ln c2 a3 tn c3 sg li ls k m l lo hi wx hg h h1 h2
  unfold StOk at qS
  rw [hnb, hn1, hn2, hn3, hn4, hn5, hfb] at qS
  have qF : ∀ a1 c1 a2 c2 a3 c3 wx, ReadB wx a1 ns2 c1 a2 nl2 c2 a3 nt2 c3 nb → _ := fun a1 c1 a2 c2 a3 c3 wx h => own_read wx a1 ns2 c1 a2 nl2 c2 a3 nt2 c3 nb hgn h
  rw [hn1, hn2] at qF
  have HV : Hid (stepB ⟨f, e, sg, li, ls⟩ k m l = true ∧ stepV ⟨f, e, sg, li, ls⟩ k m l = nb) := by
    obtain ⟨c, hc⟩ := Option.isSome_iff_exists.1 hfb
    rw [hc] at hnb
    exact hnb ▸ step_some hg hc
  have HN : Hid (nb.f = nf2 ∧ nb.e = ne2 ∧ nb.sg.length = ns2 ∧ nb.li.length = nl2 ∧ nb.ls.length = nt2) := ⟨hn1, hn2, hn3, hn4, hn5⟩
  clear hnb hgn hn1 hn2 hn3 hn4 hn5 hfb hg F
  have HB_0 : Hid (Below w.heap.size w w) := Below.refl _ _
  have RB_0 : Hid (ReadB w sa sn sc la ln lc ta tn tc ⟨f, e, sg, li, ls⟩) := hr
  clear hr
  have hHB := HB_0.out.alloc HB_0.out.size (.cells #[.int .i64 f, .int .i64 e, .slice sa sn sc, .slice la ln lc, .slice ta tn tc] 29)
  have hRB := RB_0.out.later (balloc w (.cells #[.int .i64 f, .int .i64 e, .slice sa sn sc, .slice la ln lc, .slice ta tn tc] 29))
  have hA := x5_new w (.int .i64 f) (.int .i64 e) (.slice sa sn sc) (.slice la ln lc) (.slice ta tn tc) 29 w.heap.size rfl
  have hz : (w.alloc (.cells #[.int .i64 f, .int .i64 e, .slice sa sn sc, .slice la ln lc, .slice ta tn tc] 29)).heap.size = w.heap.size + 1 := by simp
  obtain ⟨w1, hV1⟩ : ∃ V, w.alloc (.cells #[.int .i64 f, .int .i64 e, .slice sa sn sc, .slice la ln lc, .slice ta tn tc] 29) = V := ⟨_, rfl⟩
  rw [hV1] at hHB hRB hA hz
  have HB_1 : Hid (Below w.heap.size w w1) := hHB
  have RB_1 : Hid (ReadB w1 sa sn sc la ln lc ta tn tc ⟨f, e, sg, li, ls⟩) := hRB
  have A_1 : Hid (X5 w1 w.heap.size (.int .i64 f) (.int .i64 e) (.slice sa sn sc) (.slice la ln lc) (.slice ta tn tc)) := hA
  have z1 : w.heap.size + 1 ≤ w1.heap.size := by omega
  clear HB_0 RB_0 hHB hRB hA hz
  have hHB := HB_1.out.alloc HB_1.out.size (.cells #[.int .i64 k, .int .i64 m, .int .i64 l] 40)
  have hRB := RB_1.out.later (balloc w1 (.cells #[.int .i64 k, .int .i64 m, .int .i64 l] 40))
  have hA := A_1.out.later (balloc w1 (.cells #[.int .i64 k, .int .i64 m, .int .i64 l] 40))
  have hB := x3_new w1 (.int .i64 k) (.int .i64 m) (.int .i64 l) 40 w1.heap.size rfl
  have hz : (w1.alloc (.cells #[.int .i64 k, .int .i64 m, .int .i64 l] 40)).heap.size = w1.heap.size + 1 := by simp
  obtain ⟨w2, hV2⟩ : ∃ V, w1.alloc (.cells #[.int .i64 k, .int .i64 m, .int .i64 l] 40) = V := ⟨_, rfl⟩
  rw [hV2] at hHB hRB hA hB hz
  have HB_2 : Hid (Below w.heap.size w w2) := hHB
  have RB_2 : Hid (ReadB w2 sa sn sc la ln lc ta tn tc ⟨f, e, sg, li, ls⟩) := hRB
  have A_2 : Hid (X5 w2 w.heap.size (.int .i64 f) (.int .i64 e) (.slice sa sn sc) (.slice la ln lc) (.slice ta tn tc)) := hA
  have B_2 : Hid (X3 w2 w1.heap.size (.int .i64 k) (.int .i64 m) (.int .i64 l)) := hB
  have z2 : w1.heap.size + 1 ≤ w2.heap.size := by omega
  clear HB_1 RB_1 A_1 hHB hRB hA hB hz
  have hHB := HB_2.out.alloc HB_2.out.size (.cells #[.int .i64 0, .int .i64 0, .slice none 0 0, .slice none 0 0, .slice none 0 0] 29)
  have hRB := RB_2.out.later (balloc w2 (.cells #[.int .i64 0, .int .i64 0, .slice none 0 0, .slice none 0 0, .slice none 0 0] 29))
  have hA := A_2.out.later (balloc w2 (.cells #[.int .i64 0, .int .i64 0, .slice none 0 0, .slice none 0 0, .slice none 0 0] 29))
  have hB := B_2.out.later (balloc w2 (.cells #[.int .i64 0, .int .i64 0, .slice none 0 0, .slice none 0 0, .slice none 0 0] 29))
  have hR := x5_new w2 (.int .i64 0) (.int .i64 0) (.slice none 0 0) (.slice none 0 0) (.slice none 0 0) 29 w2.heap.size rfl
  have hz : (w2.alloc (.cells #[.int .i64 0, .int .i64 0, .slice none 0 0, .slice none 0 0, .slice none 0 0] 29)).heap.size = w2.heap.size + 1 := by simp
  obtain ⟨w3, hV3⟩ : ∃ V, w2.alloc (.cells #[.int .i64 0, .int .i64 0, .slice none 0 0, .slice none 0 0, .slice none 0 0] 29) = V := ⟨_, rfl⟩
  rw [hV3] at hHB hRB hA hB hR hz
  have HB_3 : Hid (Below w.heap.size w w3) := hHB
  have RB_3 : Hid (ReadB w3 sa sn sc la ln lc ta tn tc ⟨f, e, sg, li, ls⟩) := hRB
  have A_3 : Hid (X5 w3 w.heap.size (.int .i64 f) (.int .i64 e) (.slice sa sn sc) (.slice la ln lc) (.slice ta tn tc)) := hA
  have B_3 : Hid (X3 w3 w1.heap.size (.int .i64 k) (.int .i64 m) (.int .i64 l)) := hB
  have R_3 : Hid (X5 w3 w2.heap.size (.int .i64 0) (.int .i64 0) (.slice none 0 0) (.slice none 0 0) (.slice none 0 0)) := hR
  have z3 : w2.heap.size + 1 ≤ w3.heap.size := by omega
  clear HB_2 RB_2 A_2 B_2 hHB hRB hA hB hR hz
  go_enter Try.func21, Try.ntmps21
  obtain ⟨⟨Aq0, Aq1, Aq2, Aq3, Aq4⟩, Af⟩ := id (A_3.out)
  clear Af
  go_wp2_with fail
  clear hV1 hV2 hV3
  refine (q0 _ RB_3.out).mono ?_
  clear Aq0 Aq1 Aq2 Aq3 Aq4
  rintro e w4 ⟨rfl, hb⟩
  have hB : Below w3.heap.size w3 w4 := hb
  have HB_4 : Hid (Below w.heap.size w w4) := HB_3.out.trans (hB.mono HB_3.out.size)
  have RB_4 : Hid (ReadB w4 sa sn sc la ln lc ta tn tc ⟨f, e, sg, li, ls⟩) := RB_3.out.later hB
  have A_4 : Hid (X5 w4 w.heap.size (.int .i64 f) (.int .i64 e) (.slice sa sn sc) (.slice la ln lc) (.slice ta tn tc)) := A_3.out.later hB
  have B_4 : Hid (X3 w4 w1.heap.size (.int .i64 k) (.int .i64 m) (.int .i64 l)) := B_3.out.later hB
  have R_4 : Hid (X5 w4 w2.heap.size (.int .i64 0) (.int .i64 0) (.slice none 0 0) (.slice none 0 0) (.slice none 0 0)) := R_3.out.later hB
  have z4 : w3.heap.size ≤ w4.heap.size := hB.size
  clear hb hB HB_3 RB_3 A_3 B_3 R_3 
  obtain ⟨⟨Aq0, Aq1, Aq2, Aq3, Aq4⟩, Af⟩ := id (A_4.out)
  clear Af
  obtain ⟨⟨Bq0, Bq1, Bq2⟩, Bf⟩ := id (B_4.out)
  clear Bf
  go_upto_region 3 with fail
  clear Aq0 Aq1 Aq2 Aq3 Aq4
  clear Bq0 Bq1 Bq2
  go_cut [6, 7] (fun u6 u7 wx => ∃ (g8 : Nat) (sa2 : Option Addr) (sc2 : Nat) (la2 : Option Addr) (lc2 : Nat) (ta2 : Option Addr) (tc2 : Nat), u6 = .pointer (some ⟨g8, 0, none⟩) ∧ u7 = .bool true ∧ X5 wx g8 (.int .i64 nf2) (.int .i64 ne2) (.slice sa2 ns2 sc2) (.slice la2 nl2 lc2) (.slice ta2 nt2 tc2) ∧ ReadB wx sa2 ns2 sc2 la2 nl2 lc2 ta2 nt2 tc2 nb ∧ Below w4.heap.size w4 wx ∧ w4.heap.size ≤ g8)
  case first =>
    have HL_0 : Hid (Below w4.heap.size w4 w4.drew) := (Below.refl _ _).drew
    refine wp_region_held_drew (S := (fun w' => w'.cell? ⟨w.heap.size, 0, none⟩ = some (.int .i64 f) ∧ w'.cell? ⟨w.heap.size, 1, none⟩ = some (.int .i64 e) ∧ w'.cell? ⟨w.heap.size, 2, none⟩ = some (.slice sa sn sc) ∧ w'.cell? ⟨w.heap.size, 3, none⟩ = some (.slice la ln lc) ∧ w'.cell? ⟨w.heap.size, 4, none⟩ = some (.slice ta tn tc) ∧ w'.cell? ⟨w1.heap.size, 0, none⟩ = some (.int .i64 k) ∧ w'.cell? ⟨w1.heap.size, 1, none⟩ = some (.int .i64 m) ∧ w'.cell? ⟨w1.heap.size, 2, none⟩ = some (.int .i64 l))) (by kernel_rfl) ?_ (fun hHeld => ?_)
    · exact ⟨(A_4.out.later (HL_0.out)).1.1, (A_4.out.later (HL_0.out)).1.2.1, (A_4.out.later (HL_0.out)).1.2.2.1, (A_4.out.later (HL_0.out)).1.2.2.2.1, (A_4.out.later (HL_0.out)).1.2.2.2.2, (B_4.out.later (HL_0.out)).1.1, (B_4.out.later (HL_0.out)).1.2.1, (B_4.out.later (HL_0.out)).1.2.2⟩
    generalize w4.drew = v0 at HL_0 hHeld ⊢
    refine takeV13 (i := 0) (oi := _) (v := ?_) (d := some 13) rfl (by kernel_rfl) (by kernel_rfl) (by kernel_rfl) (by kernel_rfl) (fun _ _ _ h => h) (Or.inl ⟨by rfl, ?_⟩) (by assumption) ?_
    rotate_left
    · (intro w hSw; (try dsimp only at hSw); go_simp <;> with_reducible rfl)
    try simp only [Act.put, List.setIfInBounds_toArray, List.set_cons_zero, List.set_cons_succ]
    refine takeV13 (i := 2) (oi := _) (v := ?_) (d := some 15) rfl (by kernel_rfl) (by kernel_rfl) (by kernel_rfl) (by kernel_rfl) (fun _ _ _ h => h) (Or.inl ⟨by rfl, ?_⟩) (by assumption) ?_
    rotate_left
    · (intro w hSw; (try dsimp only at hSw); go_simp <;> with_reducible rfl)
    try simp only [Act.put, List.setIfInBounds_toArray, List.set_cons_zero, List.set_cons_succ]
    refine wpAnyH_ready (rs := [1, 7]) (by kernel_rfl) (by simp) ?_
    refine AllReadyH.cons (o := _) rfl (fun K hK => ?cw1) (AllReadyH.cons (o := _) rfl (fun K hK => ?cw2) AllReadyH.nil)
    case' cw1 =>
      go_simp
      refine (qO v0 (RB_4.out.later HL_0.out)).mono ?_
      rintro e v1 ⟨sa1, sc1, la1, lc1, ta1, tc1, rfl, ho, hb⟩
      have HL_1 : Hid (Below w4.heap.size w4 v1) := HL_0.out.trans (hb.mono HL_0.out.size)
      have OO_1 : Hid (OwnBd v1 v0.heap.size v1.heap.size (.slice sa1 sn sc1) (.slice la1 ln lc1) (.slice ta1 tn tc1) ⟨f, e, sg, li, ls⟩) := ho
      have hl0 : w4.heap.size ≤ v0.heap.size := HL_0.out.size
      have hz0 : v0.heap.size ≤ v1.heap.size := hb.size
      refine hK.out _ _ ?_ (fun hHeld => ?_)
      · exact ⟨(A_4.out.later (HL_1.out)).1.1, (A_4.out.later (HL_1.out)).1.2.1, (A_4.out.later (HL_1.out)).1.2.2.1, (A_4.out.later (HL_1.out)).1.2.2.2.1, (A_4.out.later (HL_1.out)).1.2.2.2.2, (B_4.out.later (HL_1.out)).1.1, (B_4.out.later (HL_1.out)).1.2.1, (B_4.out.later (HL_1.out)).1.2.2⟩
      clear hK K hb ho HL_0 
      try simp only [Act.put, List.setIfInBounds_toArray, List.set_cons_zero, List.set_cons_succ]
      refine wpAnyH_ready (rs := [3, 7]) (by kernel_rfl) (by simp) ?_
      refine AllReadyH.cons (o := _) rfl (fun K hK => ?cw3) (AllReadyH.cons (o := _) rfl (fun K hK => ?cw4) AllReadyH.nil)
      case' cw3 =>
        go_simp
        refine (qS sa1 sc1 la1 lc1 ta1 tc1 v0.heap.size v1.heap.size v1 OO_1.out (by omega) (by omega)).mono ?_
        rintro e v2 ⟨sa2, sc2, la2, lc2, ta2, tc2, rfl, ho, hr⟩
        have hl1 : w4.heap.size ≤ v1.heap.size := HL_1.out.size
        have hb : Below w4.heap.size v1 v2 := hr.below (fun k h => by omega) hl1
        have HL_2 : Hid (Below w4.heap.size w4 v2) := HL_1.out.trans hb
        have OO_2 : Hid (OwnBd v2 v0.heap.size v2.heap.size (.slice sa2 ns2 sc2) (.slice la2 nl2 lc2) (.slice ta2 nt2 tc2) nb) := ho
        have hz1 : v1.heap.size ≤ v2.heap.size := hr.size
        refine hK.out _ _ ?_ (fun hHeld => ?_)
        · exact ⟨(A_4.out.later (HL_2.out)).1.1, (A_4.out.later (HL_2.out)).1.2.1, (A_4.out.later (HL_2.out)).1.2.2.1, (A_4.out.later (HL_2.out)).1.2.2.2.1, (A_4.out.later (HL_2.out)).1.2.2.2.2, (B_4.out.later (HL_2.out)).1.1, (B_4.out.later (HL_2.out)).1.2.1, (B_4.out.later (HL_2.out)).1.2.2⟩
        clear hK K hb ho hr HL_1 OO_1 
        try simp only [Act.put, List.setIfInBounds_toArray, List.set_cons_zero, List.set_cons_succ]
        refine takeV13 (i := 4) (oi := _) (v := ?_) (d := some 12) rfl (by kernel_rfl) (by kernel_rfl) (by kernel_rfl) (by kernel_rfl) (fun _ _ _ h => h) (Or.inl ⟨by rfl, ?_⟩) (by assumption) ?_
        rotate_left
        · (intro w hSw; (try dsimp only at hSw); go_simp <;> with_reducible rfl)
        try simp only [Act.put, List.setIfInBounds_toArray, List.set_cons_zero, List.set_cons_succ]
        refine takeV13 (i := 5) (oi := _) (v := ?_) (d := some 17) rfl (by kernel_rfl) (by kernel_rfl) (by kernel_rfl) (by kernel_rfl) (fun _ _ _ h => h) (Or.inl ⟨by rfl, ?_⟩) (by assumption) ?_
        rotate_left
        · (intro w hSw; (try dsimp only at hSw); go_simp <;> with_reducible rfl)
        try simp only [Act.put, List.setIfInBounds_toArray, List.set_cons_zero, List.set_cons_succ]
        refine takeV13 (i := 6) (oi := _) (v := ?_) (d := some 18) rfl (by kernel_rfl) (by kernel_rfl) (by kernel_rfl) (by kernel_rfl) (fun _ _ _ h => h) (Or.inl ⟨by rfl, ?_⟩) (by assumption) ?_
        rotate_left
        · (intro w hSw; (try dsimp only at hSw); go_simp <;> with_reducible rfl)
        try simp only [Act.put, List.setIfInBounds_toArray, List.set_cons_zero, List.set_cons_succ]
        refine wpAnyH_ready (rs := [7]) (by kernel_rfl) (by simp) ?_
        refine AllReadyH.cons (o := _) rfl (fun K hK => ?cw5) AllReadyH.nil
        case' cw5 =>
          go_simp
          have hb : Below v2.heap.size v2 (v2.alloc (.cells #[.int .i64 0, .int .i64 0, .slice none 0 0, .slice none 0 0, .slice none 0 0] 29)) := balloc _ _
          have hN := x5_new v2 (.int .i64 0) (.int .i64 0) (.slice none 0 0) (.slice none 0 0) (.slice none 0 0) 29 v2.heap.size rfl
          have hT : BoxT (v2.alloc (.cells #[.int .i64 0, .int .i64 0, .slice none 0 0, .slice none 0 0, .slice none 0 0] 29)) v2.heap.size := BoxT.new _ _ (by decide) (by decide)
          have hsz : (v2.alloc (.cells #[.int .i64 0, .int .i64 0, .slice none 0 0, .slice none 0 0, .slice none 0 0] 29)).heap.size = v2.heap.size + 1 := by simp
          have h_HL := HL_2.out.trans (hb.mono HL_2.out.size)
          have h_OO := OO_2.out.later hb
          refine hK.out _ _ ?_ (fun hHeld => ?_)
          · exact ⟨(A_4.out.later (h_HL)).1.1, (A_4.out.later (h_HL)).1.2.1, (A_4.out.later (h_HL)).1.2.2.1, (A_4.out.later (h_HL)).1.2.2.2.1, (A_4.out.later (h_HL)).1.2.2.2.2, (B_4.out.later (h_HL)).1.1, (B_4.out.later (h_HL)).1.2.1, (B_4.out.later (h_HL)).1.2.2⟩
          clear hK K
          try simp only [Act.put, List.setIfInBounds_toArray, List.set_cons_zero, List.set_cons_succ]
          generalize (v2.alloc (.cells #[.int .i64 0, .int .i64 0, .slice none 0 0, .slice none 0 0, .slice none 0 0] 29)) = v3 at hb hN hT hsz hHeld h_HL h_OO ⊢
          have HL_3 : Hid (Below w4.heap.size w4 v3) := h_HL
          have OO_3 : Hid (OwnBd v3 v0.heap.size v2.heap.size (.slice sa2 ns2 sc2) (.slice la2 nl2 lc2) (.slice ta2 nt2 tc2) nb) := h_OO
          have XG_3 : Hid (X5 v3 v2.heap.size (.int .i64 0) (.int .i64 0) (.slice none 0 0) (.slice none 0 0) (.slice none 0 0)) := hN
          have XT_3 : Hid (BoxT v3 v2.heap.size) := hT
          have hl2 : w4.heap.size ≤ v2.heap.size := HL_2.out.size
          have hz2 : v2.heap.size < v3.heap.size := by omega
          clear hb hN hT hsz h_HL HL_2 h_OO OO_2
          have XB := HL_3
          have X8 := XG_3
          have XU := XT_3
          have hlo : w4.heap.size ≤ v0.heap.size := by omega
          have XQ : Hid (OwnBd v3 w4.heap.size v2.heap.size (.slice sa2 ns2 sc2) (.slice la2 nl2 lc2) (.slice ta2 nt2 tc2) nb) := OO_3.out.mono hlo (Nat.le_refl _)
          have XL8 : w4.heap.size ≤ v2.heap.size := by omega
          clear hlo HL_3 XG_3 XT_3 OO_3 hl0 hz0 hl1 hz1 hl2 hz2
          generalize v2.heap.size = g8 at X8 XU XL8 ⊢
          generalize v2.heap.size = hi8 at XQ
          obtain ⟨V, rfl⟩ : ∃ V : World, V = v3 := ⟨_, rfl⟩
      case' cw4 =>
        go_simp
        have hb : Below v1.heap.size v1 (v1.alloc (.cells #[.int .i64 0, .int .i64 0, .slice none 0 0, .slice none 0 0, .slice none 0 0] 29)) := balloc _ _
        have hN := x5_new v1 (.int .i64 0) (.int .i64 0) (.slice none 0 0) (.slice none 0 0) (.slice none 0 0) 29 v1.heap.size rfl
        have hT : BoxT (v1.alloc (.cells #[.int .i64 0, .int .i64 0, .slice none 0 0, .slice none 0 0, .slice none 0 0] 29)) v1.heap.size := BoxT.new _ _ (by decide) (by decide)
        have hsz : (v1.alloc (.cells #[.int .i64 0, .int .i64 0, .slice none 0 0, .slice none 0 0, .slice none 0 0] 29)).heap.size = v1.heap.size + 1 := by simp
        have h_HL := HL_1.out.trans (hb.mono HL_1.out.size)
        have h_OO := OO_1.out.later hb
        refine hK.out _ _ ?_ (fun hHeld => ?_)
        · exact ⟨(A_4.out.later (h_HL)).1.1, (A_4.out.later (h_HL)).1.2.1, (A_4.out.later (h_HL)).1.2.2.1, (A_4.out.later (h_HL)).1.2.2.2.1, (A_4.out.later (h_HL)).1.2.2.2.2, (B_4.out.later (h_HL)).1.1, (B_4.out.later (h_HL)).1.2.1, (B_4.out.later (h_HL)).1.2.2⟩
        clear hK K
        try simp only [Act.put, List.setIfInBounds_toArray, List.set_cons_zero, List.set_cons_succ]
        generalize (v1.alloc (.cells #[.int .i64 0, .int .i64 0, .slice none 0 0, .slice none 0 0, .slice none 0 0] 29)) = v2 at hb hN hT hsz hHeld h_HL h_OO ⊢
        have HL_2 : Hid (Below w4.heap.size w4 v2) := h_HL
        have OO_2 : Hid (OwnBd v2 v0.heap.size v1.heap.size (.slice sa1 sn sc1) (.slice la1 ln lc1) (.slice ta1 tn tc1) ⟨f, e, sg, li, ls⟩) := h_OO
        have XG_2 : Hid (X5 v2 v1.heap.size (.int .i64 0) (.int .i64 0) (.slice none 0 0) (.slice none 0 0) (.slice none 0 0)) := hN
        have XT_2 : Hid (BoxT v2 v1.heap.size) := hT
        have hl1 : w4.heap.size ≤ v1.heap.size := HL_1.out.size
        have hz1 : v1.heap.size < v2.heap.size := by omega
        clear hb hN hT hsz h_HL HL_1 h_OO OO_1
        refine wpAnyH_ready (rs := [3]) (by kernel_rfl) (by simp) ?_
        refine AllReadyH.cons (o := _) rfl (fun K hK => ?cw6) AllReadyH.nil
        case' cw6 =>
          go_simp
          refine (qS sa1 sc1 la1 lc1 ta1 tc1 v0.heap.size v1.heap.size v2 OO_2.out (by omega) (by omega)).mono ?_
          rintro e v3 ⟨sa2, sc2, la2, lc2, ta2, tc2, rfl, ho, hr⟩
          have hl2 : w4.heap.size ≤ v2.heap.size := HL_2.out.size
          have hb : Below w4.heap.size v2 v3 := hr.below (fun k h => by omega) hl2
          have HL_3 : Hid (Below w4.heap.size w4 v3) := HL_2.out.trans hb
          have OO_3 : Hid (OwnBd v3 v0.heap.size v3.heap.size (.slice sa2 ns2 sc2) (.slice la2 nl2 lc2) (.slice ta2 nt2 tc2) nb) := ho
          have XG_3 : Hid (X5 v3 v1.heap.size (.int .i64 0) (.int .i64 0) (.slice none 0 0) (.slice none 0 0) (.slice none 0 0)) := XG_2.out.rngP hr (by omega)
          have XT_3 : Hid (BoxT v3 v1.heap.size) := XT_2.out.rngP hr (by omega)
          have hz2 : v2.heap.size ≤ v3.heap.size := hr.size
          refine hK.out _ _ ?_ (fun hHeld => ?_)
          · exact ⟨(A_4.out.later (HL_3.out)).1.1, (A_4.out.later (HL_3.out)).1.2.1, (A_4.out.later (HL_3.out)).1.2.2.1, (A_4.out.later (HL_3.out)).1.2.2.2.1, (A_4.out.later (HL_3.out)).1.2.2.2.2, (B_4.out.later (HL_3.out)).1.1, (B_4.out.later (HL_3.out)).1.2.1, (B_4.out.later (HL_3.out)).1.2.2⟩
          clear hK K hb ho hr HL_2 OO_2 XG_2 XT_2
          try simp only [Act.put, List.setIfInBounds_toArray, List.set_cons_zero, List.set_cons_succ]
          refine takeV13 (i := 4) (oi := _) (v := ?_) (d := some 12) rfl (by kernel_rfl) (by kernel_rfl) (by kernel_rfl) (by kernel_rfl) (fun _ _ _ h => h) (Or.inl ⟨by rfl, ?_⟩) (by assumption) ?_
          rotate_left
          · (intro w hSw; (try dsimp only at hSw); go_simp <;> with_reducible rfl)
          try simp only [Act.put, List.setIfInBounds_toArray, List.set_cons_zero, List.set_cons_succ]
          refine takeV13 (i := 5) (oi := _) (v := ?_) (d := some 17) rfl (by kernel_rfl) (by kernel_rfl) (by kernel_rfl) (by kernel_rfl) (fun _ _ _ h => h) (Or.inl ⟨by rfl, ?_⟩) (by assumption) ?_
          rotate_left
          · (intro w hSw; (try dsimp only at hSw); go_simp <;> with_reducible rfl)
          try simp only [Act.put, List.setIfInBounds_toArray, List.set_cons_zero, List.set_cons_succ]
          refine takeV13 (i := 6) (oi := _) (v := ?_) (d := some 18) rfl (by kernel_rfl) (by kernel_rfl) (by kernel_rfl) (by kernel_rfl) (fun _ _ _ h => h) (Or.inl ⟨by rfl, ?_⟩) (by assumption) ?_
          rotate_left
          · (intro w hSw; (try dsimp only at hSw); go_simp <;> with_reducible rfl)
          try simp only [Act.put, List.setIfInBounds_toArray, List.set_cons_zero, List.set_cons_succ]
          have XB := HL_3
          have X8 := XG_3
          have XU := XT_3
          have hlo : w4.heap.size ≤ v0.heap.size := by omega
          have XQ : Hid (OwnBd v3 w4.heap.size v3.heap.size (.slice sa2 ns2 sc2) (.slice la2 nl2 lc2) (.slice ta2 nt2 tc2) nb) := OO_3.out.mono hlo (Nat.le_refl _)
          have XL8 : w4.heap.size ≤ v1.heap.size := by omega
          clear hlo HL_3 XG_3 XT_3 OO_3 hl0 hz0 hl1 hz1 hl2 hz2
          generalize v1.heap.size = g8 at X8 XU XL8 ⊢
          generalize v3.heap.size = hi8 at XQ
          obtain ⟨V, rfl⟩ : ∃ V : World, V = v3 := ⟨_, rfl⟩
    case' cw2 =>
      go_simp
      have hb : Below v0.heap.size v0 (v0.alloc (.cells #[.int .i64 0, .int .i64 0, .slice none 0 0, .slice none 0 0, .slice none 0 0] 29)) := balloc _ _
      have hN := x5_new v0 (.int .i64 0) (.int .i64 0) (.slice none 0 0) (.slice none 0 0) (.slice none 0 0) 29 v0.heap.size rfl
      have hT : BoxT (v0.alloc (.cells #[.int .i64 0, .int .i64 0, .slice none 0 0, .slice none 0 0, .slice none 0 0] 29)) v0.heap.size := BoxT.new _ _ (by decide) (by decide)
      have hsz : (v0.alloc (.cells #[.int .i64 0, .int .i64 0, .slice none 0 0, .slice none 0 0, .slice none 0 0] 29)).heap.size = v0.heap.size + 1 := by simp
      have h_HL := HL_0.out.trans (hb.mono HL_0.out.size)
      refine hK.out _ _ ?_ (fun hHeld => ?_)
      · exact ⟨(A_4.out.later (h_HL)).1.1, (A_4.out.later (h_HL)).1.2.1, (A_4.out.later (h_HL)).1.2.2.1, (A_4.out.later (h_HL)).1.2.2.2.1, (A_4.out.later (h_HL)).1.2.2.2.2, (B_4.out.later (h_HL)).1.1, (B_4.out.later (h_HL)).1.2.1, (B_4.out.later (h_HL)).1.2.2⟩
      clear hK K
      try simp only [Act.put, List.setIfInBounds_toArray, List.set_cons_zero, List.set_cons_succ]
      generalize (v0.alloc (.cells #[.int .i64 0, .int .i64 0, .slice none 0 0, .slice none 0 0, .slice none 0 0] 29)) = v1 at hb hN hT hsz hHeld h_HL  ⊢
      have HL_1 : Hid (Below w4.heap.size w4 v1) := h_HL
      have XG_1 : Hid (X5 v1 v0.heap.size (.int .i64 0) (.int .i64 0) (.slice none 0 0) (.slice none 0 0) (.slice none 0 0)) := hN
      have XT_1 : Hid (BoxT v1 v0.heap.size) := hT
      have hl0 : w4.heap.size ≤ v0.heap.size := HL_0.out.size
      have hz0 : v0.heap.size < v1.heap.size := by omega
      clear hb hN hT hsz h_HL HL_0 
      refine wpAnyH_ready (rs := [1]) (by kernel_rfl) (by simp) ?_
      refine AllReadyH.cons (o := _) rfl (fun K hK => ?cw7) AllReadyH.nil
      case' cw7 =>
        go_simp
        refine (qO v1 (RB_4.out.later HL_1.out)).mono ?_
        rintro e v2 ⟨sa1, sc1, la1, lc1, ta1, tc1, rfl, ho, hb⟩
        have HL_2 : Hid (Below w4.heap.size w4 v2) := HL_1.out.trans (hb.mono HL_1.out.size)
        have OO_2 : Hid (OwnBd v2 v1.heap.size v2.heap.size (.slice sa1 sn sc1) (.slice la1 ln lc1) (.slice ta1 tn tc1) ⟨f, e, sg, li, ls⟩) := ho
        have XG_2 : Hid (X5 v2 v0.heap.size (.int .i64 0) (.int .i64 0) (.slice none 0 0) (.slice none 0 0) (.slice none 0 0)) := XG_1.out.later hb
        have XT_2 : Hid (BoxT v2 v0.heap.size) := XT_1.out.later hb
        have hl1 : w4.heap.size ≤ v1.heap.size := HL_1.out.size
        have hz1 : v1.heap.size ≤ v2.heap.size := hb.size
        refine hK.out _ _ ?_ (fun hHeld => ?_)
        · exact ⟨(A_4.out.later (HL_2.out)).1.1, (A_4.out.later (HL_2.out)).1.2.1, (A_4.out.later (HL_2.out)).1.2.2.1, (A_4.out.later (HL_2.out)).1.2.2.2.1, (A_4.out.later (HL_2.out)).1.2.2.2.2, (B_4.out.later (HL_2.out)).1.1, (B_4.out.later (HL_2.out)).1.2.1, (B_4.out.later (HL_2.out)).1.2.2⟩
        clear hK K hb ho HL_1 XG_1 XT_1
        try simp only [Act.put, List.setIfInBounds_toArray, List.set_cons_zero, List.set_cons_succ]
        refine wpAnyH_ready (rs := [3]) (by kernel_rfl) (by simp) ?_
        refine AllReadyH.cons (o := _) rfl (fun K hK => ?cw8) AllReadyH.nil
        case' cw8 =>
          go_simp
          refine (qS sa1 sc1 la1 lc1 ta1 tc1 v1.heap.size v2.heap.size v2 OO_2.out (by omega) (by omega)).mono ?_
          rintro e v3 ⟨sa2, sc2, la2, lc2, ta2, tc2, rfl, ho, hr⟩
          have hl2 : w4.heap.size ≤ v2.heap.size := HL_2.out.size
          have hb : Below w4.heap.size v2 v3 := hr.below (fun k h => by omega) hl2
          have HL_3 : Hid (Below w4.heap.size w4 v3) := HL_2.out.trans hb
          have OO_3 : Hid (OwnBd v3 v1.heap.size v3.heap.size (.slice sa2 ns2 sc2) (.slice la2 nl2 lc2) (.slice ta2 nt2 tc2) nb) := ho
          have XG_3 : Hid (X5 v3 v0.heap.size (.int .i64 0) (.int .i64 0) (.slice none 0 0) (.slice none 0 0) (.slice none 0 0)) := XG_2.out.rngP hr (by omega)
          have XT_3 : Hid (BoxT v3 v0.heap.size) := XT_2.out.rngP hr (by omega)
          have hz2 : v2.heap.size ≤ v3.heap.size := hr.size
          refine hK.out _ _ ?_ (fun hHeld => ?_)
          · exact ⟨(A_4.out.later (HL_3.out)).1.1, (A_4.out.later (HL_3.out)).1.2.1, (A_4.out.later (HL_3.out)).1.2.2.1, (A_4.out.later (HL_3.out)).1.2.2.2.1, (A_4.out.later (HL_3.out)).1.2.2.2.2, (B_4.out.later (HL_3.out)).1.1, (B_4.out.later (HL_3.out)).1.2.1, (B_4.out.later (HL_3.out)).1.2.2⟩
          clear hK K hb ho hr HL_2 OO_2 XG_2 XT_2
          try simp only [Act.put, List.setIfInBounds_toArray, List.set_cons_zero, List.set_cons_succ]
          refine takeV13 (i := 4) (oi := _) (v := ?_) (d := some 12) rfl (by kernel_rfl) (by kernel_rfl) (by kernel_rfl) (by kernel_rfl) (fun _ _ _ h => h) (Or.inl ⟨by rfl, ?_⟩) (by assumption) ?_
          rotate_left
          · (intro w hSw; (try dsimp only at hSw); go_simp <;> with_reducible rfl)
          try simp only [Act.put, List.setIfInBounds_toArray, List.set_cons_zero, List.set_cons_succ]
          refine takeV13 (i := 5) (oi := _) (v := ?_) (d := some 17) rfl (by kernel_rfl) (by kernel_rfl) (by kernel_rfl) (by kernel_rfl) (fun _ _ _ h => h) (Or.inl ⟨by rfl, ?_⟩) (by assumption) ?_
          rotate_left
          · (intro w hSw; (try dsimp only at hSw); go_simp <;> with_reducible rfl)
          try simp only [Act.put, List.setIfInBounds_toArray, List.set_cons_zero, List.set_cons_succ]
          refine takeV13 (i := 6) (oi := _) (v := ?_) (d := some 18) rfl (by kernel_rfl) (by kernel_rfl) (by kernel_rfl) (by kernel_rfl) (fun _ _ _ h => h) (Or.inl ⟨by rfl, ?_⟩) (by assumption) ?_
          rotate_left
          · (intro w hSw; (try dsimp only at hSw); go_simp <;> with_reducible rfl)
          try simp only [Act.put, List.setIfInBounds_toArray, List.set_cons_zero, List.set_cons_succ]
          have XB := HL_3
          have X8 := XG_3
          have XU := XT_3
          have hlo : w4.heap.size ≤ v1.heap.size := by omega
          have XQ : Hid (OwnBd v3 w4.heap.size v3.heap.size (.slice sa2 ns2 sc2) (.slice la2 nl2 lc2) (.slice ta2 nt2 tc2) nb) := OO_3.out.mono hlo (Nat.le_refl _)
          have XL8 : w4.heap.size ≤ v0.heap.size := by omega
          clear hlo HL_3 XG_3 XT_3 OO_3 hl0 hz0 hl1 hz1 hl2 hz2
          generalize v0.heap.size = g8 at X8 XU XL8 ⊢
          generalize v3.heap.size = hi8 at XQ
          obtain ⟨V, rfl⟩ : ∃ V : World, V = v3 := ⟨_, rfl⟩
    all_goals (
      obtain ⟨⟨ce0, ce1, ce2, ce3, ce4⟩, ef⟩ := id X8.out
      have cq0 := ef 0
      have cq1 := ef 1
      have cq2 := ef 2
      have cq3 := ef 3
      have cq4 := ef 4
      have h_B : Below w4.heap.size w4 (((((V.setCell ⟨g8, 0, none⟩ (.int .i64 nf2)).setCell ⟨g8, 1, none⟩ (.int .i64 ne2)).setCell ⟨g8, 2, none⟩ (.slice sa2 ns2 sc2)).setCell ⟨g8, 3, none⟩ (.slice la2 nl2 lc2)).setCell ⟨g8, 4, none⟩ (.slice ta2 nt2 tc2)) := (((((XB.out.setCell (by dsimp only; omega) _).setCell (by dsimp only; omega) _).setCell (by dsimp only; omega) _).setCell (by dsimp only; omega) _).setCell (by dsimp only; omega) _)
      have h_X : X5 (((((V.setCell ⟨g8, 0, none⟩ (.int .i64 nf2)).setCell ⟨g8, 1, none⟩ (.int .i64 ne2)).setCell ⟨g8, 2, none⟩ (.slice sa2 ns2 sc2)).setCell ⟨g8, 3, none⟩ (.slice la2 nl2 lc2)).setCell ⟨g8, 4, none⟩ (.slice ta2 nt2 tc2)) g8 (.int .i64 nf2) (.int .i64 ne2) (.slice sa2 ns2 sc2) (.slice la2 nl2 lc2) (.slice ta2 nt2 tc2) := (((((X8.out.set0 _).set1 _).set2 _).set3 _).set4 _)
      have h_Q : OwnBd (((((V.setCell ⟨g8, 0, none⟩ (.int .i64 nf2)).setCell ⟨g8, 1, none⟩ (.int .i64 ne2)).setCell ⟨g8, 2, none⟩ (.slice sa2 ns2 sc2)).setCell ⟨g8, 3, none⟩ (.slice la2 nl2 lc2)).setCell ⟨g8, 4, none⟩ (.slice ta2 nt2 tc2)) w4.heap.size hi8 (.slice sa2 ns2 sc2) (.slice la2 nl2 lc2) (.slice ta2 nt2 tc2) nb := (OwnBd.box (OwnBd.box (OwnBd.box (OwnBd.box (OwnBd.box XQ.out XU.out 0 _) (XU.out.set g8 0 (.int .i64 nf2)) 1 _) ((XU.out.set g8 0 (.int .i64 nf2)).set g8 1 (.int .i64 ne2)) 2 _) (((XU.out.set g8 0 (.int .i64 nf2)).set g8 1 (.int .i64 ne2)).set g8 2 (.slice sa2 ns2 sc2)) 3 _) ((((XU.out.set g8 0 (.int .i64 nf2)).set g8 1 (.int .i64 ne2)).set g8 2 (.slice sa2 ns2 sc2)).set g8 3 (.slice la2 nl2 lc2)) 4 _)
      refine wpAnyH_ready (rs := [8]) (by kernel_rfl) (by simp) ?_
      refine AllReadyH.cons (o := _) rfl (fun K hK => ?_) AllReadyH.nil
      go_simp
      refine hK.out _ _ ?_ (fun hHeld => ?_)
      · exact ⟨(A_4.out.later (h_B)).1.1, (A_4.out.later (h_B)).1.2.1, (A_4.out.later (h_B)).1.2.2.1, (A_4.out.later (h_B)).1.2.2.2.1, (A_4.out.later (h_B)).1.2.2.2.2, (B_4.out.later (h_B)).1.1, (B_4.out.later (h_B)).1.2.1, (B_4.out.later (h_B)).1.2.2⟩
      clear hK K
      try simp only [Act.put, List.setIfInBounds_toArray, List.set_cons_zero, List.set_cons_succ]
      generalize (((((V.setCell ⟨g8, 0, none⟩ (.int .i64 nf2)).setCell ⟨g8, 1, none⟩ (.int .i64 ne2)).setCell ⟨g8, 2, none⟩ (.slice sa2 ns2 sc2)).setCell ⟨g8, 3, none⟩ (.slice la2 nl2 lc2)).setCell ⟨g8, 4, none⟩ (.slice ta2 nt2 tc2)) = V1 at h_B h_X h_Q hHeld ⊢
      clear XB X8 XU XQ ef ce0 cq0 ce1 cq1 ce2 cq2 ce3 cq3 ce4 cq4
      refine takeV13 (i := 9) (oi := _) (v := ?_) (d := some 7) rfl (by kernel_rfl) (by kernel_rfl) (by kernel_rfl) (by kernel_rfl) (fun _ _ _ h => h) (Or.inl ⟨by rfl, ?_⟩) (by assumption) ?_
      rotate_left
      · (intro w hSw; (try dsimp only at hSw); go_simp <;> with_reducible rfl)
      try simp only [Act.put, List.setIfInBounds_toArray, List.set_cons_zero, List.set_cons_succ]
      refine wpAnyH_done (by kernel_rfl) ?_ _
      go_wp2_with fail
      go_meet
      exact ⟨g8, sa2, sc2, la2, lc2, ta2, tc2, rfl, rfl, h_X, h_Q.read, h_B, XL8⟩)
  case rest =>
    obtain ⟨g8, sa2, sc2, la2, lc2, ta2, tc2, rfl, rfl, h8, hrb, hbb, hl8⟩ := hcut
    obtain ⟨w5, rfl⟩ : ∃ V : World, V = wc := ⟨_, rfl⟩
    have HB_5 : Hid (Below w.heap.size w w5) := HB_4.out.trans (hbb.mono HB_4.out.size)
    have RB_5 : Hid (ReadB w5 sa sn sc la ln lc ta tn tc ⟨f, e, sg, li, ls⟩) := RB_4.out.later hbb
    have A_5 : Hid (X5 w5 w.heap.size (.int .i64 f) (.int .i64 e) (.slice sa sn sc) (.slice la ln lc) (.slice ta tn tc)) := A_4.out.later hbb
    have B_5 : Hid (X3 w5 w1.heap.size (.int .i64 k) (.int .i64 m) (.int .i64 l)) := B_4.out.later hbb
    have R_5 : Hid (X5 w5 w2.heap.size (.int .i64 0) (.int .i64 0) (.slice none 0 0) (.slice none 0 0) (.slice none 0 0)) := R_4.out.later hbb
    have z5 : w4.heap.size ≤ w5.heap.size := hbb.size
    have l8 : g8 < w5.heap.size := h8.lt
    have G_5 : Hid (X5 w5 g8 (.int .i64 nf2) (.int .i64 ne2) (.slice sa2 ns2 sc2) (.slice la2 nl2 lc2) (.slice ta2 nt2 tc2)) := h8
    have RN_5 : Hid (ReadB w5 sa2 ns2 sc2 la2 nl2 lc2 ta2 nt2 tc2 nb) := hrb
    clear h8 hrb hbb qO qS HB_4 RB_4 A_4 B_4 R_4
    obtain ⟨⟨Gq0, Gq1, Gq2, Gq3, Gq4⟩, Gf⟩ := id (G_5.out)
    clear Gf
    go_wp2_with fail
    refine (qF sa2 sc2 la2 lc2 ta2 tc2 _ RN_5.out).mono ?_
    clear Gq0 Gq1 Gq2 Gq3 Gq4
    rintro e w6 ⟨sa3, sc3, la3, lc3, ta3, tc3, rfl, ho, hb⟩
    have hB : Below w5.heap.size w5 w6 := hb
    have HB_6 : Hid (Below w.heap.size w w6) := HB_5.out.trans (hB.mono HB_5.out.size)
    have RB_6 : Hid (ReadB w6 sa sn sc la ln lc ta tn tc ⟨f, e, sg, li, ls⟩) := RB_5.out.later hB
    have A_6 : Hid (X5 w6 w.heap.size (.int .i64 f) (.int .i64 e) (.slice sa sn sc) (.slice la ln lc) (.slice ta tn tc)) := A_5.out.later hB
    have B_6 : Hid (X3 w6 w1.heap.size (.int .i64 k) (.int .i64 m) (.int .i64 l)) := B_5.out.later hB
    have R_6 : Hid (X5 w6 w2.heap.size (.int .i64 0) (.int .i64 0) (.slice none 0 0) (.slice none 0 0) (.slice none 0 0)) := R_5.out.later hB
    have G_6 : Hid (X5 w6 g8 (.int .i64 nf2) (.int .i64 ne2) (.slice sa2 ns2 sc2) (.slice la2 nl2 lc2) (.slice ta2 nt2 tc2)) := G_5.out.later hB
    have RN_6 : Hid (ReadB w6 sa2 ns2 sc2 la2 nl2 lc2 ta2 nt2 tc2 nb) := RN_5.out.later hB
    have z6 : w5.heap.size ≤ w6.heap.size := hB.size
    have BF_6 : Hid (OwnBd w6 w5.heap.size w6.heap.size (.slice sa3 ns2 sc3) (.slice la3 nl2 lc3) (.slice ta3 nt2 tc3) nb) := ho
    clear hb hB HB_5 RB_5 A_5 B_5 R_5 G_5 RN_5 ho
    have hZF := (((((R_6.out.set0 (.int .i64 nf2)).set1 (.int .i64 ne2)).set2 (.slice sa3 ns2 sc3)).set3 (.slice la3 nl2 lc3)).set4 (.slice ta3 nt2 tc3))
    have hBF : Below w.heap.size w (((((w6.setCell ⟨w2.heap.size, 0, none⟩ (.int .i64 nf2)).setCell ⟨w2.heap.size, 1, none⟩ (.int .i64 ne2)).setCell ⟨w2.heap.size, 2, none⟩ (.slice sa3 ns2 sc3)).setCell ⟨w2.heap.size, 3, none⟩ (.slice la3 nl2 lc3)).setCell ⟨w2.heap.size, 4, none⟩ (.slice ta3 nt2 tc3)) := (((((HB_6.out.setCell (by show w.heap.size ≤ w2.heap.size; omega) _).setCell (by show w.heap.size ≤ w2.heap.size; omega) _).setCell (by show w.heap.size ≤ w2.heap.size; omega) _).setCell (by show w.heap.size ≤ w2.heap.size; omega) _).setCell (by show w.heap.size ≤ w2.heap.size; omega) _)
    have hOF := (((((BF_6.out.setBox (r := w2.heap.size) (j := 0) (by omega) (.int .i64 nf2)).setBox (r := w2.heap.size) (j := 1) (by omega) (.int .i64 ne2)).setBox (r := w2.heap.size) (j := 2) (by omega) (.slice sa3 ns2 sc3)).setBox (r := w2.heap.size) (j := 3) (by omega) (.slice la3 nl2 lc3)).setBox (r := w2.heap.size) (j := 4) (by omega) (.slice ta3 nt2 tc3))
    have hszF : (((((w6.setCell ⟨w2.heap.size, 0, none⟩ (.int .i64 nf2)).setCell ⟨w2.heap.size, 1, none⟩ (.int .i64 ne2)).setCell ⟨w2.heap.size, 2, none⟩ (.slice sa3 ns2 sc3)).setCell ⟨w2.heap.size, 3, none⟩ (.slice la3 nl2 lc3)).setCell ⟨w2.heap.size, 4, none⟩ (.slice ta3 nt2 tc3)).heap.size = w6.heap.size := by simp
    obtain ⟨⟨y0, y1, y2, y3, y4⟩, yf⟩ := id (R_6.out)
    have yf0 := yf 0
    have yf1 := yf 1
    have yf2 := yf 2
    have yf3 := yf 3
    have yf4 := yf 4
    obtain ⟨FW, hFW⟩ : ∃ F, (((((w6.setCell ⟨w2.heap.size, 0, none⟩ (.int .i64 nf2)).setCell ⟨w2.heap.size, 1, none⟩ (.int .i64 ne2)).setCell ⟨w2.heap.size, 2, none⟩ (.slice sa3 ns2 sc3)).setCell ⟨w2.heap.size, 3, none⟩ (.slice la3 nl2 lc3)).setCell ⟨w2.heap.size, 4, none⟩ (.slice ta3 nt2 tc3)) = F := ⟨_, rfl⟩
    rw [hFW] at hZF hBF hOF hszF
    obtain ⟨⟨t0, t1, t2, t3, t4⟩, _⟩ := hZF
    have HBF : Hid (Below w.heap.size w FW) := hBF
    have HOF := hOF
    clear hBF yf hOF
    obtain ⟨⟨Gq0, Gq1, Gq2, Gq3, Gq4⟩, Gf⟩ := id (G_6.out)
    clear Gf
    go_wp2
    refine bodyPost_ret (v := .tuple #[.agg #[.int .i64 nf2, .int .i64 ne2, .slice sa3 ns2 sc3, .slice la3 nl2 lc3, .slice ta3 nt2 tc3], .bool true]) (by simp [results, Try.results21, go_sem, t0, t1, t2, t3, t4]; try rfl) rfl ?_
    have HOF2 := (HOF.mono (show w.heap.size ≤ _ by omega) (show _ ≤ FW.heap.size by omega))
    refine ⟨sa3, sc3, la3, lc3, ta3, tc3, ?_, ?_, HBF.out⟩
    · rw [HV.out.1, HV.out.2, HN.out.1, HN.out.2.1, HN.out.2.2.1, HN.out.2.2.2.1, HN.out.2.2.2.2]
    · rw [HV.out.2, HN.out.2.2.1, HN.out.2.2.2.1, HN.out.2.2.2.2]
      exact HOF2

set_option maxHeartbeats 16000000 in
theorem specStep_no (f e : Int) (sa : Option Addr) (sn sc : Nat) (la : Option Addr) (ln lc : Nat) (ta : Option Addr) (tn tc : Nat) (sg : List (List Int)) (li ls : List Int) (k m l : Int) (w : World) (hg : goodBd ⟨f, e, sg, li, ls⟩ = true) (hfb : (stepO ⟨f, e, sg, li, ls⟩ k m l).isSome = false) (hr : ReadB w sa sn sc la ln lc ta tn tc ⟨f, e, sg, li, ls⟩) :
    Calls Try.prog 21 #[.agg #[.int .i64 f, .int .i64 e, .slice sa sn sc, .slice la ln lc, .slice ta tn tc], .agg #[.int .i64 k, .int .i64 m, .int .i64 l]] w fun r w' => BdOk r w w' (stepV ⟨f, e, sg, li, ls⟩ k m l) (stepB ⟨f, e, sg, li, ls⟩ k m l) := by
  have F := good_few hg
  have hsn : sn ≤ 200 := by have := F.s; have := hr.rd.sl; simp only at *; omega
  have hln : ln ≤ 2 := by have := F.l; have := hr.rd.ll; simp only at *; omega
  have htn : tn ≤ 10 := by have := F.t; have := hr.rd.tl; simp only at *; omega
  have q0 := fun wx (h : ReadB wx sa sn sc la ln lc ta tn tc ⟨f, e, sg, li, ls⟩) => specGood_c f e sa sn sc la ln lc ta tn tc sg li ls wx hr.rd.cp hr.rd.sl (by omega) hr.rd.ll (by omega) hr.rd.tl (by omega) h.rd.s h.rd.l h.rd.t
  rw [hg] at q0
  have qO : ∀ wx, ReadB wx sa sn sc la ln lc ta tn tc ⟨f, e, sg, li, ls⟩ → _ := fun wx h => own_read wx sa sn sc la ln lc ta tn tc ⟨f, e, sg, li, ls⟩ hg h
  dsimp only at qO
  obtain ⟨nb, hnb⟩ : ∃ nb, (stepO ⟨f, e, sg, li, ls⟩ k m l).getD ⟨f, e, sg, li, ls⟩ = nb := ⟨_, rfl⟩
  have hgn : goodBd nb = true := by rw [← hnb]; exact stepW_good hg
  obtain ⟨nf2, hn1⟩ : ∃ n, nb.f = n := ⟨_, rfl⟩
  obtain ⟨ne2, hn2⟩ : ∃ n, nb.e = n := ⟨_, rfl⟩
  obtain ⟨ns2, hn3⟩ : ∃ n, nb.sg.length = n := ⟨_, rfl⟩
  obtain ⟨nl2, hn4⟩ : ∃ n, nb.li.length = n := ⟨_, rfl⟩
  obtain ⟨nt2, hn5⟩ : ∃ n, nb.ls.length = n := ⟨_, rfl⟩
  have qS : ∀ a1 c1 a2 c2 a3 c3 lo hi wx, OwnBd wx lo hi (.slice a1 sn c1) (.slice a2 ln c2) (.slice a3 tn c3) ⟨f, e, sg, li, ls⟩ → hi ≤ wx.heap.size → lo ≤ hi → _ := fun a1 c1 a2 c2 a3 c3 lo hi wx h h1 h2 => l13Step_c f e a1 sn c1 a2 ln c2 a3 tn c3 sg li ls k m l lo hi wx hg h h1 h2
  unfold StOk at qS
  rw [hnb, hn1, hn2, hn3, hn4, hn5, hfb] at qS
  have qF : ∀ a1 c1 a2 c2 a3 c3 wx, ReadB wx a1 ns2 c1 a2 nl2 c2 a3 nt2 c3 nb → _ := fun a1 c1 a2 c2 a3 c3 wx h => own_read wx a1 ns2 c1 a2 nl2 c2 a3 nt2 c3 nb hgn h
  rw [hn1, hn2] at qF
  have HV : Hid (stepB ⟨f, e, sg, li, ls⟩ k m l = false ∧ stepV ⟨f, e, sg, li, ls⟩ k m l = zeroBd) := step_none hg (by cases h : stepO ⟨f, e, sg, li, ls⟩ k m l with | none => rfl | some c => rw [h] at hfb; cases hfb)
  clear hnb hgn hn1 hn2 hn3 hn4 hn5 hfb hg F qF
  have HB_0 : Hid (Below w.heap.size w w) := Below.refl _ _
  have RB_0 : Hid (ReadB w sa sn sc la ln lc ta tn tc ⟨f, e, sg, li, ls⟩) := hr
  clear hr
  have hHB := HB_0.out.alloc HB_0.out.size (.cells #[.int .i64 f, .int .i64 e, .slice sa sn sc, .slice la ln lc, .slice ta tn tc] 29)
  have hRB := RB_0.out.later (balloc w (.cells #[.int .i64 f, .int .i64 e, .slice sa sn sc, .slice la ln lc, .slice ta tn tc] 29))
  have hA := x5_new w (.int .i64 f) (.int .i64 e) (.slice sa sn sc) (.slice la ln lc) (.slice ta tn tc) 29 w.heap.size rfl
  have hz : (w.alloc (.cells #[.int .i64 f, .int .i64 e, .slice sa sn sc, .slice la ln lc, .slice ta tn tc] 29)).heap.size = w.heap.size + 1 := by simp
  obtain ⟨w1, hV1⟩ : ∃ V, w.alloc (.cells #[.int .i64 f, .int .i64 e, .slice sa sn sc, .slice la ln lc, .slice ta tn tc] 29) = V := ⟨_, rfl⟩
  rw [hV1] at hHB hRB hA hz
  have HB_1 : Hid (Below w.heap.size w w1) := hHB
  have RB_1 : Hid (ReadB w1 sa sn sc la ln lc ta tn tc ⟨f, e, sg, li, ls⟩) := hRB
  have A_1 : Hid (X5 w1 w.heap.size (.int .i64 f) (.int .i64 e) (.slice sa sn sc) (.slice la ln lc) (.slice ta tn tc)) := hA
  have z1 : w.heap.size + 1 ≤ w1.heap.size := by omega
  clear HB_0 RB_0 hHB hRB hA hz
  have hHB := HB_1.out.alloc HB_1.out.size (.cells #[.int .i64 k, .int .i64 m, .int .i64 l] 40)
  have hRB := RB_1.out.later (balloc w1 (.cells #[.int .i64 k, .int .i64 m, .int .i64 l] 40))
  have hA := A_1.out.later (balloc w1 (.cells #[.int .i64 k, .int .i64 m, .int .i64 l] 40))
  have hB := x3_new w1 (.int .i64 k) (.int .i64 m) (.int .i64 l) 40 w1.heap.size rfl
  have hz : (w1.alloc (.cells #[.int .i64 k, .int .i64 m, .int .i64 l] 40)).heap.size = w1.heap.size + 1 := by simp
  obtain ⟨w2, hV2⟩ : ∃ V, w1.alloc (.cells #[.int .i64 k, .int .i64 m, .int .i64 l] 40) = V := ⟨_, rfl⟩
  rw [hV2] at hHB hRB hA hB hz
  have HB_2 : Hid (Below w.heap.size w w2) := hHB
  have RB_2 : Hid (ReadB w2 sa sn sc la ln lc ta tn tc ⟨f, e, sg, li, ls⟩) := hRB
  have A_2 : Hid (X5 w2 w.heap.size (.int .i64 f) (.int .i64 e) (.slice sa sn sc) (.slice la ln lc) (.slice ta tn tc)) := hA
  have B_2 : Hid (X3 w2 w1.heap.size (.int .i64 k) (.int .i64 m) (.int .i64 l)) := hB
  have z2 : w1.heap.size + 1 ≤ w2.heap.size := by omega
  clear HB_1 RB_1 A_1 hHB hRB hA hB hz
  have hHB := HB_2.out.alloc HB_2.out.size (.cells #[.int .i64 0, .int .i64 0, .slice none 0 0, .slice none 0 0, .slice none 0 0] 29)
  have hRB := RB_2.out.later (balloc w2 (.cells #[.int .i64 0, .int .i64 0, .slice none 0 0, .slice none 0 0, .slice none 0 0] 29))
  have hA := A_2.out.later (balloc w2 (.cells #[.int .i64 0, .int .i64 0, .slice none 0 0, .slice none 0 0, .slice none 0 0] 29))
  have hB := B_2.out.later (balloc w2 (.cells #[.int .i64 0, .int .i64 0, .slice none 0 0, .slice none 0 0, .slice none 0 0] 29))
  have hR := x5_new w2 (.int .i64 0) (.int .i64 0) (.slice none 0 0) (.slice none 0 0) (.slice none 0 0) 29 w2.heap.size rfl
  have hz : (w2.alloc (.cells #[.int .i64 0, .int .i64 0, .slice none 0 0, .slice none 0 0, .slice none 0 0] 29)).heap.size = w2.heap.size + 1 := by simp
  obtain ⟨w3, hV3⟩ : ∃ V, w2.alloc (.cells #[.int .i64 0, .int .i64 0, .slice none 0 0, .slice none 0 0, .slice none 0 0] 29) = V := ⟨_, rfl⟩
  rw [hV3] at hHB hRB hA hB hR hz
  have HB_3 : Hid (Below w.heap.size w w3) := hHB
  have RB_3 : Hid (ReadB w3 sa sn sc la ln lc ta tn tc ⟨f, e, sg, li, ls⟩) := hRB
  have A_3 : Hid (X5 w3 w.heap.size (.int .i64 f) (.int .i64 e) (.slice sa sn sc) (.slice la ln lc) (.slice ta tn tc)) := hA
  have B_3 : Hid (X3 w3 w1.heap.size (.int .i64 k) (.int .i64 m) (.int .i64 l)) := hB
  have R_3 : Hid (X5 w3 w2.heap.size (.int .i64 0) (.int .i64 0) (.slice none 0 0) (.slice none 0 0) (.slice none 0 0)) := hR
  have z3 : w2.heap.size + 1 ≤ w3.heap.size := by omega
  clear HB_2 RB_2 A_2 B_2 hHB hRB hA hB hR hz
  go_enter Try.func21, Try.ntmps21
  obtain ⟨⟨Aq0, Aq1, Aq2, Aq3, Aq4⟩, Af⟩ := id (A_3.out)
  clear Af
  go_wp2_with fail
  clear hV1 hV2 hV3
  refine (q0 _ RB_3.out).mono ?_
  clear Aq0 Aq1 Aq2 Aq3 Aq4
  rintro e w4 ⟨rfl, hb⟩
  have hB : Below w3.heap.size w3 w4 := hb
  have HB_4 : Hid (Below w.heap.size w w4) := HB_3.out.trans (hB.mono HB_3.out.size)
  have RB_4 : Hid (ReadB w4 sa sn sc la ln lc ta tn tc ⟨f, e, sg, li, ls⟩) := RB_3.out.later hB
  have A_4 : Hid (X5 w4 w.heap.size (.int .i64 f) (.int .i64 e) (.slice sa sn sc) (.slice la ln lc) (.slice ta tn tc)) := A_3.out.later hB
  have B_4 : Hid (X3 w4 w1.heap.size (.int .i64 k) (.int .i64 m) (.int .i64 l)) := B_3.out.later hB
  have R_4 : Hid (X5 w4 w2.heap.size (.int .i64 0) (.int .i64 0) (.slice none 0 0) (.slice none 0 0) (.slice none 0 0)) := R_3.out.later hB
  have z4 : w3.heap.size ≤ w4.heap.size := hB.size
  clear hb hB HB_3 RB_3 A_3 B_3 R_3 
  obtain ⟨⟨Aq0, Aq1, Aq2, Aq3, Aq4⟩, Af⟩ := id (A_4.out)
  clear Af
  obtain ⟨⟨Bq0, Bq1, Bq2⟩, Bf⟩ := id (B_4.out)
  clear Bf
  go_upto_region 3 with fail
  clear Aq0 Aq1 Aq2 Aq3 Aq4
  clear Bq0 Bq1 Bq2
  go_cut [6, 7] (fun u6 u7 wx => ∃ (g8 : Nat) (sa2 : Option Addr) (sc2 : Nat) (la2 : Option Addr) (lc2 : Nat) (ta2 : Option Addr) (tc2 : Nat), u6 = .pointer (some ⟨g8, 0, none⟩) ∧ u7 = .bool false ∧ X5 wx g8 (.int .i64 nf2) (.int .i64 ne2) (.slice sa2 ns2 sc2) (.slice la2 nl2 lc2) (.slice ta2 nt2 tc2) ∧ ReadB wx sa2 ns2 sc2 la2 nl2 lc2 ta2 nt2 tc2 nb ∧ Below w4.heap.size w4 wx ∧ w4.heap.size ≤ g8)
  case first =>
    have HL_0 : Hid (Below w4.heap.size w4 w4.drew) := (Below.refl _ _).drew
    refine wp_region_held_drew (S := (fun w' => w'.cell? ⟨w.heap.size, 0, none⟩ = some (.int .i64 f) ∧ w'.cell? ⟨w.heap.size, 1, none⟩ = some (.int .i64 e) ∧ w'.cell? ⟨w.heap.size, 2, none⟩ = some (.slice sa sn sc) ∧ w'.cell? ⟨w.heap.size, 3, none⟩ = some (.slice la ln lc) ∧ w'.cell? ⟨w.heap.size, 4, none⟩ = some (.slice ta tn tc) ∧ w'.cell? ⟨w1.heap.size, 0, none⟩ = some (.int .i64 k) ∧ w'.cell? ⟨w1.heap.size, 1, none⟩ = some (.int .i64 m) ∧ w'.cell? ⟨w1.heap.size, 2, none⟩ = some (.int .i64 l))) (by kernel_rfl) ?_ (fun hHeld => ?_)
    · exact ⟨(A_4.out.later (HL_0.out)).1.1, (A_4.out.later (HL_0.out)).1.2.1, (A_4.out.later (HL_0.out)).1.2.2.1, (A_4.out.later (HL_0.out)).1.2.2.2.1, (A_4.out.later (HL_0.out)).1.2.2.2.2, (B_4.out.later (HL_0.out)).1.1, (B_4.out.later (HL_0.out)).1.2.1, (B_4.out.later (HL_0.out)).1.2.2⟩
    generalize w4.drew = v0 at HL_0 hHeld ⊢
    refine takeV13 (i := 0) (oi := _) (v := ?_) (d := some 13) rfl (by kernel_rfl) (by kernel_rfl) (by kernel_rfl) (by kernel_rfl) (fun _ _ _ h => h) (Or.inl ⟨by rfl, ?_⟩) (by assumption) ?_
    rotate_left
    · (intro w hSw; (try dsimp only at hSw); go_simp <;> with_reducible rfl)
    try simp only [Act.put, List.setIfInBounds_toArray, List.set_cons_zero, List.set_cons_succ]
    refine takeV13 (i := 2) (oi := _) (v := ?_) (d := some 15) rfl (by kernel_rfl) (by kernel_rfl) (by kernel_rfl) (by kernel_rfl) (fun _ _ _ h => h) (Or.inl ⟨by rfl, ?_⟩) (by assumption) ?_
    rotate_left
    · (intro w hSw; (try dsimp only at hSw); go_simp <;> with_reducible rfl)
    try simp only [Act.put, List.setIfInBounds_toArray, List.set_cons_zero, List.set_cons_succ]
    refine wpAnyH_ready (rs := [1, 7]) (by kernel_rfl) (by simp) ?_
    refine AllReadyH.cons (o := _) rfl (fun K hK => ?cw9) (AllReadyH.cons (o := _) rfl (fun K hK => ?cw10) AllReadyH.nil)
    case' cw9 =>
      go_simp
      refine (qO v0 (RB_4.out.later HL_0.out)).mono ?_
      rintro e v1 ⟨sa1, sc1, la1, lc1, ta1, tc1, rfl, ho, hb⟩
      have HL_1 : Hid (Below w4.heap.size w4 v1) := HL_0.out.trans (hb.mono HL_0.out.size)
      have OO_1 : Hid (OwnBd v1 v0.heap.size v1.heap.size (.slice sa1 sn sc1) (.slice la1 ln lc1) (.slice ta1 tn tc1) ⟨f, e, sg, li, ls⟩) := ho
      have hl0 : w4.heap.size ≤ v0.heap.size := HL_0.out.size
      have hz0 : v0.heap.size ≤ v1.heap.size := hb.size
      refine hK.out _ _ ?_ (fun hHeld => ?_)
      · exact ⟨(A_4.out.later (HL_1.out)).1.1, (A_4.out.later (HL_1.out)).1.2.1, (A_4.out.later (HL_1.out)).1.2.2.1, (A_4.out.later (HL_1.out)).1.2.2.2.1, (A_4.out.later (HL_1.out)).1.2.2.2.2, (B_4.out.later (HL_1.out)).1.1, (B_4.out.later (HL_1.out)).1.2.1, (B_4.out.later (HL_1.out)).1.2.2⟩
      clear hK K hb ho HL_0 
      try simp only [Act.put, List.setIfInBounds_toArray, List.set_cons_zero, List.set_cons_succ]
      refine wpAnyH_ready (rs := [3, 7]) (by kernel_rfl) (by simp) ?_
      refine AllReadyH.cons (o := _) rfl (fun K hK => ?cw11) (AllReadyH.cons (o := _) rfl (fun K hK => ?cw12) AllReadyH.nil)
      case' cw11 =>
        go_simp
        refine (qS sa1 sc1 la1 lc1 ta1 tc1 v0.heap.size v1.heap.size v1 OO_1.out (by omega) (by omega)).mono ?_
        rintro e v2 ⟨sa2, sc2, la2, lc2, ta2, tc2, rfl, ho, hr⟩
        have hl1 : w4.heap.size ≤ v1.heap.size := HL_1.out.size
        have hb : Below w4.heap.size v1 v2 := hr.below (fun k h => by omega) hl1
        have HL_2 : Hid (Below w4.heap.size w4 v2) := HL_1.out.trans hb
        have OO_2 : Hid (OwnBd v2 v0.heap.size v2.heap.size (.slice sa2 ns2 sc2) (.slice la2 nl2 lc2) (.slice ta2 nt2 tc2) nb) := ho
        have hz1 : v1.heap.size ≤ v2.heap.size := hr.size
        refine hK.out _ _ ?_ (fun hHeld => ?_)
        · exact ⟨(A_4.out.later (HL_2.out)).1.1, (A_4.out.later (HL_2.out)).1.2.1, (A_4.out.later (HL_2.out)).1.2.2.1, (A_4.out.later (HL_2.out)).1.2.2.2.1, (A_4.out.later (HL_2.out)).1.2.2.2.2, (B_4.out.later (HL_2.out)).1.1, (B_4.out.later (HL_2.out)).1.2.1, (B_4.out.later (HL_2.out)).1.2.2⟩
        clear hK K hb ho hr HL_1 OO_1 
        try simp only [Act.put, List.setIfInBounds_toArray, List.set_cons_zero, List.set_cons_succ]
        refine takeV13 (i := 4) (oi := _) (v := ?_) (d := some 12) rfl (by kernel_rfl) (by kernel_rfl) (by kernel_rfl) (by kernel_rfl) (fun _ _ _ h => h) (Or.inl ⟨by rfl, ?_⟩) (by assumption) ?_
        rotate_left
        · (intro w hSw; (try dsimp only at hSw); go_simp <;> with_reducible rfl)
        try simp only [Act.put, List.setIfInBounds_toArray, List.set_cons_zero, List.set_cons_succ]
        refine takeV13 (i := 5) (oi := _) (v := ?_) (d := some 17) rfl (by kernel_rfl) (by kernel_rfl) (by kernel_rfl) (by kernel_rfl) (fun _ _ _ h => h) (Or.inl ⟨by rfl, ?_⟩) (by assumption) ?_
        rotate_left
        · (intro w hSw; (try dsimp only at hSw); go_simp <;> with_reducible rfl)
        try simp only [Act.put, List.setIfInBounds_toArray, List.set_cons_zero, List.set_cons_succ]
        refine takeV13 (i := 6) (oi := _) (v := ?_) (d := some 18) rfl (by kernel_rfl) (by kernel_rfl) (by kernel_rfl) (by kernel_rfl) (fun _ _ _ h => h) (Or.inl ⟨by rfl, ?_⟩) (by assumption) ?_
        rotate_left
        · (intro w hSw; (try dsimp only at hSw); go_simp <;> with_reducible rfl)
        try simp only [Act.put, List.setIfInBounds_toArray, List.set_cons_zero, List.set_cons_succ]
        refine wpAnyH_ready (rs := [7]) (by kernel_rfl) (by simp) ?_
        refine AllReadyH.cons (o := _) rfl (fun K hK => ?cw13) AllReadyH.nil
        case' cw13 =>
          go_simp
          have hb : Below v2.heap.size v2 (v2.alloc (.cells #[.int .i64 0, .int .i64 0, .slice none 0 0, .slice none 0 0, .slice none 0 0] 29)) := balloc _ _
          have hN := x5_new v2 (.int .i64 0) (.int .i64 0) (.slice none 0 0) (.slice none 0 0) (.slice none 0 0) 29 v2.heap.size rfl
          have hT : BoxT (v2.alloc (.cells #[.int .i64 0, .int .i64 0, .slice none 0 0, .slice none 0 0, .slice none 0 0] 29)) v2.heap.size := BoxT.new _ _ (by decide) (by decide)
          have hsz : (v2.alloc (.cells #[.int .i64 0, .int .i64 0, .slice none 0 0, .slice none 0 0, .slice none 0 0] 29)).heap.size = v2.heap.size + 1 := by simp
          have h_HL := HL_2.out.trans (hb.mono HL_2.out.size)
          have h_OO := OO_2.out.later hb
          refine hK.out _ _ ?_ (fun hHeld => ?_)
          · exact ⟨(A_4.out.later (h_HL)).1.1, (A_4.out.later (h_HL)).1.2.1, (A_4.out.later (h_HL)).1.2.2.1, (A_4.out.later (h_HL)).1.2.2.2.1, (A_4.out.later (h_HL)).1.2.2.2.2, (B_4.out.later (h_HL)).1.1, (B_4.out.later (h_HL)).1.2.1, (B_4.out.later (h_HL)).1.2.2⟩
          clear hK K
          try simp only [Act.put, List.setIfInBounds_toArray, List.set_cons_zero, List.set_cons_succ]
          generalize (v2.alloc (.cells #[.int .i64 0, .int .i64 0, .slice none 0 0, .slice none 0 0, .slice none 0 0] 29)) = v3 at hb hN hT hsz hHeld h_HL h_OO ⊢
          have HL_3 : Hid (Below w4.heap.size w4 v3) := h_HL
          have OO_3 : Hid (OwnBd v3 v0.heap.size v2.heap.size (.slice sa2 ns2 sc2) (.slice la2 nl2 lc2) (.slice ta2 nt2 tc2) nb) := h_OO
          have XG_3 : Hid (X5 v3 v2.heap.size (.int .i64 0) (.int .i64 0) (.slice none 0 0) (.slice none 0 0) (.slice none 0 0)) := hN
          have XT_3 : Hid (BoxT v3 v2.heap.size) := hT
          have hl2 : w4.heap.size ≤ v2.heap.size := HL_2.out.size
          have hz2 : v2.heap.size < v3.heap.size := by omega
          clear hb hN hT hsz h_HL HL_2 h_OO OO_2
          have XB := HL_3
          have X8 := XG_3
          have XU := XT_3
          have hlo : w4.heap.size ≤ v0.heap.size := by omega
          have XQ : Hid (OwnBd v3 w4.heap.size v2.heap.size (.slice sa2 ns2 sc2) (.slice la2 nl2 lc2) (.slice ta2 nt2 tc2) nb) := OO_3.out.mono hlo (Nat.le_refl _)
          have XL8 : w4.heap.size ≤ v2.heap.size := by omega
          clear hlo HL_3 XG_3 XT_3 OO_3 hl0 hz0 hl1 hz1 hl2 hz2
          generalize v2.heap.size = g8 at X8 XU XL8 ⊢
          generalize v2.heap.size = hi8 at XQ
          obtain ⟨V, rfl⟩ : ∃ V : World, V = v3 := ⟨_, rfl⟩
      case' cw12 =>
        go_simp
        have hb : Below v1.heap.size v1 (v1.alloc (.cells #[.int .i64 0, .int .i64 0, .slice none 0 0, .slice none 0 0, .slice none 0 0] 29)) := balloc _ _
        have hN := x5_new v1 (.int .i64 0) (.int .i64 0) (.slice none 0 0) (.slice none 0 0) (.slice none 0 0) 29 v1.heap.size rfl
        have hT : BoxT (v1.alloc (.cells #[.int .i64 0, .int .i64 0, .slice none 0 0, .slice none 0 0, .slice none 0 0] 29)) v1.heap.size := BoxT.new _ _ (by decide) (by decide)
        have hsz : (v1.alloc (.cells #[.int .i64 0, .int .i64 0, .slice none 0 0, .slice none 0 0, .slice none 0 0] 29)).heap.size = v1.heap.size + 1 := by simp
        have h_HL := HL_1.out.trans (hb.mono HL_1.out.size)
        have h_OO := OO_1.out.later hb
        refine hK.out _ _ ?_ (fun hHeld => ?_)
        · exact ⟨(A_4.out.later (h_HL)).1.1, (A_4.out.later (h_HL)).1.2.1, (A_4.out.later (h_HL)).1.2.2.1, (A_4.out.later (h_HL)).1.2.2.2.1, (A_4.out.later (h_HL)).1.2.2.2.2, (B_4.out.later (h_HL)).1.1, (B_4.out.later (h_HL)).1.2.1, (B_4.out.later (h_HL)).1.2.2⟩
        clear hK K
        try simp only [Act.put, List.setIfInBounds_toArray, List.set_cons_zero, List.set_cons_succ]
        generalize (v1.alloc (.cells #[.int .i64 0, .int .i64 0, .slice none 0 0, .slice none 0 0, .slice none 0 0] 29)) = v2 at hb hN hT hsz hHeld h_HL h_OO ⊢
        have HL_2 : Hid (Below w4.heap.size w4 v2) := h_HL
        have OO_2 : Hid (OwnBd v2 v0.heap.size v1.heap.size (.slice sa1 sn sc1) (.slice la1 ln lc1) (.slice ta1 tn tc1) ⟨f, e, sg, li, ls⟩) := h_OO
        have XG_2 : Hid (X5 v2 v1.heap.size (.int .i64 0) (.int .i64 0) (.slice none 0 0) (.slice none 0 0) (.slice none 0 0)) := hN
        have XT_2 : Hid (BoxT v2 v1.heap.size) := hT
        have hl1 : w4.heap.size ≤ v1.heap.size := HL_1.out.size
        have hz1 : v1.heap.size < v2.heap.size := by omega
        clear hb hN hT hsz h_HL HL_1 h_OO OO_1
        refine wpAnyH_ready (rs := [3]) (by kernel_rfl) (by simp) ?_
        refine AllReadyH.cons (o := _) rfl (fun K hK => ?cw14) AllReadyH.nil
        case' cw14 =>
          go_simp
          refine (qS sa1 sc1 la1 lc1 ta1 tc1 v0.heap.size v1.heap.size v2 OO_2.out (by omega) (by omega)).mono ?_
          rintro e v3 ⟨sa2, sc2, la2, lc2, ta2, tc2, rfl, ho, hr⟩
          have hl2 : w4.heap.size ≤ v2.heap.size := HL_2.out.size
          have hb : Below w4.heap.size v2 v3 := hr.below (fun k h => by omega) hl2
          have HL_3 : Hid (Below w4.heap.size w4 v3) := HL_2.out.trans hb
          have OO_3 : Hid (OwnBd v3 v0.heap.size v3.heap.size (.slice sa2 ns2 sc2) (.slice la2 nl2 lc2) (.slice ta2 nt2 tc2) nb) := ho
          have XG_3 : Hid (X5 v3 v1.heap.size (.int .i64 0) (.int .i64 0) (.slice none 0 0) (.slice none 0 0) (.slice none 0 0)) := XG_2.out.rngP hr (by omega)
          have XT_3 : Hid (BoxT v3 v1.heap.size) := XT_2.out.rngP hr (by omega)
          have hz2 : v2.heap.size ≤ v3.heap.size := hr.size
          refine hK.out _ _ ?_ (fun hHeld => ?_)
          · exact ⟨(A_4.out.later (HL_3.out)).1.1, (A_4.out.later (HL_3.out)).1.2.1, (A_4.out.later (HL_3.out)).1.2.2.1, (A_4.out.later (HL_3.out)).1.2.2.2.1, (A_4.out.later (HL_3.out)).1.2.2.2.2, (B_4.out.later (HL_3.out)).1.1, (B_4.out.later (HL_3.out)).1.2.1, (B_4.out.later (HL_3.out)).1.2.2⟩
          clear hK K hb ho hr HL_2 OO_2 XG_2 XT_2
          try simp only [Act.put, List.setIfInBounds_toArray, List.set_cons_zero, List.set_cons_succ]
          refine takeV13 (i := 4) (oi := _) (v := ?_) (d := some 12) rfl (by kernel_rfl) (by kernel_rfl) (by kernel_rfl) (by kernel_rfl) (fun _ _ _ h => h) (Or.inl ⟨by rfl, ?_⟩) (by assumption) ?_
          rotate_left
          · (intro w hSw; (try dsimp only at hSw); go_simp <;> with_reducible rfl)
          try simp only [Act.put, List.setIfInBounds_toArray, List.set_cons_zero, List.set_cons_succ]
          refine takeV13 (i := 5) (oi := _) (v := ?_) (d := some 17) rfl (by kernel_rfl) (by kernel_rfl) (by kernel_rfl) (by kernel_rfl) (fun _ _ _ h => h) (Or.inl ⟨by rfl, ?_⟩) (by assumption) ?_
          rotate_left
          · (intro w hSw; (try dsimp only at hSw); go_simp <;> with_reducible rfl)
          try simp only [Act.put, List.setIfInBounds_toArray, List.set_cons_zero, List.set_cons_succ]
          refine takeV13 (i := 6) (oi := _) (v := ?_) (d := some 18) rfl (by kernel_rfl) (by kernel_rfl) (by kernel_rfl) (by kernel_rfl) (fun _ _ _ h => h) (Or.inl ⟨by rfl, ?_⟩) (by assumption) ?_
          rotate_left
          · (intro w hSw; (try dsimp only at hSw); go_simp <;> with_reducible rfl)
          try simp only [Act.put, List.setIfInBounds_toArray, List.set_cons_zero, List.set_cons_succ]
          have XB := HL_3
          have X8 := XG_3
          have XU := XT_3
          have hlo : w4.heap.size ≤ v0.heap.size := by omega
          have XQ : Hid (OwnBd v3 w4.heap.size v3.heap.size (.slice sa2 ns2 sc2) (.slice la2 nl2 lc2) (.slice ta2 nt2 tc2) nb) := OO_3.out.mono hlo (Nat.le_refl _)
          have XL8 : w4.heap.size ≤ v1.heap.size := by omega
          clear hlo HL_3 XG_3 XT_3 OO_3 hl0 hz0 hl1 hz1 hl2 hz2
          generalize v1.heap.size = g8 at X8 XU XL8 ⊢
          generalize v3.heap.size = hi8 at XQ
          obtain ⟨V, rfl⟩ : ∃ V : World, V = v3 := ⟨_, rfl⟩
    case' cw10 =>
      go_simp
      have hb : Below v0.heap.size v0 (v0.alloc (.cells #[.int .i64 0, .int .i64 0, .slice none 0 0, .slice none 0 0, .slice none 0 0] 29)) := balloc _ _
      have hN := x5_new v0 (.int .i64 0) (.int .i64 0) (.slice none 0 0) (.slice none 0 0) (.slice none 0 0) 29 v0.heap.size rfl
      have hT : BoxT (v0.alloc (.cells #[.int .i64 0, .int .i64 0, .slice none 0 0, .slice none 0 0, .slice none 0 0] 29)) v0.heap.size := BoxT.new _ _ (by decide) (by decide)
      have hsz : (v0.alloc (.cells #[.int .i64 0, .int .i64 0, .slice none 0 0, .slice none 0 0, .slice none 0 0] 29)).heap.size = v0.heap.size + 1 := by simp
      have h_HL := HL_0.out.trans (hb.mono HL_0.out.size)
      refine hK.out _ _ ?_ (fun hHeld => ?_)
      · exact ⟨(A_4.out.later (h_HL)).1.1, (A_4.out.later (h_HL)).1.2.1, (A_4.out.later (h_HL)).1.2.2.1, (A_4.out.later (h_HL)).1.2.2.2.1, (A_4.out.later (h_HL)).1.2.2.2.2, (B_4.out.later (h_HL)).1.1, (B_4.out.later (h_HL)).1.2.1, (B_4.out.later (h_HL)).1.2.2⟩
      clear hK K
      try simp only [Act.put, List.setIfInBounds_toArray, List.set_cons_zero, List.set_cons_succ]
      generalize (v0.alloc (.cells #[.int .i64 0, .int .i64 0, .slice none 0 0, .slice none 0 0, .slice none 0 0] 29)) = v1 at hb hN hT hsz hHeld h_HL  ⊢
      have HL_1 : Hid (Below w4.heap.size w4 v1) := h_HL
      have XG_1 : Hid (X5 v1 v0.heap.size (.int .i64 0) (.int .i64 0) (.slice none 0 0) (.slice none 0 0) (.slice none 0 0)) := hN
      have XT_1 : Hid (BoxT v1 v0.heap.size) := hT
      have hl0 : w4.heap.size ≤ v0.heap.size := HL_0.out.size
      have hz0 : v0.heap.size < v1.heap.size := by omega
      clear hb hN hT hsz h_HL HL_0 
      refine wpAnyH_ready (rs := [1]) (by kernel_rfl) (by simp) ?_
      refine AllReadyH.cons (o := _) rfl (fun K hK => ?cw15) AllReadyH.nil
      case' cw15 =>
        go_simp
        refine (qO v1 (RB_4.out.later HL_1.out)).mono ?_
        rintro e v2 ⟨sa1, sc1, la1, lc1, ta1, tc1, rfl, ho, hb⟩
        have HL_2 : Hid (Below w4.heap.size w4 v2) := HL_1.out.trans (hb.mono HL_1.out.size)
        have OO_2 : Hid (OwnBd v2 v1.heap.size v2.heap.size (.slice sa1 sn sc1) (.slice la1 ln lc1) (.slice ta1 tn tc1) ⟨f, e, sg, li, ls⟩) := ho
        have XG_2 : Hid (X5 v2 v0.heap.size (.int .i64 0) (.int .i64 0) (.slice none 0 0) (.slice none 0 0) (.slice none 0 0)) := XG_1.out.later hb
        have XT_2 : Hid (BoxT v2 v0.heap.size) := XT_1.out.later hb
        have hl1 : w4.heap.size ≤ v1.heap.size := HL_1.out.size
        have hz1 : v1.heap.size ≤ v2.heap.size := hb.size
        refine hK.out _ _ ?_ (fun hHeld => ?_)
        · exact ⟨(A_4.out.later (HL_2.out)).1.1, (A_4.out.later (HL_2.out)).1.2.1, (A_4.out.later (HL_2.out)).1.2.2.1, (A_4.out.later (HL_2.out)).1.2.2.2.1, (A_4.out.later (HL_2.out)).1.2.2.2.2, (B_4.out.later (HL_2.out)).1.1, (B_4.out.later (HL_2.out)).1.2.1, (B_4.out.later (HL_2.out)).1.2.2⟩
        clear hK K hb ho HL_1 XG_1 XT_1
        try simp only [Act.put, List.setIfInBounds_toArray, List.set_cons_zero, List.set_cons_succ]
        refine wpAnyH_ready (rs := [3]) (by kernel_rfl) (by simp) ?_
        refine AllReadyH.cons (o := _) rfl (fun K hK => ?cw16) AllReadyH.nil
        case' cw16 =>
          go_simp
          refine (qS sa1 sc1 la1 lc1 ta1 tc1 v1.heap.size v2.heap.size v2 OO_2.out (by omega) (by omega)).mono ?_
          rintro e v3 ⟨sa2, sc2, la2, lc2, ta2, tc2, rfl, ho, hr⟩
          have hl2 : w4.heap.size ≤ v2.heap.size := HL_2.out.size
          have hb : Below w4.heap.size v2 v3 := hr.below (fun k h => by omega) hl2
          have HL_3 : Hid (Below w4.heap.size w4 v3) := HL_2.out.trans hb
          have OO_3 : Hid (OwnBd v3 v1.heap.size v3.heap.size (.slice sa2 ns2 sc2) (.slice la2 nl2 lc2) (.slice ta2 nt2 tc2) nb) := ho
          have XG_3 : Hid (X5 v3 v0.heap.size (.int .i64 0) (.int .i64 0) (.slice none 0 0) (.slice none 0 0) (.slice none 0 0)) := XG_2.out.rngP hr (by omega)
          have XT_3 : Hid (BoxT v3 v0.heap.size) := XT_2.out.rngP hr (by omega)
          have hz2 : v2.heap.size ≤ v3.heap.size := hr.size
          refine hK.out _ _ ?_ (fun hHeld => ?_)
          · exact ⟨(A_4.out.later (HL_3.out)).1.1, (A_4.out.later (HL_3.out)).1.2.1, (A_4.out.later (HL_3.out)).1.2.2.1, (A_4.out.later (HL_3.out)).1.2.2.2.1, (A_4.out.later (HL_3.out)).1.2.2.2.2, (B_4.out.later (HL_3.out)).1.1, (B_4.out.later (HL_3.out)).1.2.1, (B_4.out.later (HL_3.out)).1.2.2⟩
          clear hK K hb ho hr HL_2 OO_2 XG_2 XT_2
          try simp only [Act.put, List.setIfInBounds_toArray, List.set_cons_zero, List.set_cons_succ]
          refine takeV13 (i := 4) (oi := _) (v := ?_) (d := some 12) rfl (by kernel_rfl) (by kernel_rfl) (by kernel_rfl) (by kernel_rfl) (fun _ _ _ h => h) (Or.inl ⟨by rfl, ?_⟩) (by assumption) ?_
          rotate_left
          · (intro w hSw; (try dsimp only at hSw); go_simp <;> with_reducible rfl)
          try simp only [Act.put, List.setIfInBounds_toArray, List.set_cons_zero, List.set_cons_succ]
          refine takeV13 (i := 5) (oi := _) (v := ?_) (d := some 17) rfl (by kernel_rfl) (by kernel_rfl) (by kernel_rfl) (by kernel_rfl) (fun _ _ _ h => h) (Or.inl ⟨by rfl, ?_⟩) (by assumption) ?_
          rotate_left
          · (intro w hSw; (try dsimp only at hSw); go_simp <;> with_reducible rfl)
          try simp only [Act.put, List.setIfInBounds_toArray, List.set_cons_zero, List.set_cons_succ]
          refine takeV13 (i := 6) (oi := _) (v := ?_) (d := some 18) rfl (by kernel_rfl) (by kernel_rfl) (by kernel_rfl) (by kernel_rfl) (fun _ _ _ h => h) (Or.inl ⟨by rfl, ?_⟩) (by assumption) ?_
          rotate_left
          · (intro w hSw; (try dsimp only at hSw); go_simp <;> with_reducible rfl)
          try simp only [Act.put, List.setIfInBounds_toArray, List.set_cons_zero, List.set_cons_succ]
          have XB := HL_3
          have X8 := XG_3
          have XU := XT_3
          have hlo : w4.heap.size ≤ v1.heap.size := by omega
          have XQ : Hid (OwnBd v3 w4.heap.size v3.heap.size (.slice sa2 ns2 sc2) (.slice la2 nl2 lc2) (.slice ta2 nt2 tc2) nb) := OO_3.out.mono hlo (Nat.le_refl _)
          have XL8 : w4.heap.size ≤ v0.heap.size := by omega
          clear hlo HL_3 XG_3 XT_3 OO_3 hl0 hz0 hl1 hz1 hl2 hz2
          generalize v0.heap.size = g8 at X8 XU XL8 ⊢
          generalize v3.heap.size = hi8 at XQ
          obtain ⟨V, rfl⟩ : ∃ V : World, V = v3 := ⟨_, rfl⟩
    all_goals (
      obtain ⟨⟨ce0, ce1, ce2, ce3, ce4⟩, ef⟩ := id X8.out
      have cq0 := ef 0
      have cq1 := ef 1
      have cq2 := ef 2
      have cq3 := ef 3
      have cq4 := ef 4
      have h_B : Below w4.heap.size w4 (((((V.setCell ⟨g8, 0, none⟩ (.int .i64 nf2)).setCell ⟨g8, 1, none⟩ (.int .i64 ne2)).setCell ⟨g8, 2, none⟩ (.slice sa2 ns2 sc2)).setCell ⟨g8, 3, none⟩ (.slice la2 nl2 lc2)).setCell ⟨g8, 4, none⟩ (.slice ta2 nt2 tc2)) := (((((XB.out.setCell (by dsimp only; omega) _).setCell (by dsimp only; omega) _).setCell (by dsimp only; omega) _).setCell (by dsimp only; omega) _).setCell (by dsimp only; omega) _)
      have h_X : X5 (((((V.setCell ⟨g8, 0, none⟩ (.int .i64 nf2)).setCell ⟨g8, 1, none⟩ (.int .i64 ne2)).setCell ⟨g8, 2, none⟩ (.slice sa2 ns2 sc2)).setCell ⟨g8, 3, none⟩ (.slice la2 nl2 lc2)).setCell ⟨g8, 4, none⟩ (.slice ta2 nt2 tc2)) g8 (.int .i64 nf2) (.int .i64 ne2) (.slice sa2 ns2 sc2) (.slice la2 nl2 lc2) (.slice ta2 nt2 tc2) := (((((X8.out.set0 _).set1 _).set2 _).set3 _).set4 _)
      have h_Q : OwnBd (((((V.setCell ⟨g8, 0, none⟩ (.int .i64 nf2)).setCell ⟨g8, 1, none⟩ (.int .i64 ne2)).setCell ⟨g8, 2, none⟩ (.slice sa2 ns2 sc2)).setCell ⟨g8, 3, none⟩ (.slice la2 nl2 lc2)).setCell ⟨g8, 4, none⟩ (.slice ta2 nt2 tc2)) w4.heap.size hi8 (.slice sa2 ns2 sc2) (.slice la2 nl2 lc2) (.slice ta2 nt2 tc2) nb := (OwnBd.box (OwnBd.box (OwnBd.box (OwnBd.box (OwnBd.box XQ.out XU.out 0 _) (XU.out.set g8 0 (.int .i64 nf2)) 1 _) ((XU.out.set g8 0 (.int .i64 nf2)).set g8 1 (.int .i64 ne2)) 2 _) (((XU.out.set g8 0 (.int .i64 nf2)).set g8 1 (.int .i64 ne2)).set g8 2 (.slice sa2 ns2 sc2)) 3 _) ((((XU.out.set g8 0 (.int .i64 nf2)).set g8 1 (.int .i64 ne2)).set g8 2 (.slice sa2 ns2 sc2)).set g8 3 (.slice la2 nl2 lc2)) 4 _)
      refine wpAnyH_ready (rs := [8]) (by kernel_rfl) (by simp) ?_
      refine AllReadyH.cons (o := _) rfl (fun K hK => ?_) AllReadyH.nil
      go_simp
      refine hK.out _ _ ?_ (fun hHeld => ?_)
      · exact ⟨(A_4.out.later (h_B)).1.1, (A_4.out.later (h_B)).1.2.1, (A_4.out.later (h_B)).1.2.2.1, (A_4.out.later (h_B)).1.2.2.2.1, (A_4.out.later (h_B)).1.2.2.2.2, (B_4.out.later (h_B)).1.1, (B_4.out.later (h_B)).1.2.1, (B_4.out.later (h_B)).1.2.2⟩
      clear hK K
      try simp only [Act.put, List.setIfInBounds_toArray, List.set_cons_zero, List.set_cons_succ]
      generalize (((((V.setCell ⟨g8, 0, none⟩ (.int .i64 nf2)).setCell ⟨g8, 1, none⟩ (.int .i64 ne2)).setCell ⟨g8, 2, none⟩ (.slice sa2 ns2 sc2)).setCell ⟨g8, 3, none⟩ (.slice la2 nl2 lc2)).setCell ⟨g8, 4, none⟩ (.slice ta2 nt2 tc2)) = V1 at h_B h_X h_Q hHeld ⊢
      clear XB X8 XU XQ ef ce0 cq0 ce1 cq1 ce2 cq2 ce3 cq3 ce4 cq4
      refine takeV13 (i := 9) (oi := _) (v := ?_) (d := some 7) rfl (by kernel_rfl) (by kernel_rfl) (by kernel_rfl) (by kernel_rfl) (fun _ _ _ h => h) (Or.inl ⟨by rfl, ?_⟩) (by assumption) ?_
      rotate_left
      · (intro w hSw; (try dsimp only at hSw); go_simp <;> with_reducible rfl)
      try simp only [Act.put, List.setIfInBounds_toArray, List.set_cons_zero, List.set_cons_succ]
      refine wpAnyH_done (by kernel_rfl) ?_ _
      go_wp2_with fail
      go_meet
      exact ⟨g8, sa2, sc2, la2, lc2, ta2, tc2, rfl, rfl, h_X, h_Q.read, h_B, XL8⟩)
  case rest =>
    obtain ⟨g8, sa2, sc2, la2, lc2, ta2, tc2, rfl, rfl, h8, hrb, hbb, hl8⟩ := hcut
    obtain ⟨w5, rfl⟩ : ∃ V : World, V = wc := ⟨_, rfl⟩
    have HB_5 : Hid (Below w.heap.size w w5) := HB_4.out.trans (hbb.mono HB_4.out.size)
    have RB_5 : Hid (ReadB w5 sa sn sc la ln lc ta tn tc ⟨f, e, sg, li, ls⟩) := RB_4.out.later hbb
    have A_5 : Hid (X5 w5 w.heap.size (.int .i64 f) (.int .i64 e) (.slice sa sn sc) (.slice la ln lc) (.slice ta tn tc)) := A_4.out.later hbb
    have B_5 : Hid (X3 w5 w1.heap.size (.int .i64 k) (.int .i64 m) (.int .i64 l)) := B_4.out.later hbb
    have R_5 : Hid (X5 w5 w2.heap.size (.int .i64 0) (.int .i64 0) (.slice none 0 0) (.slice none 0 0) (.slice none 0 0)) := R_4.out.later hbb
    have z5 : w4.heap.size ≤ w5.heap.size := hbb.size
    have l8 : g8 < w5.heap.size := h8.lt
    have G_5 : Hid (X5 w5 g8 (.int .i64 nf2) (.int .i64 ne2) (.slice sa2 ns2 sc2) (.slice la2 nl2 lc2) (.slice ta2 nt2 tc2)) := h8
    have RN_5 : Hid (ReadB w5 sa2 ns2 sc2 la2 nl2 lc2 ta2 nt2 tc2 nb) := hrb
    clear h8 hrb hbb qO qS HB_4 RB_4 A_4 B_4 R_4
    have hZF := (((((R_5.out.set0 (.int .i64 0)).set1 (.int .i64 0)).set2 (.slice none 0 0)).set3 (.slice none 0 0)).set4 (.slice none 0 0))
    have hBF : Below w.heap.size w (((((w5.setCell ⟨w2.heap.size, 0, none⟩ (.int .i64 0)).setCell ⟨w2.heap.size, 1, none⟩ (.int .i64 0)).setCell ⟨w2.heap.size, 2, none⟩ (.slice none 0 0)).setCell ⟨w2.heap.size, 3, none⟩ (.slice none 0 0)).setCell ⟨w2.heap.size, 4, none⟩ (.slice none 0 0)) := (((((HB_5.out.setCell (by show w.heap.size ≤ w2.heap.size; omega) _).setCell (by show w.heap.size ≤ w2.heap.size; omega) _).setCell (by show w.heap.size ≤ w2.heap.size; omega) _).setCell (by show w.heap.size ≤ w2.heap.size; omega) _).setCell (by show w.heap.size ≤ w2.heap.size; omega) _)
    obtain ⟨⟨y0, y1, y2, y3, y4⟩, yf⟩ := id (R_5.out)
    have yf0 := yf 0
    have yf1 := yf 1
    have yf2 := yf 2
    have yf3 := yf 3
    have yf4 := yf 4
    obtain ⟨FW, hFW⟩ : ∃ F, (((((w5.setCell ⟨w2.heap.size, 0, none⟩ (.int .i64 0)).setCell ⟨w2.heap.size, 1, none⟩ (.int .i64 0)).setCell ⟨w2.heap.size, 2, none⟩ (.slice none 0 0)).setCell ⟨w2.heap.size, 3, none⟩ (.slice none 0 0)).setCell ⟨w2.heap.size, 4, none⟩ (.slice none 0 0)) = F := ⟨_, rfl⟩
    rw [hFW] at hZF hBF
    obtain ⟨⟨t0, t1, t2, t3, t4⟩, _⟩ := hZF
    have HBF : Hid (Below w.heap.size w FW) := hBF
    clear hBF yf
    obtain ⟨⟨Aq0, Aq1, Aq2, Aq3, Aq4⟩, Af⟩ := id (A_5.out)
    clear Af
    obtain ⟨⟨Bq0, Bq1, Bq2⟩, Bf⟩ := id (B_5.out)
    clear Bf
    obtain ⟨⟨Gq0, Gq1, Gq2, Gq3, Gq4⟩, Gf⟩ := id (G_5.out)
    clear Gf
    go_wp2
    refine bodyPost_ret (v := .tuple #[.agg #[.int .i64 0, .int .i64 0, .slice none 0 0, .slice none 0 0, .slice none 0 0], .bool false]) (by simp [results, Try.results21, go_sem, t0, t1, t2, t3, t4]; try rfl) rfl ?_
    exact ⟨none, 0, none, 0, none, 0, by rw [HV.out.1, HV.out.2]; rfl, by rw [HV.out.2]; exact zeroOwn _ _ _, HBF.out⟩

theorem specStep_c (f e : Int) (sa : Option Addr) (sn sc : Nat) (la : Option Addr) (ln lc : Nat) (ta : Option Addr) (tn tc : Nat) (sg : List (List Int)) (li ls : List Int) (k m l : Int) (w : World) (hr : ReadB w sa sn sc la ln lc ta tn tc ⟨f, e, sg, li, ls⟩) (hsn : sn ≤ 1048576) (hln : ln ≤ 1048576) (htn : tn ≤ 1048576) :
    Calls Try.prog 21 #[.agg #[.int .i64 f, .int .i64 e, .slice sa sn sc, .slice la ln lc, .slice ta tn tc], .agg #[.int .i64 k, .int .i64 m, .int .i64 l]] w fun r w' => BdOk r w w' (stepV ⟨f, e, sg, li, ls⟩ k m l) (stepB ⟨f, e, sg, li, ls⟩ k m l) := by
  cases hg : goodBd ⟨f, e, sg, li, ls⟩
  · exact specStep_bad f e sa sn sc la ln lc ta tn tc sg li ls k m l w hg hr hsn hln htn
  cases hfb : (stepO ⟨f, e, sg, li, ls⟩ k m l).isSome
  · exact specStep_no f e sa sn sc la ln lc ta tn tc sg li ls k m l w hg hfb hr
  · exact specStep_ok f e sa sn sc la ln lc ta tn tc sg li ls k m l w hg hfb hr

end Go.Proofs.Ytaokmjbhgkfnfaa
