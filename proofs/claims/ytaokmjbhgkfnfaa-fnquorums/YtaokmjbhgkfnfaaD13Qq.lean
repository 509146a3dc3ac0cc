/- Chapter 13: boards that are drawn. Nothing is said of them but how much they hold. -/
import Derived.Test.YtaokmjbhgkfnfaaSM13q
import Derived.Test.YtaokmjbhgkfnfaaPQ13q
import Derived.Test.YtaokmjbhgkfnfaaLSX13q
namespace Go.Proofs.Ytaokmjbhgkfnfaa
set_option linter.unusedVariables false
set_option maxRecDepth 1000000
set_option linter.unusedSimpArgs false
open Go.RowKit

theorem Cur.low {w w' : World} {g : Nat} {ao : Option Addr} {n c B : Nat} {M : Int} (h : Cur w g ao n c M) (hb : Below B w w') (hgB : g < B) (ho : Old ao n B) : Cur w' g ao n c M := by
 refine ⟨h.hn, ?_, by rw [hb.cell (p := ⟨g, 0, none⟩) hgB]; exact h.slice, ?_, ?_, fun j => by rw [hb.frozen (p := ⟨g, j, none⟩) hgB]; exact h.free j⟩
 ·rcases h.code with h1 | ⟨b, off, rfl, hne, f, hf⟩
  ·exact Or.inl h1
  ·rcases ho with h0 | ⟨b', off', e, hb'⟩
   ·exact Or.inl h0
   ·simp only [Option.some.injEq, Addr.mk.injEq, and_true] at e
    obtain ⟨rfl, rfl⟩ := e
    exact Or.inr ⟨b, off, rfl, hne, f, fun j hj => ⟨by rw [hb.cell (p := ⟨b, off + j, none⟩) hb']; exact (hf j hj).1, (hf j hj).2⟩⟩
 ·obtain ⟨z, h0, h1, h2⟩ := h.at'
  exact ⟨z, h0, h1, by rw [hb.cell (p := ⟨g, 1, none⟩) hgB]; exact h2⟩
 ·obtain ⟨z, h2⟩ := h.seed
  exact ⟨z, by rw [hb.cell (p := ⟨g, 2, none⟩) hgB]; exact h2⟩
theorem GB.low {g B : Nat} {w w1 w2 : World} (h : GB g w w1) (hb : Below B w1 w2) (hB : w.heap.size ≤ B) : GB g w w2 :=
 ⟨hb.os.trans h.os, hb.tape.trans h.tape, hb.output.trans h.output, Nat.le_trans h.size hb.size, fun q hq hne => (hb.block q (by omega)).trans (h.block q hq hne)⟩

structure DBd (w wr : World) (g B n c r lo hi : Nat) (ao : Option Addr) (M : Int) (f e : Int) (sa : Option Addr) (sn sc : Nat) (la : Option Addr) (ln lc : Nat) (ta : Option Addr) (tn tc : Nat) (b : BdV) : Prop where
 cur : Cur wr g ao n c M
 gb : GB g w wr
 R : X5 wr B (.int .i64 0) (.int .i64 0) (.slice none 0 0) (.slice none 0 0) (.slice none 0 0)
 N : X5 wr r (.int .i64 f) (.int .i64 e) (.slice sa sn sc) (.slice la ln lc) (.slice ta tn tc)
 T : BoxT wr r
 own : OwnBd wr lo hi (.slice sa sn sc) (.slice la ln lc) (.slice ta tn tc) b
 blo : B < lo
 bhi : hi ≤ wr.heap.size
 blh : lo ≤ hi
 rB : B < r
 wB : w.heap.size = B
 gB : g < B
 old : Old ao n B
theorem DBd.drew {w wr : World} {g B n c r lo hi : Nat} {ao : Option Addr} {M : Int} {f e : Int} {sa : Option Addr} {sn sc : Nat} {la : Option Addr} {ln lc : Nat} {ta : Option Addr} {tn tc : Nat} {b : BdV} {wr' : World} {M' : Int} (h : DBd w wr g B n c r lo hi ao M f e sa sn sc la ln lc ta tn tc b) (hC : Cur wr' g ao n c M') (hG : GB g wr wr') : DBd w wr' g B n c r lo hi ao M' f e sa sn sc la ln lc ta tn tc b :=
 have hr : RngP (fun k => k = g) wr wr' := RngP.ofGrown hG (fun k e => (Option.some.inj e).symm)
 ⟨hC, h.gb.trans hG, h.R.rngP hr (fun e => by have := h.gB; omega), h.N.rngP hr (fun e => by have := h.gB; have := h.rB; omega), h.T.rngP hr (fun e => by have := h.gB; have := h.rB; omega), h.own.rng hr (fun k h1 _ e => by have := h.gB; have := h.blo; omega), h.blo, Nat.le_trans h.bhi hG.size, h.blh, h.rB, h.wB, h.gB, h.old⟩
theorem DBd.alloc {w wr : World} {g B n c r lo hi : Nat} {ao : Option Addr} {M : Int} {f e : Int} {sa : Option Addr} {sn sc : Nat} {la : Option Addr} {ln lc : Nat} {ta : Option Addr} {tn tc : Nat} {b : BdV} (h : DBd w wr g B n c r lo hi ao M f e sa sn sc la ln lc ta tn tc b) (x : Obj) : DBd w (wr.alloc x) g B n c r lo hi ao M f e sa sn sc la ln lc ta tn tc b :=
 have hb := balloc wr x
 ⟨h.cur.alloc _, h.gb.alloc _, h.R.later hb, h.N.later hb, h.T.later hb, h.own.later hb, h.blo, Nat.le_trans h.bhi hb.size, h.blh, h.rB, h.wB, h.gB, h.old⟩
theorem DBd.epoch {w wr : World} {g B n c r lo hi : Nat} {ao : Option Addr} {M : Int} {f e : Int} {sa : Option Addr} {sn sc : Nat} {la : Option Addr} {ln lc : Nat} {ta : Option Addr} {tn tc : Nat} {b : BdV} (h : DBd w wr g B n c r lo hi ao M f e sa sn sc la ln lc ta tn tc b) (hd : r < lo ∨ hi ≤ r) (z : Int) : DBd w (wr.setCell ⟨r, 1, none⟩ (.int .i64 z)) g B n c r lo hi ao M f z sa sn sc la ln lc ta tn tc ⟨b.f, z, b.sg, b.li, b.ls⟩ :=
 have ho := h.own.cell hd (j := 1) (.int .i64 z)
 ⟨h.cur.grown (B := B) (grown_setCell _ _ _ _) (fun k e => by have e2 := Option.some.inj e; have := h.rB; omega) h.gB h.old, h.gb.grown (grown_setCell _ _ _ _) (fun k e => by have e2 := Option.some.inj e; have := h.rB; have := h.wB; omega), h.R.other (r' := r) (j' := 1) (u := .int .i64 z) (by have := h.rB; omega), h.N.set1 _, h.T.set _ _ _, ⟨ho.ex, ho.li, ho.ls, ho.sep⟩, h.blo, by simpa using h.bhi, h.blh, h.rB, h.wB, h.gB, h.old⟩
theorem DBd.push {w wr : World} {g B n c r lo hi : Nat} {ao : Option Addr} {M : Int} {f e : Int} {sa : Option Addr} {sn sc : Nat} {la : Option Addr} {ln lc : Nat} {ta : Option Addr} {tn tc : Nat} {b : BdV} (h : DBd w wr g B n c r lo hi ao M f e sa sn sc la ln lc ta tn tc b) (hd : r < lo ∨ hi ≤ r) (hn : b.sg.length ≤ 1000) (x y z : Int) :
  ∃ gq cap w', (∀ ty, (Builtin.append_ #[27, 27] ty #[.slice sa sn sc, .slice (some ⟨wr.heap.size + 1, 0, none⟩) 1 1]).run Try.prog ((wr.alloc (.cells #[.int .i64 x, .int .i64 y, .int .i64 z] 3)).alloc (.cells #[.slice (some ⟨wr.heap.size, 0, none⟩) 3 3] 23)) = .ok (.slice (some ⟨gq, 0, none⟩) (b.sg.length + 1) cap) w') ∧ X5 w' r (.int .i64 f) (.int .i64 e) (.slice sa sn sc) (.slice la ln lc) (.slice ta tn tc) ∧ DBd w (w'.setCell ⟨r, 2, none⟩ (.slice (some ⟨gq, 0, none⟩) (b.sg.length + 1) cap)) g B n c r lo w'.heap.size ao M f e (some ⟨gq, 0, none⟩) (b.sg.length + 1) cap la ln lc ta tn tc ⟨b.f, b.e, b.sg ++ [[x, y, z]], b.li, b.ls⟩ := by
 obtain ⟨gq, cap, w', r1, hpu, hrg⟩ := h.own.push h.bhi (by have := h.blh; have := h.bhi; omega) hn x y z b.f b.e
 have hlb : Below lo wr w' := hrg.below (fun k hk => hk.1) (by have := h.blh; have := h.bhi; omega)
 have hlo := h.blo
 have hT : BoxT w' r := h.T.rngP hrg (by omega)
 have hN : X5 w' r (.int .i64 f) (.int .i64 e) (.slice sa sn sc) (.slice la ln lc) (.slice ta tn tc) := h.N.rngP hrg (by omega)
 have hC : Cur w' g ao n c M := h.cur.low hlb (by have := h.gB; omega) (old_mono h.old (by omega))
 have hG : GB g w w' := h.gb.low hlb (by have := h.wB; omega)
 have hR : X5 w' B (.int .i64 0) (.int .i64 0) (.slice none 0 0) (.slice none 0 0) (.slice none 0 0) := h.R.rngP hrg (by omega)
 refine ⟨gq, cap, w', r1, hN, ⟨hC.grown (B := B) (grown_setCell _ _ _ _) (fun k e => by have e2 := Option.some.inj e; have := h.rB; omega) h.gB h.old, hG.grown (grown_setCell _ _ _ _) (fun k e => by have e2 := Option.some.inj e; have := h.rB; have := h.wB; omega), hR.other (r' := r) (j' := 2) (u := _) (by have := h.rB; omega), hN.set2 _, hT.set _ _ _, hpu.box hT 2 _, h.blo, by simp, ?_, h.rB, h.wB, h.gB, h.old⟩⟩
 have := hrg.size
 have := h.blh
 have := h.bhi
 omega
theorem DBd.anew {w wr w' : World} {g B n c r lo hi : Nat} {ao : Option Addr} {M : Int} {f e : Int} {sa : Option Addr} {sn sc : Nat} {la : Option Addr} {ln lc : Nat} {ta : Option Addr} {tn tc : Nat} {b : BdV} (h : DBd w wr g B n c r lo hi ao M f e sa sn sc la ln lc ta tn tc b) (hb : Below wr.heap.size wr w') {f2 e2 : Int} {sa2 : Option Addr} {sn2 sc2 : Nat} {la2 : Option Addr} {ln2 lc2 : Nat} {ta2 : Option Addr} {tn2 tc2 : Nat} {b2 : BdV} (ho : OwnBd w' wr.heap.size w'.heap.size (.slice sa2 sn2 sc2) (.slice la2 ln2 lc2) (.slice ta2 tn2 tc2) b2) (h4 : wr.heap.size = r + 1) (hB : B < r) :
  DBd w (((((w'.setCell ⟨r, 0, none⟩ (.int .i64 f2)).setCell ⟨r, 1, none⟩ (.int .i64 e2)).setCell ⟨r, 2, none⟩ (.slice sa2 sn2 sc2)).setCell ⟨r, 3, none⟩ (.slice la2 ln2 lc2)).setCell ⟨r, 4, none⟩ (.slice ta2 tn2 tc2)) g B n c r wr.heap.size w'.heap.size ao M f2 e2 sa2 sn2 sc2 la2 ln2 lc2 ta2 tn2 tc2 b2 := by
 have hg := grown_trans (grown_trans (grown_trans (grown_trans (grown_setCell w' r 0 (.int .i64 f2)) (grown_setCell _ r 1 (.int .i64 e2))) (grown_setCell _ r 2 (.slice sa2 sn2 sc2))) (grown_setCell _ r 3 (.slice la2 ln2 lc2))) (grown_setCell _ r 4 (.slice ta2 tn2 tc2))
 have hr : RngP (fun k => k = r) w' _ := RngP.ofGrown hg (fun k e => (Option.some.inj e).symm)
 have hT := h.T.later hb
 refine ⟨(h.cur.later hb).grown (B := B) hg (fun k e => by have e2 := Option.some.inj e; omega) h.gB h.old, (h.gb.trans (GB.of_below hb (Nat.le_refl _))).grown hg (fun k e => by have e2 := Option.some.inj e; have := h.wB; omega), (h.R.later hb).rngP hr (by omega), (((((h.N.later hb).set0 _).set1 _).set2 _).set3 _).set4 _, ((((hT.set _ _ _).set _ _ _).set _ _ _).set _ _ _).set _ _ _, ho.rng hr (fun k h1 _ e => by omega), by omega, by simp, hb.size, h.rB, h.wB, h.gB, h.old⟩

def DrawnBd (g : Nat) (ao : Option Addr) (n c : Nat) (M : Int) (w : World) (r : Ending) (w' : World) : Prop := ∃ (f e : Int) (sa : Option Addr) (sn sc : Nat) (la : Option Addr) (ln lc : Nat) (ta : Option Addr) (tn tc : Nat) (sg : List (List Int)) (li ls : List Int), r = .returned (.agg #[.int .i64 f, .int .i64 e, .slice sa sn sc, .slice la ln lc, .slice ta tn tc]) ∧ SmallBd ⟨f, e, sg, li, ls⟩ ∧ OwnBd w' w.heap.size w'.heap.size (.slice sa sn sc) (.slice la ln lc) (.slice ta tn tc) ⟨f, e, sg, li, ls⟩ ∧ Cur w' g ao n c (M + 3000) ∧ GB g w w'
theorem DBd.fin {w wr : World} {g B n c r lo hi : Nat} {ao : Option Addr} {M M' : Int} {f e : Int} {sa : Option Addr} {sn sc : Nat} {la : Option Addr} {ln lc : Nat} {ta : Option Addr} {tn tc : Nat} {sg : List (List Int)} {li ls : List Int} (h : DBd w wr g B n c r lo hi ao M f e sa sn sc la ln lc ta tn tc ⟨f, e, sg, li, ls⟩) (hs : SmallBd ⟨f, e, sg, li, ls⟩) (hM : M ≤ M' + 3000) (FW : World) (hF : ((((wr.setCell ⟨B, 0, none⟩ (.int .i64 f)).setCell ⟨B, 1, none⟩ (.int .i64 e)).setCell ⟨B, 2, none⟩ (.slice sa sn sc)).setCell ⟨B, 3, none⟩ (.slice la ln lc)).setCell ⟨B, 4, none⟩ (.slice ta tn tc) = FW) :
  X5 FW B (.int .i64 f) (.int .i64 e) (.slice sa sn sc) (.slice la ln lc) (.slice ta tn tc) ∧ DrawnBd g ao n c M' w (.returned (.agg #[.int .i64 f, .int .i64 e, .slice sa sn sc, .slice la ln lc, .slice ta tn tc])) FW := by
 subst hF
 have hlo := h.blo
 have hg := grown_trans (grown_trans (grown_trans (grown_trans (grown_setCell wr B 0 (.int .i64 f)) (grown_setCell _ B 1 (.int .i64 e))) (grown_setCell _ B 2 (.slice sa sn sc))) (grown_setCell _ B 3 (.slice la ln lc))) (grown_setCell _ B 4 (.slice ta tn tc))
 have hr : RngP (fun k => k = B) wr _ := RngP.ofGrown hg (fun k e => (Option.some.inj e).symm)
 have ho := h.own.rng hr (fun k h1 _ e => by omega)
 refine ⟨((((h.R.set0 _).set1 _).set2 _).set3 _).set4 _, f, e, sa, sn, sc, la, ln, lc, ta, tn, tc, sg, li, ls, rfl, hs, ho.mono (by have := h.wB; omega) (Nat.le_trans h.bhi hg.size), ?_, ?_⟩
 ·exact (h.cur.grown (B := B) hg (fun k e => by have e2 := Option.some.inj e; omega) h.gB h.old).mono hM
 ·exact h.gb.grown hg (fun k e => by have e2 := Option.some.inj e; have := h.wB; omega)

theorem small_push {f e : Int} {sg : List (List Int)} {li ls : List Int} (h : SmallBd ⟨f, e, sg, li, ls⟩) (hs : sg.length ≤ 200) : SmallBd ⟨f, e, sg ++ [[0, 0, 5]], li, ls⟩ :=
 ⟨by simp only [List.length_append, List.length_cons, List.length_nil]; omega, h.l, h.t, fun l hl => by
  rcases List.mem_append.1 hl with h1 | h1
  ·exact h.r l h1
  ·rw [List.mem_singleton.1 h1]; decide⟩
theorem pbV_zero (f : Int) (li : List Int) (l : List (Int × Int × Int)) : SmallBd (pbV f li l).1 ∧ (pbV f li l).1.sg.length ≤ 200 := by
 unfold pbV
 split
 ·rename_i h
  unfold pbOk at h
  rw [Bool.and_eq_true, decide_eq_true_eq] at h
  have hg : goodBd ⟨f, 0, [], li, []⟩ = true := by rw [good_newB]; exact h.1
  have h2 := good_few (playP_good hg l)
  exact ⟨⟨by have := h2.s; omega, by have := h2.l; omega, by have := h2.t; omega, fun x hx => by have := h2.z x hx; omega⟩, h2.s⟩
 ·exact ⟨⟨by simp [zeroBd], by simp [zeroBd], by simp [zeroBd], fun x hx => by simp [zeroBd] at hx⟩, by simp [zeroBd]⟩
set_option maxHeartbeats 8000000 in
theorem board_c (g : Nat) (ao : Option Addr) (n c : Nat) (M : Int) (w : World) (hM : M ≤ 10000) (h : Cur w g ao n c M) :
  Calls Try.prog 66 #[.pointer (some ⟨g, 0, none⟩)] w fun r w' => DrawnBd g ao n c M w r w' := by
 have hOB : Hid (Old ao n w.heap.size) := h.code.old
 have hgB : g < w.heap.size := h.lt
 have bA := balloc w (.cells #[.int .i64 0, .int .i64 0, .slice none 0 0, .slice none 0 0, .slice none 0 0] 29)
 have hRA := x5_new w (.int .i64 0) (.int .i64 0) (.slice none 0 0) (.slice none 0 0) (.slice none 0 0) 29 w.heap.size rfl
 have hsA : (w.alloc (.cells #[.int .i64 0, .int .i64 0, .slice none 0 0, .slice none 0 0, .slice none 0 0] 29)).heap.size = w.heap.size + 1 := by simp
 obtain ⟨wA, hwA⟩ : ∃ V, w.alloc (.cells #[.int .i64 0, .int .i64 0, .slice none 0 0, .slice none 0 0, .slice none 0 0] 29) = V := ⟨_, rfl⟩
 rw [hwA] at bA hRA hsA
 have CA : Hid (Cur wA g ao n c M) := h.later bA
 have GA : Hid (GB g w wA) := GB.of_below bA (Nat.le_refl _)
 have RA : Hid (X5 wA w.heap.size (.int .i64 0) (.int .i64 0) (.slice none 0 0) (.slice none 0 0) (.slice none 0 0)) := hRA
 have SA : Hid (wA.heap.size = w.heap.size + 1) := hsA
 clear bA hRA hsA h
 go_enter Try.func66, Try.ntmps66
 go_wp2_with fail
 clear hwA
 refine (boardOf_c g ao n c M _ (by omega) CA.out).mono ?_
 rintro e0 w1 ⟨f0, pa, pn, pc, qi, rfl, hpn, ho, hc, hg⟩
 have hr1 : RngP (fun k => k = g) wA w1 := RngP.ofGrown hg (fun k e => (Option.some.inj e).symm)
 have C1 : Hid (Cur w1 g ao n c (M + 60)) := hc
 have G1 : Hid (GB g w w1) := GA.out.trans hg
 have R1 : Hid (X5 w1 w.heap.size (.int .i64 0) (.int .i64 0) (.slice none 0 0) (.slice none 0 0) (.slice none 0 0)) := RA.out.rngP hr1 (by omega)
 have P1 : Hid (Own w1 (w.heap.size + 1) (.slice pa pn pc) qi) := ho.mono (by rw [SA.out]; exact Nat.le_refl _)
 have S1 : Hid (w.heap.size + 1 ≤ w1.heap.size) := by have h1 := hr1.size; have h2 := SA.out; show _ ≤ _; omega
 clear hr1 hc hg ho CA GA RA SA
 go_wp2_with fail
 refine (boardSteps_c g ao n c _ _ (by omega) C1.out).mono ?_
 rintro e0 w2 ⟨lo, q, lc2, l, rfl, hq, ho, hc, hg⟩
 have hr1 : RngP (fun k => k = g) w1 w2 := RngP.ofGrown hg (fun k e => (Option.some.inj e).symm)
 have C2 : Hid (Cur w2 g ao n c (M + 2060)) := hc.mono (by omega)
 have G2 : Hid (GB g w w2) := G1.out.trans hg
 have R2 : Hid (X5 w2 w.heap.size (.int .i64 0) (.int .i64 0) (.slice none 0 0) (.slice none 0 0) (.slice none 0 0)) := R1.out.rngP hr1 (by omega)
 have P2 : Hid (Own w2 (w.heap.size + 1) (.slice pa pn pc) qi) := P1.out.kept hg (sep_own P1.out (by omega))
 have L2 : Hid (OwnT w2 w1.heap.size (.slice lo q lc2) l) := ho
 have S2 : Hid (w.heap.size + 1 ≤ w2.heap.size) := Nat.le_trans S1.out hr1.size
 clear hr1 hc hg ho C1 G1 R1 P1 S1
 have hpl := specPlay_c f0 pa pn pc lo q lc2 qi l w2 P2.out.rd'.1 (by omega) L2.out.rd'.1 (by omega) P2.out.rd'.2 P2.out.nil L2.out.rd'.2
 have hgd := pbV_zero f0 qi l
 unfold PbOk at hpl
 obtain ⟨⟨nb, dd⟩, hpv⟩ : ∃ p, pbV f0 qi l = p := ⟨_, rfl⟩
 rw [hpv] at hpl hgd
 obtain ⟨f, e, sg, li, ls⟩ := nb
 dsimp only at hpl hgd
 obtain ⟨sn, hsn⟩ : ∃ k, sg.length = k := ⟨_, rfl⟩
 obtain ⟨ln, hln⟩ : ∃ k, li.length = k := ⟨_, rfl⟩
 obtain ⟨tn, htn⟩ : ∃ k, ls.length = k := ⟨_, rfl⟩
 obtain ⟨nd, hnd⟩ : ∃ k, dd.length = k := ⟨_, rfl⟩
 rw [hsn, hln, htn, hnd] at hpl
 have HLEN : Hid (sg.length = sn) := hsn
 have HSM : Hid (SmallBd ⟨f, e, sg, li, ls⟩) := hgd.1
 have HFW : Hid (sg.length ≤ 200) := hgd.2
 obtain ⟨fb, hfb⟩ : ∃ fb, pbOk f0 qi l.length = fb := ⟨_, rfl⟩
 rw [hfb] at hpl
 clear hpv hsn hln htn hnd hfb hgd
 go_wp2_with fail
 refine hpl.mono ?_
 clear hpl
 rintro e0 w3 ⟨sa, sc, la, lc, ta, tc, da, dc, rfl, ho, _, hb⟩
 have b4 := balloc w3 (.cells #[.int .i64 f, .int .i64 e, .slice sa sn sc, .slice la ln lc, .slice ta tn tc] 29)
 have hN4 := x5_new w3 (.int .i64 f) (.int .i64 e) (.slice sa sn sc) (.slice la ln lc) (.slice ta tn tc) 29 w3.heap.size rfl
 have hT4 : BoxT (w3.alloc (.cells #[.int .i64 f, .int .i64 e, .slice sa sn sc, .slice la ln lc, .slice ta tn tc] 29)) w3.heap.size := BoxT.new _ _ (by decide) (by decide)
 have hs4 : (w3.alloc (.cells #[.int .i64 f, .int .i64 e, .slice sa sn sc, .slice la ln lc, .slice ta tn tc] 29)).heap.size = w3.heap.size + 1 := by simp
 obtain ⟨w4, hw4⟩ : ∃ V, w3.alloc (.cells #[.int .i64 f, .int .i64 e, .slice sa sn sc, .slice la ln lc, .slice ta tn tc] 29) = V := ⟨_, rfl⟩
 rw [hw4] at b4 hN4 hT4 hs4
 have D4 : Hid (DBd w w4 g w.heap.size n c w3.heap.size w2.heap.size w3.heap.size ao (M + 2060) f e sa sn sc la ln lc ta tn tc ⟨f, e, sg, li, ls⟩) :=
  ⟨(C2.out.later hb).later b4, (G2.out.trans (GB.of_below hb (Nat.le_refl _))).trans (GB.of_below b4 (Nat.le_refl _)), (R2.out.later hb).later b4, hN4, hT4, ho.later b4, by have := S2.out; omega, by omega, hb.size, by have := S2.out; have := hb.size; omega, rfl, hgB, hOB.out⟩
 have HDI : Hid (w3.heap.size < w2.heap.size ∨ w3.heap.size ≤ w3.heap.size) := Or.inr (Nat.le_refl _)
 have S3 : Hid (w2.heap.size ≤ w3.heap.size ∧ w4.heap.size = w3.heap.size + 1) := ⟨hb.size, hs4⟩
 clear hb ho b4 hN4 hT4 hs4 C2 G2 R2 P2 L2
 cases fb
 case true =>
  go_wp2_with fail
  clear hw4
  refine (pick_c g ao n c _ 30 _ (by omega) (by omega) D4.out.cur).mono ?_
  rintro e0 w7 ⟨tt, rfl, ht0, ht1, hc, hg⟩
  have D7 := hidOf (D4.out.drew hc hg)
  clear hc hg D4
  obtain htt | htt | ht2 : tt = 0 ∨ tt = 1 ∨ 2 ≤ tt := by omega
  ·subst htt
   obtain ⟨gq, cap, w8, r1, hN8, hD8⟩ := D7.out.push HDI.out (by have h := HSM.out.s; have h2 := HFW.out; exact Nat.le_trans h2 (by omega)) 0 0 5
   simp only [HLEN.out] at r1 hD8
   obtain ⟨⟨m0, m1, m2, m3, m4⟩, _⟩ := id D7.out.N
   obtain ⟨⟨o0, o1, o2, o3, o4⟩, of⟩ := hN8
   have of2 := of 2
   obtain ⟨w9, hw9⟩ : ∃ V, w8.setCell ⟨w3.heap.size, 2, none⟩ (.slice (some ⟨gq, 0, none⟩) (sn + 1) cap) = V := ⟨_, rfl⟩
   rw [hw9] at hD8
   have D8 := hidOf hD8
   clear hD8 of D7
   have HSM2 : Hid (SmallBd ⟨f, e, sg ++ [[0, 0, 5]], li, ls⟩) := small_push HSM.out HFW.out
   obtain ⟨⟨n0, n1, n2, n3, n4⟩, _⟩ := id D8.out.N
   obtain ⟨⟨y0, y1, y2, y3, y4⟩, yf⟩ := id D8.out.R
   have yf0 := yf 0
   have yf1 := yf 1
   have yf2 := yf 2
   have yf3 := yf 3
   have yf4 := yf 4
   obtain ⟨FW, hFW⟩ : ∃ F, (((((w9.setCell ⟨w.heap.size, 0, none⟩ (.int .i64 f)).setCell ⟨w.heap.size, 1, none⟩ (.int .i64 e)).setCell ⟨w.heap.size, 2, none⟩ (.slice (some ⟨gq, 0, none⟩) (sn + 1) cap)).setCell ⟨w.heap.size, 3, none⟩ (.slice la ln lc)).setCell ⟨w.heap.size, 4, none⟩ (.slice ta tn tc)) = F := ⟨_, rfl⟩
   obtain ⟨⟨⟨t0, t1, t2, t3, t4⟩, _⟩, hdr⟩ := D8.out.fin (M' := M) HSM2.out (by omega) FW hFW
   have HDR := hidOf hdr
   clear yf hdr D8
   go_wp2_with (first | (at_builtin; refine Lib.wpList_append_run _ rfl _ _ _ _ rfl _ _ rfl rfl _ _ (r1 _) ?_; clear r1) | fail)
   refine bodyPost_ret (v := .agg #[.int .i64 f, .int .i64 e, .slice (some ⟨gq, 0, none⟩) (sn + 1) cap, .slice la ln lc, .slice ta tn tc]) (by simp [results, Try.results66, go_sem, t0, t1, t2, t3, t4]; try rfl) rfl ?_
   exact HDR.out
  ·subst htt
   have hgl := D7.out.cur.lt
   have hlit := lit_cells (fun _ => True) w7 #[.int .i64 (-1), .int .i64 20, .int .i64 21] 3 3 rfl ⟨trivial, trivial, trivial, trivial⟩
   go_wp2_with fail
   refine (among_p (fun _ => True) g ao n c _ w7.heap.size 3 _ (by omega) (by omega) hlit (by omega) (D7.out.cur.alloc _)).mono ?_
   rintro e0 w8 ⟨ze, rfl, _, hc, hg⟩
   have D8 := hidOf ((D7.out.alloc _).drew hc hg)
   clear hc hg D7 hlit hgl
   obtain ⟨⟨o0, o1, o2, o3, o4⟩, of⟩ := id D8.out.N
   have of1 := of 1
   have hD9 := D8.out.epoch HDI.out ze
   obtain ⟨w9, hw9⟩ : ∃ V, w8.setCell ⟨w3.heap.size, 1, none⟩ (.int .i64 ze) = V := ⟨_, rfl⟩
   rw [hw9] at hD9
   have D9 := hidOf hD9
   clear hD9 of D8
   have HSM2 : Hid (SmallBd ⟨f, ze, sg, li, ls⟩) := ⟨HSM.out.s, HSM.out.l, HSM.out.t, HSM.out.r⟩
   obtain ⟨⟨n0, n1, n2, n3, n4⟩, _⟩ := id D9.out.N
   obtain ⟨⟨y0, y1, y2, y3, y4⟩, yf⟩ := id D9.out.R
   have yf0 := yf 0
   have yf1 := yf 1
   have yf2 := yf 2
   have yf3 := yf 3
   have yf4 := yf 4
   obtain ⟨FW, hFW⟩ : ∃ F, (((((w9.setCell ⟨w.heap.size, 0, none⟩ (.int .i64 f)).setCell ⟨w.heap.size, 1, none⟩ (.int .i64 ze)).setCell ⟨w.heap.size, 2, none⟩ (.slice sa sn sc)).setCell ⟨w.heap.size, 3, none⟩ (.slice la ln lc)).setCell ⟨w.heap.size, 4, none⟩ (.slice ta tn tc)) = F := ⟨_, rfl⟩
   obtain ⟨⟨⟨t0, t1, t2, t3, t4⟩, _⟩, hdr⟩ := D9.out.fin (M' := M) HSM2.out (by omega) FW hFW
   have HDR := hidOf hdr
   clear yf hdr D9
   go_wp2
   refine bodyPost_ret (v := .agg #[.int .i64 f, .int .i64 ze, .slice sa sn sc, .slice la ln lc, .slice ta tn tc]) (by simp [results, Try.results66, go_sem, t0, t1, t2, t3, t4]; try rfl) rfl ?_
   exact HDR.out
  ·have hn0 : (tt == 0) = false := by simp; omega
   have hn1 : (tt == 1) = false := by simp; omega
   obtain ⟨⟨n0, n1, n2, n3, n4⟩, _⟩ := id D7.out.N
   obtain ⟨⟨y0, y1, y2, y3, y4⟩, yf⟩ := id D7.out.R
   have yf0 := yf 0
   have yf1 := yf 1
   have yf2 := yf 2
   have yf3 := yf 3
   have yf4 := yf 4
   obtain ⟨FW, hFW⟩ : ∃ F, (((((w7.setCell ⟨w.heap.size, 0, none⟩ (.int .i64 f)).setCell ⟨w.heap.size, 1, none⟩ (.int .i64 e)).setCell ⟨w.heap.size, 2, none⟩ (.slice sa sn sc)).setCell ⟨w.heap.size, 3, none⟩ (.slice la ln lc)).setCell ⟨w.heap.size, 4, none⟩ (.slice ta tn tc)) = F := ⟨_, rfl⟩
   obtain ⟨⟨⟨t0, t1, t2, t3, t4⟩, _⟩, hdr⟩ := D7.out.fin (M' := M) HSM.out (by omega) FW hFW
   have HDR := hidOf hdr
   clear yf hdr D7
   go_wp2
   refine bodyPost_ret (v := .agg #[.int .i64 f, .int .i64 e, .slice sa sn sc, .slice la ln lc, .slice ta tn tc]) (by simp [results, Try.results66, go_sem, t0, t1, t2, t3, t4]; try rfl) rfl ?_
   exact HDR.out
 case false =>
  have hnw := specNew_c 1 none 0 0 [] w4 rfl (by omega) (Or.inl rfl) (fun _ => ⟨rfl, rfl⟩)
  unfold NewOk at hnw
  have hnv : newV 1 [] = ⟨1, 0, [], [], []⟩ := by unfold newV; rw [if_pos (by decide)]
  have hcb : couB 1 [] = true := by decide
  rw [hnv, hcb] at hnw
  simp only [List.length_nil] at hnw
  go_wp2_with fail
  clear hw4
  refine hnw.mono ?_
  clear hnw HSM HFW HLEN HDI
  rintro e0 w5 ⟨sa2, sc2, la2, lc3, ta2, tc2, rfl, ho, hb⟩
  obtain ⟨⟨z0, z1, z2, z3, z4⟩, zf⟩ := D4.out.N.later hb
  have zf0 := zf 0
  have zf1 := zf 1
  have zf2 := zf 2
  have zf3 := zf 3
  have zf4 := zf 4
  have D6 := D4.out.anew hb (f2 := 1) (e2 := 0) ho S3.out.2 D4.out.rB
  obtain ⟨w6, hw6⟩ : ∃ V, (((((w5.setCell ⟨w3.heap.size, 0, none⟩ (.int .i64 1)).setCell ⟨w3.heap.size, 1, none⟩ (.int .i64 0)).setCell ⟨w3.heap.size, 2, none⟩ (.slice sa2 0 sc2)).setCell ⟨w3.heap.size, 3, none⟩ (.slice la2 0 lc3)).setCell ⟨w3.heap.size, 4, none⟩ (.slice ta2 0 tc2)) = V := ⟨_, rfl⟩
  rw [hw6] at D6
  have D6 := hidOf D6
  have HLEN : Hid (([] : List (List Int)).length = 0) := rfl
  have HSM : Hid (SmallBd ⟨1, 0, [], [], []⟩) := ⟨by simp, by simp, by simp, fun x hx => by simp at hx⟩
  have HFW : Hid (([] : List (List Int)).length ≤ 200) := by show _ ≤ _; simp
  have HDI : Hid (w3.heap.size < w4.heap.size ∨ w5.heap.size ≤ w3.heap.size) := Or.inl (by have := S3.out.2; omega)
  clear ho hb zf D4
  go_wp2_with fail
  clear hw6
  refine (pick_c g ao n c _ 30 _ (by omega) (by omega) D6.out.cur).mono ?_
  rintro e0 w7 ⟨tt, rfl, ht0, ht1, hc, hg⟩
  have D7 := hidOf (D6.out.drew hc hg)
  clear hc hg D6
  obtain htt | htt | ht2 : tt = 0 ∨ tt = 1 ∨ 2 ≤ tt := by omega
  ·subst htt
   obtain ⟨gq, cap, w8, r1, hN8, hD8⟩ := D7.out.push HDI.out (by have h := HSM.out.s; have h2 := HFW.out; exact Nat.le_trans h2 (by omega)) 0 0 5
   simp only [HLEN.out] at r1 hD8
   obtain ⟨⟨m0, m1, m2, m3, m4⟩, _⟩ := id D7.out.N
   obtain ⟨⟨o0, o1, o2, o3, o4⟩, of⟩ := hN8
   have of2 := of 2
   obtain ⟨w9, hw9⟩ : ∃ V, w8.setCell ⟨w3.heap.size, 2, none⟩ (.slice (some ⟨gq, 0, none⟩) (0 + 1) cap) = V := ⟨_, rfl⟩
   rw [hw9] at hD8
   have D8 := hidOf hD8
   clear hD8 of D7
   have HSM2 : Hid (SmallBd ⟨1, 0, [] ++ [[0, 0, 5]], [], []⟩) := small_push HSM.out HFW.out
   obtain ⟨⟨n0, n1, n2, n3, n4⟩, _⟩ := id D8.out.N
   obtain ⟨⟨y0, y1, y2, y3, y4⟩, yf⟩ := id D8.out.R
   have yf0 := yf 0
   have yf1 := yf 1
   have yf2 := yf 2
   have yf3 := yf 3
   have yf4 := yf 4
   obtain ⟨FW, hFW⟩ : ∃ F, (((((w9.setCell ⟨w.heap.size, 0, none⟩ (.int .i64 1)).setCell ⟨w.heap.size, 1, none⟩ (.int .i64 0)).setCell ⟨w.heap.size, 2, none⟩ (.slice (some ⟨gq, 0, none⟩) (0 + 1) cap)).setCell ⟨w.heap.size, 3, none⟩ (.slice la2 0 lc3)).setCell ⟨w.heap.size, 4, none⟩ (.slice ta2 0 tc2)) = F := ⟨_, rfl⟩
   obtain ⟨⟨⟨t0, t1, t2, t3, t4⟩, _⟩, hdr⟩ := D8.out.fin (M' := M) HSM2.out (by omega) FW hFW
   have HDR := hidOf hdr
   clear yf hdr D8
   go_wp2_with (first | (at_builtin; refine Lib.wpList_append_run _ rfl _ _ _ _ rfl _ _ rfl rfl _ _ (r1 _) ?_; clear r1) | fail)
   refine bodyPost_ret (v := .agg #[.int .i64 1, .int .i64 0, .slice (some ⟨gq, 0, none⟩) (0 + 1) cap, .slice la2 0 lc3, .slice ta2 0 tc2]) (by simp [results, Try.results66, go_sem, t0, t1, t2, t3, t4]; try rfl) rfl ?_
   exact HDR.out
  ·subst htt
   have hgl := D7.out.cur.lt
   have hlit := lit_cells (fun _ => True) w7 #[.int .i64 (-1), .int .i64 20, .int .i64 21] 3 3 rfl ⟨trivial, trivial, trivial, trivial⟩
   go_wp2_with fail
   refine (among_p (fun _ => True) g ao n c _ w7.heap.size 3 _ (by omega) (by omega) hlit (by omega) (D7.out.cur.alloc _)).mono ?_
   rintro e0 w8 ⟨ze, rfl, _, hc, hg⟩
   have D8 := hidOf ((D7.out.alloc _).drew hc hg)
   clear hc hg D7 hlit hgl
   obtain ⟨⟨o0, o1, o2, o3, o4⟩, of⟩ := id D8.out.N
   have of1 := of 1
   have hD9 := D8.out.epoch HDI.out ze
   obtain ⟨w9, hw9⟩ : ∃ V, w8.setCell ⟨w3.heap.size, 1, none⟩ (.int .i64 ze) = V := ⟨_, rfl⟩
   rw [hw9] at hD9
   have D9 := hidOf hD9
   clear hD9 of D8
   have HSM2 : Hid (SmallBd ⟨1, ze, [], [], []⟩) := ⟨HSM.out.s, HSM.out.l, HSM.out.t, HSM.out.r⟩
   obtain ⟨⟨n0, n1, n2, n3, n4⟩, _⟩ := id D9.out.N
   obtain ⟨⟨y0, y1, y2, y3, y4⟩, yf⟩ := id D9.out.R
   have yf0 := yf 0
   have yf1 := yf 1
   have yf2 := yf 2
   have yf3 := yf 3
   have yf4 := yf 4
   obtain ⟨FW, hFW⟩ : ∃ F, (((((w9.setCell ⟨w.heap.size, 0, none⟩ (.int .i64 1)).setCell ⟨w.heap.size, 1, none⟩ (.int .i64 ze)).setCell ⟨w.heap.size, 2, none⟩ (.slice sa2 0 sc2)).setCell ⟨w.heap.size, 3, none⟩ (.slice la2 0 lc3)).setCell ⟨w.heap.size, 4, none⟩ (.slice ta2 0 tc2)) = F := ⟨_, rfl⟩
   obtain ⟨⟨⟨t0, t1, t2, t3, t4⟩, _⟩, hdr⟩ := D9.out.fin (M' := M) HSM2.out (by omega) FW hFW
   have HDR := hidOf hdr
   clear yf hdr D9
   go_wp2
   refine bodyPost_ret (v := .agg #[.int .i64 1, .int .i64 ze, .slice sa2 0 sc2, .slice la2 0 lc3, .slice ta2 0 tc2]) (by simp [results, Try.results66, go_sem, t0, t1, t2, t3, t4]; try rfl) rfl ?_
   exact HDR.out
  ·have hn0 : (tt == 0) = false := by simp; omega
   have hn1 : (tt == 1) = false := by simp; omega
   obtain ⟨⟨n0, n1, n2, n3, n4⟩, _⟩ := id D7.out.N
   obtain ⟨⟨y0, y1, y2, y3, y4⟩, yf⟩ := id D7.out.R
   have yf0 := yf 0
   have yf1 := yf 1
   have yf2 := yf 2
   have yf3 := yf 3
   have yf4 := yf 4
   obtain ⟨FW, hFW⟩ : ∃ F, (((((w7.setCell ⟨w.heap.size, 0, none⟩ (.int .i64 1)).setCell ⟨w.heap.size, 1, none⟩ (.int .i64 0)).setCell ⟨w.heap.size, 2, none⟩ (.slice sa2 0 sc2)).setCell ⟨w.heap.size, 3, none⟩ (.slice la2 0 lc3)).setCell ⟨w.heap.size, 4, none⟩ (.slice ta2 0 tc2)) = F := ⟨_, rfl⟩
   obtain ⟨⟨⟨t0, t1, t2, t3, t4⟩, _⟩, hdr⟩ := D7.out.fin (M' := M) HSM.out (by omega) FW hFW
   have HDR := hidOf hdr
   clear yf hdr D7
   go_wp2
   refine bodyPost_ret (v := .agg #[.int .i64 1, .int .i64 0, .slice sa2 0 sc2, .slice la2 0 lc3, .slice ta2 0 tc2]) (by simp [results, Try.results66, go_sem, t0, t1, t2, t3, t4]; try rfl) rfl ?_
   exact HDR.out

end Go.Proofs.Ytaokmjbhgkfnfaa
