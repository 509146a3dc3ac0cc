/- Chapter 13: DrawCertifiedIn, DrawCommonHonest, DrawStepBoard. -/
import Derived.Test.YtaokmjbhgkfnfaaD13Qq
import Derived.BigRegion
import Derived.Deep.RegionWith
namespace Go.Proofs.Ytaokmjbhgkfnfaa
set_option linter.unusedVariables false
set_option maxRecDepth 1000000
set_option linter.unusedSimpArgs false
open Go.RowKit

theorem OwnT.setBox {w : World} {lo : Nat} {v : Value} {xs : List (Int × Int × Int)} (h : OwnT w lo v xs) {r j : Nat} (hr : r < lo) (u : Value) : OwnT (w.setCell ⟨r, j, none⟩ u) lo v xs := h.kept (grown_setCell w r j u) (sepT h hr)

def DrawnCo (w : World) (r : Ending) (w' : World) : Prop := ∃ (f e : Int) (sa : Option Addr) (sn sc : Nat) (la : Option Addr) (ln lc : Nat) (ta : Option Addr) (tn tc : Nat) (sg : List (List Int)) (li ls : List Int) (x0 x1 x2 : Int), r = .returned (.tuple #[.agg #[.int .i64 f, .int .i64 e, .slice sa sn sc, .slice la ln lc, .slice ta tn tc], .int .i64 x0, .int .i64 x1, .int .i64 x2]) ∧ SmallBd ⟨f, e, sg, li, ls⟩ ∧ OwnBd w' w.heap.size w'.heap.size (.slice sa sn sc) (.slice la ln lc) (.slice ta tn tc) ⟨f, e, sg, li, ls⟩ ∧ Below w.heap.size w w'
set_option maxHeartbeats 4000000 in
theorem drawCo_c (ao : Option Addr) (n c : Nat) (w : World) (hn : n ≤ 9223372036854775807) (h : CodeOk w w.heap.size ao n) :
  Calls Try.prog 23 #[.slice ao n c] w fun r w' => DrawnCo w r w' := by
 have bA := balloc w (.cells #[.int .i64 0, .int .i64 0, .slice none 0 0, .slice none 0 0, .slice none 0 0] 29)
 have bW : Below w.heap.size w (w.alloc (.cells #[.int .i64 0, .int .i64 0, .slice none 0 0, .slice none 0 0, .slice none 0 0] 29)) := bA
 have hR := x5_new w (.int .i64 0) (.int .i64 0) (.slice none 0 0) (.slice none 0 0) (.slice none 0 0) 29 w.heap.size rfl
 have hz : (w.alloc (.cells #[.int .i64 0, .int .i64 0, .slice none 0 0, .slice none 0 0, .slice none 0 0] 29)).heap.size = w.heap.size + 1 := by simp
 have hC := cur_new (c := c) 82 hn (h.later bW bW.size)
 rw [hz] at hC
 have bC := balloc (w.alloc (.cells #[.int .i64 0, .int .i64 0, .slice none 0 0, .slice none 0 0, .slice none 0 0] 29)) (.cells #[.slice ao n c, .int .i64 0, .int .u64 0] 82)
 have hs : ((w.alloc (.cells #[.int .i64 0, .int .i64 0, .slice none 0 0, .slice none 0 0, .slice none 0 0] 29)).alloc (.cells #[.slice ao n c, .int .i64 0, .int .u64 0] 82)).heap.size = w.heap.size + 2 := by simp
 obtain ⟨w0, hw0⟩ : ∃ V, (w.alloc (.cells #[.int .i64 0, .int .i64 0, .slice none 0 0, .slice none 0 0, .slice none 0 0] 29)).alloc (.cells #[.slice ao n c, .int .i64 0, .int .u64 0] 82) = V := ⟨_, rfl⟩
 have hR0 := hR.later bC
 have hB0 := bW.trans (bC.mono bW.size)
 rw [hw0] at hC hs hR0 hB0
 have C0 : Hid (Cur w0 (w.heap.size + 1) ao n c 0) := hC
 have R0 : Hid (X5 w0 w.heap.size (.int .i64 0) (.int .i64 0) (.slice none 0 0) (.slice none 0 0) (.slice none 0 0)) := hR0
 have B0 : Hid (Below w.heap.size w w0) := hB0
 have S0 : Hid (w0.heap.size = w.heap.size + 2) := hs
 clear bA bW hR hz hC bC hs hR0 hB0 h
 go_enter Try.func23, Try.ntmps23
 go_wp2_with fail
 clear hw0
 refine (board_c (w.heap.size + 1) ao n c 0 _ (by omega) C0.out).mono ?_
 rintro e0 w1 ⟨f, e, sa, sn, sc, la, ln, lc, ta, tn, tc, sg, li, ls, rfl, hsm, ho, hc, hg⟩
 have hr9 : RngP (fun k => k = (w.heap.size + 1)) w0 w1 := RngP.ofGrown hg (fun k e => (Option.some.inj e).symm)
 have R1 : Hid (X5 w1 w.heap.size (.int .i64 0) (.int .i64 0) (.slice none 0 0) (.slice none 0 0) (.slice none 0 0)) := R0.out.rngP hr9 (by omega)
 have B1 : Hid (Below w.heap.size w w1) := B0.out.trans (hg.below B0.out.size (by omega))
 have S1 : Hid (w.heap.size + 2 ≤ w1.heap.size) := by have h1 := S0.out; have h2 := hg.size; show _ ≤ _; omega
 have O1 : Hid (OwnBd w1 (w.heap.size + 2) w1.heap.size (.slice sa sn sc) (.slice la ln lc) (.slice ta tn tc) ⟨f, e, sg, li, ls⟩) := by have h1 := S0.out; exact ho.mono (by omega) (Nat.le_refl _)
 have C1 : Hid (Cur w1 (w.heap.size + 1) ao n c 3000) := hc.mono (by omega)
 have HSM : Hid (SmallBd ⟨f, e, sg, li, ls⟩) := hsm
 have HZ : Hid (w1.heap.size ≤ w1.heap.size) := Nat.le_refl _
 clear hc hg ho hr9 hsm C0 R0 B0 S0
 go_wp2_with fail
 refine (pick_c (w.heap.size + 1) ao n c _ 3 _ (by omega) (by omega) C1.out).mono ?_
 rintro e0 w2 ⟨p0, rfl, p0a, p0b, hc, hg⟩
 have HZ : Hid (w1.heap.size ≤ w2.heap.size) := Nat.le_trans HZ.out hg.size
 have hr9 : RngP (fun k => k = (w.heap.size + 1)) w1 w2 := RngP.ofGrown hg (fun k e => (Option.some.inj e).symm)
 have R2 : Hid (X5 w2 w.heap.size (.int .i64 0) (.int .i64 0) (.slice none 0 0) (.slice none 0 0) (.slice none 0 0)) := R1.out.rngP hr9 (by omega)
 have B2 : Hid (Below w.heap.size w w2) := B1.out.trans (hg.below B1.out.size (by omega))
 have S2 : Hid (w.heap.size + 2 ≤ w2.heap.size) := by have h1 := S1.out; have h2 := hg.size; show _ ≤ _; omega
 have O2 : Hid (OwnBd w2 (w.heap.size + 2) w1.heap.size (.slice sa sn sc) (.slice la ln lc) (.slice ta tn tc) ⟨f, e, sg, li, ls⟩) := O1.out.rng hr9 (fun k h1 _ e => by omega)
 have C2 : Hid (Cur w2 (w.heap.size + 1) ao n c 3020) := hc.mono (by omega)
 clear hc hg hr9 C1 R1 B1 S1 O1
 go_wp2_with fail
 refine (pick_c (w.heap.size + 1) ao n c _ 3 _ (by omega) (by omega) C2.out).mono ?_
 rintro e0 w3 ⟨p1, rfl, p1a, p1b, hc, hg⟩
 have HZ : Hid (w1.heap.size ≤ w3.heap.size) := Nat.le_trans HZ.out hg.size
 have hr9 : RngP (fun k => k = (w.heap.size + 1)) w2 w3 := RngP.ofGrown hg (fun k e => (Option.some.inj e).symm)
 have R3 : Hid (X5 w3 w.heap.size (.int .i64 0) (.int .i64 0) (.slice none 0 0) (.slice none 0 0) (.slice none 0 0)) := R2.out.rngP hr9 (by omega)
 have B3 : Hid (Below w.heap.size w w3) := B2.out.trans (hg.below B2.out.size (by omega))
 have S3 : Hid (w.heap.size + 2 ≤ w3.heap.size) := by have h1 := S2.out; have h2 := hg.size; show _ ≤ _; omega
 have O3 : Hid (OwnBd w3 (w.heap.size + 2) w1.heap.size (.slice sa sn sc) (.slice la ln lc) (.slice ta tn tc) ⟨f, e, sg, li, ls⟩) := O2.out.rng hr9 (fun k h1 _ e => by omega)
 have C3 : Hid (Cur w3 (w.heap.size + 1) ao n c 3030) := hc.mono (by omega)
 clear hc hg hr9 C2 R2 B2 S2 O2
 go_wp2_with fail
 refine (pick_c (w.heap.size + 1) ao n c _ 11 _ (by omega) (by omega) C3.out).mono ?_
 rintro e0 w4 ⟨p2, rfl, p2a, p2b, hc, hg⟩
 have HZ : Hid (w1.heap.size ≤ w4.heap.size) := Nat.le_trans HZ.out hg.size
 have hr9 : RngP (fun k => k = (w.heap.size + 1)) w3 w4 := RngP.ofGrown hg (fun k e => (Option.some.inj e).symm)
 have R4 : Hid (X5 w4 w.heap.size (.int .i64 0) (.int .i64 0) (.slice none 0 0) (.slice none 0 0) (.slice none 0 0)) := R3.out.rngP hr9 (by omega)
 have B4 : Hid (Below w.heap.size w w4) := B3.out.trans (hg.below B3.out.size (by omega))
 have S4 : Hid (w.heap.size + 2 ≤ w4.heap.size) := by have h1 := S3.out; have h2 := hg.size; show _ ≤ _; omega
 have O4 : Hid (OwnBd w4 (w.heap.size + 2) w1.heap.size (.slice sa sn sc) (.slice la ln lc) (.slice ta tn tc) ⟨f, e, sg, li, ls⟩) := O3.out.rng hr9 (fun k h1 _ e => by omega)
 have C4 : Hid (Cur w4 (w.heap.size + 1) ao n c 3040) := hc.mono (by omega)
 clear hc hg hr9 C3 R3 B3 S3 O3
 have hO := (OwnBd.setBox (OwnBd.setBox (OwnBd.setBox (OwnBd.setBox (OwnBd.setBox O4.out (r := w.heap.size) (j := 0) (by omega) (.int .i64 f)) (r := w.heap.size) (j := 1) (by omega) (.int .i64 e)) (r := w.heap.size) (j := 2) (by omega) (.slice sa sn sc)) (r := w.heap.size) (j := 3) (by omega) (.slice la ln lc)) (r := w.heap.size) (j := 4) (by omega) (.slice ta tn tc))
 have hB : Below w.heap.size w (((((w4.setCell ⟨w.heap.size, 0, none⟩ (.int .i64 f)).setCell ⟨w.heap.size, 1, none⟩ (.int .i64 e)).setCell ⟨w.heap.size, 2, none⟩ (.slice sa sn sc)).setCell ⟨w.heap.size, 3, none⟩ (.slice la ln lc)).setCell ⟨w.heap.size, 4, none⟩ (.slice ta tn tc)) := (((((B4.out.setCell (by show w.heap.size ≤ w.heap.size; omega) _).setCell (by show w.heap.size ≤ w.heap.size; omega) _).setCell (by show w.heap.size ≤ w.heap.size; omega) _).setCell (by show w.heap.size ≤ w.heap.size; omega) _).setCell (by show w.heap.size ≤ w.heap.size; omega) _)
 have hX := (((((R4.out.set0 (.int .i64 f)).set1 (.int .i64 e)).set2 (.slice sa sn sc)).set3 (.slice la ln lc)).set4 (.slice ta tn tc))
 have hsz : (((((w4.setCell ⟨w.heap.size, 0, none⟩ (.int .i64 f)).setCell ⟨w.heap.size, 1, none⟩ (.int .i64 e)).setCell ⟨w.heap.size, 2, none⟩ (.slice sa sn sc)).setCell ⟨w.heap.size, 3, none⟩ (.slice la ln lc)).setCell ⟨w.heap.size, 4, none⟩ (.slice ta tn tc)).heap.size = w4.heap.size := by simp
 obtain ⟨⟨y0, y1, y2, y3, y4⟩, yf⟩ := id R4.out
 have yf0 := yf 0
 have yf1 := yf 1
 have yf2 := yf 2
 have yf3 := yf 3
 have yf4 := yf 4
 obtain ⟨FW, hFW⟩ : ∃ F, (((((w4.setCell ⟨w.heap.size, 0, none⟩ (.int .i64 f)).setCell ⟨w.heap.size, 1, none⟩ (.int .i64 e)).setCell ⟨w.heap.size, 2, none⟩ (.slice sa sn sc)).setCell ⟨w.heap.size, 3, none⟩ (.slice la ln lc)).setCell ⟨w.heap.size, 4, none⟩ (.slice ta tn tc)) = F := ⟨_, rfl⟩
 rw [hFW] at hO hB hX hsz
 obtain ⟨⟨t0, t1, t2, t3, t4⟩, _⟩ := hX
 skip
 have HO : Hid (OwnBd FW (w.heap.size + 2) w1.heap.size (.slice sa sn sc) (.slice la ln lc) (.slice ta tn tc) ⟨f, e, sg, li, ls⟩) := hO
 have HB : Hid (Below w.heap.size w FW) := hB
 have HSZ : Hid (w1.heap.size ≤ FW.heap.size) := by show _ ≤ _; rw [hsz]; exact HZ.out
 clear hO hB hsz yf C4 R4 B4 S4 O4
 go_wp2
 refine bodyPost_ret (v := .tuple #[.agg #[.int .i64 f, .int .i64 e, .slice sa sn sc, .slice la ln lc, .slice ta tn tc], .int .i64 p0, .int .i64 p1, .int .i64 p2]) (by simp [results, Try.results23, go_sem, t0, t1, t2, t3, t4]; try rfl) rfl ?_
 exact ⟨f, e, sa, sn, sc, la, ln, lc, ta, tn, tc, sg, li, ls, p0, p1, p2, rfl, HSM.out, HO.out.mono (by omega) HSZ.out, HB.out⟩

def DrawnCe (w : World) (r : Ending) (w' : World) : Prop := ∃ (f e : Int) (sa : Option Addr) (sn sc : Nat) (la : Option Addr) (ln lc : Nat) (ta : Option Addr) (tn tc : Nat) (sg : List (List Int)) (li ls : List Int) (x0 : Int), r = .returned (.tuple #[.agg #[.int .i64 f, .int .i64 e, .slice sa sn sc, .slice la ln lc, .slice ta tn tc], .int .i64 x0]) ∧ SmallBd ⟨f, e, sg, li, ls⟩ ∧ OwnBd w' w.heap.size w'.heap.size (.slice sa sn sc) (.slice la ln lc) (.slice ta tn tc) ⟨f, e, sg, li, ls⟩ ∧ Below w.heap.size w w'
set_option maxHeartbeats 4000000 in
theorem drawCe_c (ao : Option Addr) (n c : Nat) (w : World) (hn : n ≤ 9223372036854775807) (h : CodeOk w w.heap.size ao n) :
  Calls Try.prog 27 #[.slice ao n c] w fun r w' => DrawnCe w r w' := by
 have bA := balloc w (.cells #[.int .i64 0, .int .i64 0, .slice none 0 0, .slice none 0 0, .slice none 0 0] 29)
 have bW : Below w.heap.size w (w.alloc (.cells #[.int .i64 0, .int .i64 0, .slice none 0 0, .slice none 0 0, .slice none 0 0] 29)) := bA
 have hR := x5_new w (.int .i64 0) (.int .i64 0) (.slice none 0 0) (.slice none 0 0) (.slice none 0 0) 29 w.heap.size rfl
 have hz : (w.alloc (.cells #[.int .i64 0, .int .i64 0, .slice none 0 0, .slice none 0 0, .slice none 0 0] 29)).heap.size = w.heap.size + 1 := by simp
 have hC := cur_new (c := c) 82 hn (h.later bW bW.size)
 rw [hz] at hC
 have bC := balloc (w.alloc (.cells #[.int .i64 0, .int .i64 0, .slice none 0 0, .slice none 0 0, .slice none 0 0] 29)) (.cells #[.slice ao n c, .int .i64 0, .int .u64 0] 82)
 have hs : ((w.alloc (.cells #[.int .i64 0, .int .i64 0, .slice none 0 0, .slice none 0 0, .slice none 0 0] 29)).alloc (.cells #[.slice ao n c, .int .i64 0, .int .u64 0] 82)).heap.size = w.heap.size + 2 := by simp
 obtain ⟨w0, hw0⟩ : ∃ V, (w.alloc (.cells #[.int .i64 0, .int .i64 0, .slice none 0 0, .slice none 0 0, .slice none 0 0] 29)).alloc (.cells #[.slice ao n c, .int .i64 0, .int .u64 0] 82) = V := ⟨_, rfl⟩
 have hR0 := hR.later bC
 have hB0 := bW.trans (bC.mono bW.size)
 rw [hw0] at hC hs hR0 hB0
 have C0 : Hid (Cur w0 (w.heap.size + 1) ao n c 0) := hC
 have R0 : Hid (X5 w0 w.heap.size (.int .i64 0) (.int .i64 0) (.slice none 0 0) (.slice none 0 0) (.slice none 0 0)) := hR0
 have B0 : Hid (Below w.heap.size w w0) := hB0
 have S0 : Hid (w0.heap.size = w.heap.size + 2) := hs
 clear bA bW hR hz hC bC hs hR0 hB0 h
 go_enter Try.func27, Try.ntmps27
 go_wp2_with fail
 clear hw0
 refine (board_c (w.heap.size + 1) ao n c 0 _ (by omega) C0.out).mono ?_
 rintro e0 w1 ⟨f, e, sa, sn, sc, la, ln, lc, ta, tn, tc, sg, li, ls, rfl, hsm, ho, hc, hg⟩
 have hr9 : RngP (fun k => k = (w.heap.size + 1)) w0 w1 := RngP.ofGrown hg (fun k e => (Option.some.inj e).symm)
 have R1 : Hid (X5 w1 w.heap.size (.int .i64 0) (.int .i64 0) (.slice none 0 0) (.slice none 0 0) (.slice none 0 0)) := R0.out.rngP hr9 (by omega)
 have B1 : Hid (Below w.heap.size w w1) := B0.out.trans (hg.below B0.out.size (by omega))
 have S1 : Hid (w.heap.size + 2 ≤ w1.heap.size) := by have h1 := S0.out; have h2 := hg.size; show _ ≤ _; omega
 have O1 : Hid (OwnBd w1 (w.heap.size + 2) w1.heap.size (.slice sa sn sc) (.slice la ln lc) (.slice ta tn tc) ⟨f, e, sg, li, ls⟩) := by have h1 := S0.out; exact ho.mono (by omega) (Nat.le_refl _)
 have C1 : Hid (Cur w1 (w.heap.size + 1) ao n c 3000) := hc.mono (by omega)
 have HSM : Hid (SmallBd ⟨f, e, sg, li, ls⟩) := hsm
 have HZ : Hid (w1.heap.size ≤ w1.heap.size) := Nat.le_refl _
 clear hc hg ho hr9 hsm C0 R0 B0 S0
 go_wp2_with fail
 refine (pick_c (w.heap.size + 1) ao n c _ 4 _ (by omega) (by omega) C1.out).mono ?_
 rintro e0 w2 ⟨p0, rfl, p0a, p0b, hc, hg⟩
 have HZ : Hid (w1.heap.size ≤ w2.heap.size) := Nat.le_trans HZ.out hg.size
 have hr9 : RngP (fun k => k = (w.heap.size + 1)) w1 w2 := RngP.ofGrown hg (fun k e => (Option.some.inj e).symm)
 have R2 : Hid (X5 w2 w.heap.size (.int .i64 0) (.int .i64 0) (.slice none 0 0) (.slice none 0 0) (.slice none 0 0)) := R1.out.rngP hr9 (by omega)
 have B2 : Hid (Below w.heap.size w w2) := B1.out.trans (hg.below B1.out.size (by omega))
 have S2 : Hid (w.heap.size + 2 ≤ w2.heap.size) := by have h1 := S1.out; have h2 := hg.size; show _ ≤ _; omega
 have O2 : Hid (OwnBd w2 (w.heap.size + 2) w1.heap.size (.slice sa sn sc) (.slice la ln lc) (.slice ta tn tc) ⟨f, e, sg, li, ls⟩) := O1.out.rng hr9 (fun k h1 _ e => by omega)
 have C2 : Hid (Cur w2 (w.heap.size + 1) ao n c 3020) := hc.mono (by omega)
 clear hc hg hr9 C1 R1 B1 S1 O1
 go_wp2_with fail
 refine (pick_c (w.heap.size + 1) ao n c _ 9 _ (by omega) (by omega) C2.out).mono ?_
 rintro e0 w3 ⟨p1, rfl, p1a, p1b, hc, hg⟩
 have HZ : Hid (w1.heap.size ≤ w3.heap.size) := Nat.le_trans HZ.out hg.size
 have hr9 : RngP (fun k => k = (w.heap.size + 1)) w2 w3 := RngP.ofGrown hg (fun k e => (Option.some.inj e).symm)
 have R3 : Hid (X5 w3 w.heap.size (.int .i64 0) (.int .i64 0) (.slice none 0 0) (.slice none 0 0) (.slice none 0 0)) := R2.out.rngP hr9 (by omega)
 have B3 : Hid (Below w.heap.size w w3) := B2.out.trans (hg.below B2.out.size (by omega))
 have S3 : Hid (w.heap.size + 2 ≤ w3.heap.size) := by have h1 := S2.out; have h2 := hg.size; show _ ≤ _; omega
 have O3 : Hid (OwnBd w3 (w.heap.size + 2) w1.heap.size (.slice sa sn sc) (.slice la ln lc) (.slice ta tn tc) ⟨f, e, sg, li, ls⟩) := O2.out.rng hr9 (fun k h1 _ e => by omega)
 have C3 : Hid (Cur w3 (w.heap.size + 1) ao n c 3030) := hc.mono (by omega)
 clear hc hg hr9 C2 R2 B2 S2 O2
 have hO := (OwnBd.setBox (OwnBd.setBox (OwnBd.setBox (OwnBd.setBox (OwnBd.setBox O3.out (r := w.heap.size) (j := 0) (by omega) (.int .i64 f)) (r := w.heap.size) (j := 1) (by omega) (.int .i64 e)) (r := w.heap.size) (j := 2) (by omega) (.slice sa sn sc)) (r := w.heap.size) (j := 3) (by omega) (.slice la ln lc)) (r := w.heap.size) (j := 4) (by omega) (.slice ta tn tc))
 have hB : Below w.heap.size w (((((w3.setCell ⟨w.heap.size, 0, none⟩ (.int .i64 f)).setCell ⟨w.heap.size, 1, none⟩ (.int .i64 e)).setCell ⟨w.heap.size, 2, none⟩ (.slice sa sn sc)).setCell ⟨w.heap.size, 3, none⟩ (.slice la ln lc)).setCell ⟨w.heap.size, 4, none⟩ (.slice ta tn tc)) := (((((B3.out.setCell (by show w.heap.size ≤ w.heap.size; omega) _).setCell (by show w.heap.size ≤ w.heap.size; omega) _).setCell (by show w.heap.size ≤ w.heap.size; omega) _).setCell (by show w.heap.size ≤ w.heap.size; omega) _).setCell (by show w.heap.size ≤ w.heap.size; omega) _)
 have hX := (((((R3.out.set0 (.int .i64 f)).set1 (.int .i64 e)).set2 (.slice sa sn sc)).set3 (.slice la ln lc)).set4 (.slice ta tn tc))
 have hsz : (((((w3.setCell ⟨w.heap.size, 0, none⟩ (.int .i64 f)).setCell ⟨w.heap.size, 1, none⟩ (.int .i64 e)).setCell ⟨w.heap.size, 2, none⟩ (.slice sa sn sc)).setCell ⟨w.heap.size, 3, none⟩ (.slice la ln lc)).setCell ⟨w.heap.size, 4, none⟩ (.slice ta tn tc)).heap.size = w3.heap.size := by simp
 obtain ⟨⟨y0, y1, y2, y3, y4⟩, yf⟩ := id R3.out
 have yf0 := yf 0
 have yf1 := yf 1
 have yf2 := yf 2
 have yf3 := yf 3
 have yf4 := yf 4
 obtain ⟨FW, hFW⟩ : ∃ F, (((((w3.setCell ⟨w.heap.size, 0, none⟩ (.int .i64 f)).setCell ⟨w.heap.size, 1, none⟩ (.int .i64 e)).setCell ⟨w.heap.size, 2, none⟩ (.slice sa sn sc)).setCell ⟨w.heap.size, 3, none⟩ (.slice la ln lc)).setCell ⟨w.heap.size, 4, none⟩ (.slice ta tn tc)) = F := ⟨_, rfl⟩
 rw [hFW] at hO hB hX hsz
 obtain ⟨⟨t0, t1, t2, t3, t4⟩, _⟩ := hX
 skip
 have HO : Hid (OwnBd FW (w.heap.size + 2) w1.heap.size (.slice sa sn sc) (.slice la ln lc) (.slice ta tn tc) ⟨f, e, sg, li, ls⟩) := hO
 have HB : Hid (Below w.heap.size w FW) := hB
 have HSZ : Hid (w1.heap.size ≤ FW.heap.size) := by show _ ≤ _; rw [hsz]; exact HZ.out
 clear hO hB hsz yf C3 R3 B3 S3 O3
 obtain ⟨zz, hzz⟩ : ∃ z, p0 - p1 / 8 = z := ⟨_, rfl⟩
 go_wp2
 refine bodyPost_ret (v := .tuple #[.agg #[.int .i64 f, .int .i64 e, .slice sa sn sc, .slice la ln lc, .slice ta tn tc], .int .i64 zz]) (by simp [results, Try.results27, go_sem, t0, t1, t2, t3, t4]; try rfl) rfl ?_
 exact ⟨f, e, sa, sn, sc, la, ln, lc, ta, tn, tc, sg, li, ls, zz, rfl, HSM.out, HO.out.mono (by omega) HSZ.out, HB.out⟩

def DrawnSp (w : World) (r : Ending) (w' : World) : Prop := ∃ (f e : Int) (sa : Option Addr) (sn sc : Nat) (la : Option Addr) (ln lc : Nat) (ta : Option Addr) (tn tc : Nat) (sg : List (List Int)) (li ls : List Int) (k m l : Int), r = .returned (.tuple #[.agg #[.int .i64 f, .int .i64 e, .slice sa sn sc, .slice la ln lc, .slice ta tn tc], .agg #[.int .i64 k, .int .i64 m, .int .i64 l]]) ∧ SmallBd ⟨f, e, sg, li, ls⟩ ∧ OwnBd w' w.heap.size w'.heap.size (.slice sa sn sc) (.slice la ln lc) (.slice ta tn tc) ⟨f, e, sg, li, ls⟩ ∧ Below w.heap.size w w'
set_option maxHeartbeats 8000000 in
theorem drawSp_c (ao : Option Addr) (n c : Nat) (w : World) (hn : n ≤ 9223372036854775807) (h : CodeOk w w.heap.size ao n) :
  Calls Try.prog 19 #[.slice ao n c] w fun r w' => DrawnSp w r w' := by
 have bA := balloc w (.cells #[.int .i64 0, .int .i64 0, .slice none 0 0, .slice none 0 0, .slice none 0 0] 29)
 have bS := balloc (w.alloc (.cells #[.int .i64 0, .int .i64 0, .slice none 0 0, .slice none 0 0, .slice none 0 0] 29)) (.cells #[.int .i64 0, .int .i64 0, .int .i64 0] 40)
 have bW : Below w.heap.size w ((w.alloc (.cells #[.int .i64 0, .int .i64 0, .slice none 0 0, .slice none 0 0, .slice none 0 0] 29)).alloc (.cells #[.int .i64 0, .int .i64 0, .int .i64 0] 40)) := bA.trans (bS.mono bA.size)
 have hT := x3_new (w.alloc (.cells #[.int .i64 0, .int .i64 0, .slice none 0 0, .slice none 0 0, .slice none 0 0] 29)) (.int .i64 0) (.int .i64 0) (.int .i64 0) 40 (w.heap.size + 1) (by simp)
 have hR := (x5_new w (.int .i64 0) (.int .i64 0) (.slice none 0 0) (.slice none 0 0) (.slice none 0 0) 29 w.heap.size rfl).later bS
 have hz : ((w.alloc (.cells #[.int .i64 0, .int .i64 0, .slice none 0 0, .slice none 0 0, .slice none 0 0] 29)).alloc (.cells #[.int .i64 0, .int .i64 0, .int .i64 0] 40)).heap.size = w.heap.size + 2 := by simp
 have hC := cur_new (c := c) 82 hn (h.later bW bW.size)
 rw [hz] at hC
 have bC := balloc ((w.alloc (.cells #[.int .i64 0, .int .i64 0, .slice none 0 0, .slice none 0 0, .slice none 0 0] 29)).alloc (.cells #[.int .i64 0, .int .i64 0, .int .i64 0] 40)) (.cells #[.slice ao n c, .int .i64 0, .int .u64 0] 82)
 have hs : (((w.alloc (.cells #[.int .i64 0, .int .i64 0, .slice none 0 0, .slice none 0 0, .slice none 0 0] 29)).alloc (.cells #[.int .i64 0, .int .i64 0, .int .i64 0] 40)).alloc (.cells #[.slice ao n c, .int .i64 0, .int .u64 0] 82)).heap.size = w.heap.size + 3 := by simp
 obtain ⟨w0, hw0⟩ : ∃ V, ((w.alloc (.cells #[.int .i64 0, .int .i64 0, .slice none 0 0, .slice none 0 0, .slice none 0 0] 29)).alloc (.cells #[.int .i64 0, .int .i64 0, .int .i64 0] 40)).alloc (.cells #[.slice ao n c, .int .i64 0, .int .u64 0] 82) = V := ⟨_, rfl⟩
 have hR0 := hR.later bC
 have hB0 := bW.trans (bC.mono bW.size)
 have hT0 := hT.later bC
 rw [hw0] at hC hs hR0 hB0 hT0
 have C0 : Hid (Cur w0 (w.heap.size + 2) ao n c 0) := hC
 have R0 : Hid (X5 w0 w.heap.size (.int .i64 0) (.int .i64 0) (.slice none 0 0) (.slice none 0 0) (.slice none 0 0)) := hR0
 have B0 : Hid (Below w.heap.size w w0) := hB0
 have S0 : Hid (w0.heap.size = w.heap.size + 3) := hs
 have T0 : Hid (X3 w0 (w.heap.size + 1) (.int .i64 0) (.int .i64 0) (.int .i64 0)) := hT0
 clear bA bW hR hz hC bC hs hR0 hB0 h bS hT hT0
 go_enter Try.func19, Try.ntmps19
 go_wp2_with fail
 clear hw0
 refine (board_c (w.heap.size + 2) ao n c 0 _ (by omega) C0.out).mono ?_
 rintro e0 w1 ⟨f, e, sa, sn, sc, la, ln, lc, ta, tn, tc, sg, li, ls, rfl, hsm, ho, hc, hg⟩
 have hr9 : RngP (fun k => k = (w.heap.size + 2)) w0 w1 := RngP.ofGrown hg (fun k e => (Option.some.inj e).symm)
 have R1 : Hid (X5 w1 w.heap.size (.int .i64 0) (.int .i64 0) (.slice none 0 0) (.slice none 0 0) (.slice none 0 0)) := R0.out.rngP hr9 (by omega)
 have B1 : Hid (Below w.heap.size w w1) := B0.out.trans (hg.below B0.out.size (by omega))
 have S1 : Hid (w.heap.size + 3 ≤ w1.heap.size) := by have h1 := S0.out; have h2 := hg.size; show _ ≤ _; omega
 have T1 : Hid (X3 w1 (w.heap.size + 1) (.int .i64 0) (.int .i64 0) (.int .i64 0)) := T0.out.rngP hr9 (by omega)
 have hO1 : OwnBd w1 (w.heap.size + 3) w1.heap.size (.slice sa sn sc) (.slice la ln lc) (.slice ta tn tc) ⟨f, e, sg, li, ls⟩ := by have h1 := S0.out; exact ho.mono (by omega) (Nat.le_refl _)
 have C1 : Hid (Cur w1 (w.heap.size + 2) ao n c 3000) := hc.mono (by omega)
 have HSM : Hid (SmallBd ⟨f, e, sg, li, ls⟩) := hsm
 clear hc hg ho hr9 hsm C0 R0 B0 S0 T0
 have b2 := balloc w1 (.cells #[.int .i64 f, .int .i64 e, .slice sa sn sc, .slice la ln lc, .slice ta tn tc] 29)
 have hN := x5_new w1 (.int .i64 f) (.int .i64 e) (.slice sa sn sc) (.slice la ln lc) (.slice ta tn tc) 29 w1.heap.size rfl
 have hs2 : (w1.alloc (.cells #[.int .i64 f, .int .i64 e, .slice sa sn sc, .slice la ln lc, .slice ta tn tc] 29)).heap.size = w1.heap.size + 1 := by simp
 obtain ⟨w2, hw2⟩ : ∃ V, w1.alloc (.cells #[.int .i64 f, .int .i64 e, .slice sa sn sc, .slice la ln lc, .slice ta tn tc] 29) = V := ⟨_, rfl⟩
 rw [hw2] at b2 hN hs2
 have C2 : Hid (Cur w2 (w.heap.size + 2) ao n c 3000) := C1.out.later b2
 have R2 : Hid (X5 w2 w.heap.size (.int .i64 0) (.int .i64 0) (.slice none 0 0) (.slice none 0 0) (.slice none 0 0)) := R1.out.later b2
 have T2 : Hid (X3 w2 (w.heap.size + 1) (.int .i64 0) (.int .i64 0) (.int .i64 0)) := T1.out.later b2
 have B2 : Hid (Below w.heap.size w w2) := B1.out.trans (b2.mono B1.out.size)
 have S2 : Hid (w.heap.size + 3 ≤ w2.heap.size) := by have h1 := S1.out; show _ ≤ _; omega
 have O2 : Hid (OwnBd w2 (w.heap.size + 3) w1.heap.size (.slice sa sn sc) (.slice la ln lc) (.slice ta tn tc) ⟨f, e, sg, li, ls⟩) := hO1.later b2
 have N2 : Hid (X5 w2 w1.heap.size (.int .i64 f) (.int .i64 e) (.slice sa sn sc) (.slice la ln lc) (.slice ta tn tc)) := hN
 have Z1 : Hid (w.heap.size + 3 ≤ w1.heap.size ∧ w1.heap.size ≤ w2.heap.size) := ⟨S1.out, b2.size⟩
 clear b2 hN hs2 hO1 C1 R1 T1 B1 S1
 go_wp2_with fail
 clear hw2
 refine (boardSteps_c (w.heap.size + 2) ao n c _ _ (by omega) C2.out).mono ?_
 rintro e0 w3 ⟨lo, q, lq, l, rfl, hq, hL, hc, hg⟩
 have hr9 : RngP (fun k => k = (w.heap.size + 2)) w2 w3 := RngP.ofGrown hg (fun k e => (Option.some.inj e).symm)
 have R3 : Hid (X5 w3 w.heap.size (.int .i64 0) (.int .i64 0) (.slice none 0 0) (.slice none 0 0) (.slice none 0 0)) := R2.out.rngP hr9 (by omega)
 have B3 : Hid (Below w.heap.size w w3) := B2.out.trans (hg.below B2.out.size (by omega))
 have S3 : Hid (w.heap.size + 3 ≤ w3.heap.size) := by have h1 := S2.out; have h2 := hg.size; show _ ≤ _; omega
 have T3 : Hid (X3 w3 (w.heap.size + 1) (.int .i64 0) (.int .i64 0) (.int .i64 0)) := T2.out.rngP hr9 (by omega)
 have O3 : Hid (OwnBd w3 (w.heap.size + 3) w1.heap.size (.slice sa sn sc) (.slice la ln lc) (.slice ta tn tc) ⟨f, e, sg, li, ls⟩) := O2.out.rng hr9 (fun k h1 _ e => by omega)
 have N3 : Hid (X5 w3 w1.heap.size (.int .i64 f) (.int .i64 e) (.slice sa sn sc) (.slice la ln lc) (.slice ta tn tc)) := N2.out.rngP hr9 (by have := Z1.out.1; omega)
 have L3 : Hid (OwnT w3 (w.heap.size + 3) (.slice lo q lq) l) := hL.mono (by have := Z1.out; omega)
 have HLL : Hid (l.length = q) := hL.rd'.1
 have HZ : Hid (w1.heap.size ≤ w3.heap.size) := Nat.le_trans Z1.out.2 hg.size
 clear hc hg hr9 hL C2 R2 T2 B2 S2 O2 N2
 obtain ⟨⟨n0, n1, n2, n3, n4⟩, _⟩ := id N3.out
 by_cases hq0 : q = 0
 ·subst hq0
  have hTm := (((((T3.out.other (r' := w.heap.size) (j' := 0) (u := .int .i64 f) (by omega)).other (r' := w.heap.size) (j' := 1) (u := .int .i64 e) (by omega)).other (r' := w.heap.size) (j' := 2) (u := .slice sa sn sc) (by omega)).other (r' := w.heap.size) (j' := 3) (u := .slice la ln lc) (by omega)).other (r' := w.heap.size) (j' := 4) (u := .slice ta tn tc) (by omega))
  have hO := (OwnBd.setBox (OwnBd.setBox (OwnBd.setBox (OwnBd.setBox (OwnBd.setBox (OwnBd.setBox (OwnBd.setBox (OwnBd.setBox O3.out (r := w.heap.size) (j := 0) (by omega) (.int .i64 f)) (r := w.heap.size) (j := 1) (by omega) (.int .i64 e)) (r := w.heap.size) (j := 2) (by omega) (.slice sa sn sc)) (r := w.heap.size) (j := 3) (by omega) (.slice la ln lc)) (r := w.heap.size) (j := 4) (by omega) (.slice ta tn tc)) (r := w.heap.size + 1) (j := 0) (by omega) (.int .i64 3)) (r := w.heap.size + 1) (j := 1) (by omega) (.int .i64 0)) (r := w.heap.size + 1) (j := 2) (by omega) (.int .i64 0))
  have hB : Below w.heap.size w ((((((((w3.setCell ⟨w.heap.size, 0, none⟩ (.int .i64 f)).setCell ⟨w.heap.size, 1, none⟩ (.int .i64 e)).setCell ⟨w.heap.size, 2, none⟩ (.slice sa sn sc)).setCell ⟨w.heap.size, 3, none⟩ (.slice la ln lc)).setCell ⟨w.heap.size, 4, none⟩ (.slice ta tn tc)).setCell ⟨(w.heap.size + 1), 0, none⟩ (.int .i64 3)).setCell ⟨(w.heap.size + 1), 1, none⟩ (.int .i64 0)).setCell ⟨(w.heap.size + 1), 2, none⟩ (.int .i64 0)) := ((((((((B3.out.setCell (by show w.heap.size ≤ w.heap.size; omega) _).setCell (by show w.heap.size ≤ w.heap.size; omega) _).setCell (by show w.heap.size ≤ w.heap.size; omega) _).setCell (by show w.heap.size ≤ w.heap.size; omega) _).setCell (by show w.heap.size ≤ w.heap.size; omega) _).setCell (by show w.heap.size ≤ w.heap.size + 1; omega) _).setCell (by show w.heap.size ≤ w.heap.size + 1; omega) _).setCell (by show w.heap.size ≤ w.heap.size + 1; omega) _)
  have hX := ((((((((R3.out.set0 (.int .i64 f)).set1 (.int .i64 e)).set2 (.slice sa sn sc)).set3 (.slice la ln lc)).set4 (.slice ta tn tc)).other (r' := w.heap.size + 1) (j' := 0) (u := .int .i64 3) (by omega)).other (r' := w.heap.size + 1) (j' := 1) (u := .int .i64 0) (by omega)).other (r' := w.heap.size + 1) (j' := 2) (u := .int .i64 0) (by omega))
  have hT3 := ((((((((T3.out.other (r' := w.heap.size) (j' := 0) (u := .int .i64 f) (by omega)).other (r' := w.heap.size) (j' := 1) (u := .int .i64 e) (by omega)).other (r' := w.heap.size) (j' := 2) (u := .slice sa sn sc) (by omega)).other (r' := w.heap.size) (j' := 3) (u := .slice la ln lc) (by omega)).other (r' := w.heap.size) (j' := 4) (u := .slice ta tn tc) (by omega)).set0 (.int .i64 3)).set1 (.int .i64 0)).set2 (.int .i64 0))
  have hsz : ((((((((w3.setCell ⟨w.heap.size, 0, none⟩ (.int .i64 f)).setCell ⟨w.heap.size, 1, none⟩ (.int .i64 e)).setCell ⟨w.heap.size, 2, none⟩ (.slice sa sn sc)).setCell ⟨w.heap.size, 3, none⟩ (.slice la ln lc)).setCell ⟨w.heap.size, 4, none⟩ (.slice ta tn tc)).setCell ⟨(w.heap.size + 1), 0, none⟩ (.int .i64 3)).setCell ⟨(w.heap.size + 1), 1, none⟩ (.int .i64 0)).setCell ⟨(w.heap.size + 1), 2, none⟩ (.int .i64 0)).heap.size = w3.heap.size := by simp
  have hmz : (((((w3.setCell ⟨w.heap.size, 0, none⟩ (.int .i64 f)).setCell ⟨w.heap.size, 1, none⟩ (.int .i64 e)).setCell ⟨w.heap.size, 2, none⟩ (.slice sa sn sc)).setCell ⟨w.heap.size, 3, none⟩ (.slice la ln lc)).setCell ⟨w.heap.size, 4, none⟩ (.slice ta tn tc)).heap.size = w3.heap.size := by simp
  obtain ⟨⟨y0, y1, y2, y3, y4⟩, yf⟩ := id R3.out
  have yf0 := yf 0
  have yf1 := yf 1
  have yf2 := yf 2
  have yf3 := yf 3
  have yf4 := yf 4
  obtain ⟨MW, hMW⟩ : ∃ F, (((((w3.setCell ⟨w.heap.size, 0, none⟩ (.int .i64 f)).setCell ⟨w.heap.size, 1, none⟩ (.int .i64 e)).setCell ⟨w.heap.size, 2, none⟩ (.slice sa sn sc)).setCell ⟨w.heap.size, 3, none⟩ (.slice la ln lc)).setCell ⟨w.heap.size, 4, none⟩ (.slice ta tn tc)) = F := ⟨_, rfl⟩
  rw [hMW] at hTm hO hB hX hT3 hsz hmz
  obtain ⟨⟨v0, v1, v2⟩, vf⟩ := hTm
  have vf0 := vf 0
  have vf1 := vf 1
  have vf2 := vf 2
  obtain ⟨FW, hFW⟩ : ∃ F, (((MW.setCell ⟨(w.heap.size + 1), 0, none⟩ (.int .i64 3)).setCell ⟨(w.heap.size + 1), 1, none⟩ (.int .i64 0)).setCell ⟨(w.heap.size + 1), 2, none⟩ (.int .i64 0)) = F := ⟨_, rfl⟩
  rw [hFW] at hO hB hX hT3 hsz
  obtain ⟨⟨t0, t1, t2, t3, t4⟩, _⟩ := hX
  obtain ⟨⟨u0, u1, u2⟩, _⟩ := hT3
  have HO : Hid (OwnBd FW (w.heap.size + 3) w1.heap.size (.slice sa sn sc) (.slice la ln lc) (.slice ta tn tc) ⟨f, e, sg, li, ls⟩) := hO
  have HB : Hid (Below w.heap.size w FW) := hB
  have HSZ : Hid (w1.heap.size ≤ FW.heap.size) := by show _ ≤ _; rw [hsz]; exact HZ.out
  clear hO hB hsz yf vf hmz R3 T3 B3 S3 O3
  go_wp2
  refine bodyPost_ret (v := .tuple #[.agg #[.int .i64 f, .int .i64 e, .slice sa sn sc, .slice la ln lc, .slice ta tn tc], .agg #[.int .i64 3, .int .i64 0, .int .i64 0]]) (by simp [results, Try.results19, go_sem, t0, t1, t2, t3, t4, u0, u1, u2]; try rfl) rfl ?_
  exact ⟨f, e, sa, sn, sc, la, ln, lc, ta, tn, tc, sg, li, ls, 3, 0, 0, rfl, HSM.out, HO.out.mono (by omega) HSZ.out, HB.out⟩
 have hq1 : ((q : Int) == 0) = false := by simp; omega
 have hqp : (0 : Int) < (q : Int) := by omega
 have hqn : 0 < q := by omega
 have hLm := (OwnT.setBox (OwnT.setBox (OwnT.setBox (OwnT.setBox (OwnT.setBox L3.out (r := w.heap.size) (j := 0) (by omega) (.int .i64 f)) (r := w.heap.size) (j := 1) (by omega) (.int .i64 e)) (r := w.heap.size) (j := 2) (by omega) (.slice sa sn sc)) (r := w.heap.size) (j := 3) (by omega) (.slice la ln lc)) (r := w.heap.size) (j := 4) (by omega) (.slice ta tn tc))
 obtain ⟨b, off, rfl, c0, c1, c2⟩ := L3.out.rd'.2.get (k := 0) (by rw [HLL.out]; omega)
 obtain ⟨b9, off9, he9, d0, d1, d2⟩ := hLm.rd'.2.get (k := 0) (by rw [HLL.out]; omega)
 simp only [Option.some.injEq, Addr.mk.injEq, and_true] at he9
 obtain ⟨rfl, rfl⟩ := he9
 generalize l.getD 0 (0, 0, 0) = x at c0 c1 c2 d0 d1 d2
 obtain ⟨kk, mm, ll⟩ := x
 dsimp only at c0 c1 c2 d0 d1 d2
 simp only [Nat.zero_mul, Nat.add_zero] at c0 c1 c2 d0 d1 d2
 clear hLm L3
 have hTm := (((((T3.out.other (r' := w.heap.size) (j' := 0) (u := .int .i64 f) (by omega)).other (r' := w.heap.size) (j' := 1) (u := .int .i64 e) (by omega)).other (r' := w.heap.size) (j' := 2) (u := .slice sa sn sc) (by omega)).other (r' := w.heap.size) (j' := 3) (u := .slice la ln lc) (by omega)).other (r' := w.heap.size) (j' := 4) (u := .slice ta tn tc) (by omega))
 have hO := (OwnBd.setBox (OwnBd.setBox (OwnBd.setBox (OwnBd.setBox (OwnBd.setBox (OwnBd.setBox (OwnBd.setBox (OwnBd.setBox O3.out (r := w.heap.size) (j := 0) (by omega) (.int .i64 f)) (r := w.heap.size) (j := 1) (by omega) (.int .i64 e)) (r := w.heap.size) (j := 2) (by omega) (.slice sa sn sc)) (r := w.heap.size) (j := 3) (by omega) (.slice la ln lc)) (r := w.heap.size) (j := 4) (by omega) (.slice ta tn tc)) (r := w.heap.size + 1) (j := 0) (by omega) (.int .i64 kk)) (r := w.heap.size + 1) (j := 1) (by omega) (.int .i64 mm)) (r := w.heap.size + 1) (j := 2) (by omega) (.int .i64 ll))
 have hB : Below w.heap.size w ((((((((w3.setCell ⟨w.heap.size, 0, none⟩ (.int .i64 f)).setCell ⟨w.heap.size, 1, none⟩ (.int .i64 e)).setCell ⟨w.heap.size, 2, none⟩ (.slice sa sn sc)).setCell ⟨w.heap.size, 3, none⟩ (.slice la ln lc)).setCell ⟨w.heap.size, 4, none⟩ (.slice ta tn tc)).setCell ⟨(w.heap.size + 1), 0, none⟩ (.int .i64 kk)).setCell ⟨(w.heap.size + 1), 1, none⟩ (.int .i64 mm)).setCell ⟨(w.heap.size + 1), 2, none⟩ (.int .i64 ll)) := ((((((((B3.out.setCell (by show w.heap.size ≤ w.heap.size; omega) _).setCell (by show w.heap.size ≤ w.heap.size; omega) _).setCell (by show w.heap.size ≤ w.heap.size; omega) _).setCell (by show w.heap.size ≤ w.heap.size; omega) _).setCell (by show w.heap.size ≤ w.heap.size; omega) _).setCell (by show w.heap.size ≤ w.heap.size + 1; omega) _).setCell (by show w.heap.size ≤ w.heap.size + 1; omega) _).setCell (by show w.heap.size ≤ w.heap.size + 1; omega) _)
 have hX := ((((((((R3.out.set0 (.int .i64 f)).set1 (.int .i64 e)).set2 (.slice sa sn sc)).set3 (.slice la ln lc)).set4 (.slice ta tn tc)).other (r' := w.heap.size + 1) (j' := 0) (u := .int .i64 kk) (by omega)).other (r' := w.heap.size + 1) (j' := 1) (u := .int .i64 mm) (by omega)).other (r' := w.heap.size + 1) (j' := 2) (u := .int .i64 ll) (by omega))
 have hT3 := ((((((((T3.out.other (r' := w.heap.size) (j' := 0) (u := .int .i64 f) (by omega)).other (r' := w.heap.size) (j' := 1) (u := .int .i64 e) (by omega)).other (r' := w.heap.size) (j' := 2) (u := .slice sa sn sc) (by omega)).other (r' := w.heap.size) (j' := 3) (u := .slice la ln lc) (by omega)).other (r' := w.heap.size) (j' := 4) (u := .slice ta tn tc) (by omega)).set0 (.int .i64 kk)).set1 (.int .i64 mm)).set2 (.int .i64 ll))
 have hsz : ((((((((w3.setCell ⟨w.heap.size, 0, none⟩ (.int .i64 f)).setCell ⟨w.heap.size, 1, none⟩ (.int .i64 e)).setCell ⟨w.heap.size, 2, none⟩ (.slice sa sn sc)).setCell ⟨w.heap.size, 3, none⟩ (.slice la ln lc)).setCell ⟨w.heap.size, 4, none⟩ (.slice ta tn tc)).setCell ⟨(w.heap.size + 1), 0, none⟩ (.int .i64 kk)).setCell ⟨(w.heap.size + 1), 1, none⟩ (.int .i64 mm)).setCell ⟨(w.heap.size + 1), 2, none⟩ (.int .i64 ll)).heap.size = w3.heap.size := by simp
 have hmz : (((((w3.setCell ⟨w.heap.size, 0, none⟩ (.int .i64 f)).setCell ⟨w.heap.size, 1, none⟩ (.int .i64 e)).setCell ⟨w.heap.size, 2, none⟩ (.slice sa sn sc)).setCell ⟨w.heap.size, 3, none⟩ (.slice la ln lc)).setCell ⟨w.heap.size, 4, none⟩ (.slice ta tn tc)).heap.size = w3.heap.size := by simp
 obtain ⟨⟨y0, y1, y2, y3, y4⟩, yf⟩ := id R3.out
 have yf0 := yf 0
 have yf1 := yf 1
 have yf2 := yf 2
 have yf3 := yf 3
 have yf4 := yf 4
 obtain ⟨MW, hMW⟩ : ∃ F, (((((w3.setCell ⟨w.heap.size, 0, none⟩ (.int .i64 f)).setCell ⟨w.heap.size, 1, none⟩ (.int .i64 e)).setCell ⟨w.heap.size, 2, none⟩ (.slice sa sn sc)).setCell ⟨w.heap.size, 3, none⟩ (.slice la ln lc)).setCell ⟨w.heap.size, 4, none⟩ (.slice ta tn tc)) = F := ⟨_, rfl⟩
 rw [hMW] at hTm hO hB hX hT3 hsz hmz d0 d1 d2
 obtain ⟨⟨v0, v1, v2⟩, vf⟩ := hTm
 have vf0 := vf 0
 have vf1 := vf 1
 have vf2 := vf 2
 obtain ⟨FW, hFW⟩ : ∃ F, (((MW.setCell ⟨(w.heap.size + 1), 0, none⟩ (.int .i64 kk)).setCell ⟨(w.heap.size + 1), 1, none⟩ (.int .i64 mm)).setCell ⟨(w.heap.size + 1), 2, none⟩ (.int .i64 ll)) = F := ⟨_, rfl⟩
 rw [hFW] at hO hB hX hT3 hsz
 obtain ⟨⟨t0, t1, t2, t3, t4⟩, _⟩ := hX
 obtain ⟨⟨u0, u1, u2⟩, _⟩ := hT3
 have HO : Hid (OwnBd FW (w.heap.size + 3) w1.heap.size (.slice sa sn sc) (.slice la ln lc) (.slice ta tn tc) ⟨f, e, sg, li, ls⟩) := hO
 have HB : Hid (Below w.heap.size w FW) := hB
 have HSZ : Hid (w1.heap.size ≤ FW.heap.size) := by show _ ≤ _; rw [hsz]; exact HZ.out
 clear hO hB hsz yf vf hmz R3 T3 B3 S3 O3
 go_wp2_with fail
 go_region
 go_wp2
 refine bodyPost_ret (v := .tuple #[.agg #[.int .i64 f, .int .i64 e, .slice sa sn sc, .slice la ln lc, .slice ta tn tc], .agg #[.int .i64 kk, .int .i64 mm, .int .i64 ll]]) (by simp [results, Try.results19, go_sem, t0, t1, t2, t3, t4, u0, u1, u2]; try rfl) rfl ?_
 exact ⟨f, e, sa, sn, sc, la, ln, lc, ta, tn, tc, sg, li, ls, kk, mm, ll, rfl, HSM.out, (HO.out.later (Below.refl _ _).drew).mono (by omega) HSZ.out, HB.out.drew⟩

end Go.Proofs.Ytaokmjbhgkfnfaa
