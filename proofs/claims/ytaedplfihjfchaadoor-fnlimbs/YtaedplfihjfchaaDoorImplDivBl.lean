/- The program's DivBig. -/
import Derived.Test.YtaedplfihjfchaaDoorSpecDivBl
import Derived.Test.YtaedplfihjfchaaDoorImplDivl
import Derived.Test.YtaedplfihjfchaaDoorImplAdd3l
import Derived.Test.YtaedplfihjfchaaDoorImplLess2l
import Derived.Test.YtaedplfihjfchaaDoorHalvesl
import Derived.Deep.DrawnRows
import Derived.Deep.DeepCutAuto
import Derived.Deep.Light
namespace Go.Proofs.YtaedplfihjfchaaDoor
set_option linter.unusedVariables false
set_option maxRecDepth 1000000
set_option linter.unusedSimpArgs false
open Go.RowKit
attribute [local go_sem ↓] Go.wp_at_zero Go.wp_at_succ

theorem c6_far {w : World} {g h : Nat} {u : Value} {a0 a1 a2 a3 a4 a5 : Int} (hc : C6 w g a0 a1 a2 a3 a4 a5) (hne : g ≠ h) : C6 (w.setCell ⟨h, 0, none⟩ u) g a0 a1 a2 a3 a4 a5 :=
  ⟨keep1 hc.1 hne, keep1 hc.2.1 hne, keep1 hc.2.2.1 hne, keep1 hc.2.2.2.1 hne, keep1 hc.2.2.2.2.1 hne, keep1 hc.2.2.2.2.2 hne⟩

theorem divideRows_d {a0 a1 a2 a3 a4 a5 b0 b1 b2 b3 b4 b5 q0 q1 q2 q3 q4 q5 r0 r1 r2 r3 r4 r5 : Int} {w : World} (da : Digs [a0, a1, a2, a3, a4, a5]) (db : Digs [b0, b1, b2, b3, b4, b5]) (hB : 0 < val [b0, b1, b2, b3, b4, b5]) (dq : Digs [q0, q1, q2, q3, q4, q5]) (dr : Digs [r0, r1, r2, r3, r4, r5]) (hq : val [q0, q1, q2, q3, q4, q5] = val [a0, a1, a2, a3, a4, a5] / val [b0, b1, b2, b3, b4, b5]) (hr : val [r0, r1, r2, r3, r4, r5] = val [a0, a1, a2, a3, a4, a5] % val [b0, b1, b2, b3, b4, b5]) (W : World) (hW : Below w.heap.size w W) :
    Calls Tryd.prog 34 #[.agg #[.int .i64 a0, .int .i64 a1, .int .i64 a2, .int .i64 a3, .int .i64 a4, .int .i64 a5], .agg #[.int .i64 b0, .int .i64 b1, .int .i64 b2, .int .i64 b3, .int .i64 b4, .int .i64 b5]] W fun e w' => e = .returned (.tuple #[.agg #[.int .i64 q0, .int .i64 q1, .int .i64 q2, .int .i64 q3, .int .i64 q4, .int .i64 q5], .agg #[.int .i64 r0, .int .i64 r1, .int .i64 r2, .int .i64 r3, .int .i64 r4, .int .i64 r5]]) ∧ Hid (Below w.heap.size w w') ∧ Below W.heap.size W w' := by
  refine (divideRows_c a0 a1 a2 a3 a4 a5 b0 b1 b2 b3 b4 b5 W da db hB).mono ?_
  rintro e w' ⟨p0, p1, p2, p3, p4, p5, s0, s1, s2, s3, s4, s5, rfl, hh, hb⟩
  obtain ⟨h1, h2, h3, h4⟩ := hh.out
  have e1 := digs_uniq (by simp) dq h1 (hq.trans h3.symm)
  have e2 := digs_uniq (by simp) dr h2 (hr.trans h4.symm)
  simp only [List.cons.injEq, and_true] at e1 e2
  obtain ⟨rfl, rfl, rfl, rfl, rfl, rfl⟩ := e1
  obtain ⟨rfl, rfl, rfl, rfl, rfl, rfl⟩ := e2
  exact ⟨rfl, hW.trans (hb.mono hW.size), hb⟩

set_option maxHeartbeats 4000000 in
set_option maxRecDepth 1000000 in
theorem implDiv_c (ao bo : Option Addr) (n m c d : Nat) (xs ys : List Int) (w : World) (hx : xs.length = n) (hy : ys.length = m) (hn : n ≤ 17592186044416) (hm : m ≤ 17592186044416) (hr : Rd w ao xs) (hs : Rd w bo ys) (zs us : List Int) (fb : Bool) (p q : Nat) (hF : divF xs ys = (zs, us, fb)) (hp : zs.length = p) (hq : us.length = q) :
    Calls Tryd.prog 7 #[.agg #[.slice ao n c], .agg #[.slice bo m d]] w fun e w' => ∃ a1 c1 a2 c2 M, e = .returned (.tuple #[.agg #[.slice a1 p c1], .agg #[.slice a2 q c2], .bool fb]) ∧ Own w' w.heap.size (.slice a1 p c1) zs ∧ Own w' M (.slice a2 q c2) us ∧ (w.heap.size ≤ M ∧ ∀ k, (Value.slice a1 p c1).ownBlock = some k → k < M) ∧ Below w.heap.size w w' := by
  have HX : Hid (xs.length = n) := hx
  have HY : Hid (ys.length = m) := hy
  have HR : Hid (Rd w ao xs) := hr
  have HS : Hid (Rd w bo ys) := hs
  have HP : Hid (zs.length = p) := hp
  have HQ : Hid (us.length = q) := hq
  clear hx hy hr hs hp hq
  cases gx : goodB xs
  · rw [divF, gx] at hF
    simp only [Bool.false_and, Bool.false_eq_true, if_false] at hF
    simp only [Prod.mk.injEq] at hF
    obtain ⟨rfl, rfl, rfl⟩ := hF
    have hp0 := HP.out
    have hq0 := HQ.out
    simp at hp0 hq0
    subst hp0 hq0
    go_enter Tryd.func7, Tryd.ntmps7
    go_wp2_with fail
    have x0 : ((((w.alloc (Obj.cells #[Value.slice ao n c] 25)).alloc (Obj.cells #[Value.slice bo m d] 25)).alloc (Obj.cells #[Value.slice none 0 0] 25)).alloc (Obj.cells #[Value.slice none 0 0] 25)).cell? ⟨w.heap.size, 0, none⟩ = some (.slice ao n c) := calloc (calloc (calloc (by simp)))
    have y0 : ((((w.alloc (Obj.cells #[Value.slice ao n c] 25)).alloc (Obj.cells #[Value.slice bo m d] 25)).alloc (Obj.cells #[Value.slice none 0 0] 25)).alloc (Obj.cells #[Value.slice none 0 0] 25)).cell? ⟨w.heap.size + 1, 0, none⟩ = some (.slice bo m d) := calloc (calloc (by simp))
    have r0 : ((((w.alloc (Obj.cells #[Value.slice ao n c] 25)).alloc (Obj.cells #[Value.slice bo m d] 25)).alloc (Obj.cells #[Value.slice none 0 0] 25)).alloc (Obj.cells #[Value.slice none 0 0] 25)).cell? ⟨w.heap.size + 1 + 1, 0, none⟩ = some (.slice none 0 0) := calloc (by rw [World.cell?_alloc_at _ _ _ _ (by simp)]; rfl)
    have t0 : ((((w.alloc (Obj.cells #[Value.slice ao n c] 25)).alloc (Obj.cells #[Value.slice bo m d] 25)).alloc (Obj.cells #[Value.slice none 0 0] 25)).alloc (Obj.cells #[Value.slice none 0 0] 25)).cell? ⟨w.heap.size + 1 + 1 + 1, 0, none⟩ = some (.slice none 0 0) := by rw [World.cell?_alloc_at _ _ _ _ (by simp)]; rfl
    have f0 : ((((w.alloc (Obj.cells #[Value.slice ao n c] 25)).alloc (Obj.cells #[Value.slice bo m d] 25)).alloc (Obj.cells #[Value.slice none 0 0] 25)).alloc (Obj.cells #[Value.slice none 0 0] 25)).frozen? ⟨w.heap.size + 1 + 1, 0, none⟩ = false := by rw [World.frozen?_alloc_past _ _ _ (by simp)]; exact fz3 _ _ _ _ _ _ _
    have g0 : ((((w.alloc (Obj.cells #[Value.slice ao n c] 25)).alloc (Obj.cells #[Value.slice bo m d] 25)).alloc (Obj.cells #[Value.slice none 0 0] 25)).alloc (Obj.cells #[Value.slice none 0 0] 25)).frozen? ⟨w.heap.size + 1 + 1 + 1, 0, none⟩ = false := fz4 _ _ _ _ _ _ _ _ _
    have HB0 : Hid (Below w.heap.size w ((((w.alloc (Obj.cells #[Value.slice ao n c] 25)).alloc (Obj.cells #[Value.slice bo m d] 25)).alloc (Obj.cells #[Value.slice none 0 0] 25)).alloc (Obj.cells #[Value.slice none 0 0] 25))) := (below_three w _ _ _).alloc (by simp; omega) _
    generalize ((((w.alloc (Obj.cells #[Value.slice ao n c] 25)).alloc (Obj.cells #[Value.slice bo m d] 25)).alloc (Obj.cells #[Value.slice none 0 0] 25)).alloc (Obj.cells #[Value.slice none 0 0] 25)) = w0 at HB0 x0 y0 r0 t0 f0 g0 ⊢
    have l0 : w.heap.size + 1 + 1 + 1 < w0.heap.size := World.block_lt_of_cell? _ _ t0
    refine (implGood_c ao n c xs _ HX.out hn (HR.out.later HB0.out)).mono ?_
    rw [gx]
    rintro e w1 ⟨rfl, hb⟩
    have HB1 : Hid (Below w.heap.size w w1) := HB0.out.trans (hb.mono HB0.out.size)
    have x1 : w1.cell? ⟨w.heap.size, 0, none⟩ = some (.slice ao n c) := cell_keep (S := 0) hb x0
    have y1 : w1.cell? ⟨w.heap.size + 1, 0, none⟩ = some (.slice bo m d) := cell_keep (S := 0) hb y0
    have r1 : w1.cell? ⟨w.heap.size + 1 + 1, 0, none⟩ = some (.slice none 0 0) := cell_keep (S := 0) hb r0
    have t1 : w1.cell? ⟨w.heap.size + 1 + 1 + 1, 0, none⟩ = some (.slice none 0 0) := cell_keep (S := 0) hb t0
    have f1 : w1.frozen? ⟨w.heap.size + 1 + 1, 0, none⟩ = false := fcell_keep hb (by omega) f0
    have g1 : w1.frozen? ⟨w.heap.size + 1 + 1 + 1, 0, none⟩ = false := fcell_keep hb (by omega) g0
    have l1 : w.heap.size + 1 + 1 + 1 < w1.heap.size := World.block_lt_of_cell? _ _ t1
    have kk1 : w.heap.size + 3 < w1.heap.size := by omega
    clear hb x0 y0 r0 t0 f0 g0 l0
    clear gx
    have rr : ((w1.setCell ⟨w.heap.size + 1 + 1, 0, none⟩ (.slice none 0 0)).setCell ⟨w.heap.size + 1 + 1 + 1, 0, none⟩ (.slice none 0 0)).cell? ⟨w.heap.size + 1 + 1, 0, none⟩ = some (.slice none 0 0) := keep1 (rsame r1) (by omega)
    have tt : ((w1.setCell ⟨w.heap.size + 1 + 1, 0, none⟩ (.slice none 0 0)).setCell ⟨w.heap.size + 1 + 1 + 1, 0, none⟩ (.slice none 0 0)).cell? ⟨w.heap.size + 1 + 1 + 1, 0, none⟩ = some (.slice none 0 0) := rsame (keep1 t1 (by omega))
    go_wp2
    refine bodyPost_ret (v := .tuple #[.agg #[.slice none 0 0], .agg #[.slice none 0 0], .bool false]) (by simp [results, Tryd.results7, go_sem, rr, tt]) rfl ⟨none, 0, none, 0, w.heap.size, rfl, World.ownsRow_nil _ _ _ _, World.ownsRow_nil _ _ _ _, ⟨Nat.le_refl _, fun k e => by cases e⟩, ?_⟩
    exact (HB1.out.setCell (by simp; omega) _).setCell (by simp; omega) _
  cases gy : goodB ys
  · rw [divF, gx, gy] at hF
    simp only [Bool.and_false, Bool.false_eq_true, if_false] at hF
    simp only [Prod.mk.injEq] at hF
    obtain ⟨rfl, rfl, rfl⟩ := hF
    have hp0 := HP.out
    have hq0 := HQ.out
    simp at hp0 hq0
    subst hp0 hq0
    go_enter Tryd.func7, Tryd.ntmps7
    go_wp2_with fail
    have x0 : ((((w.alloc (Obj.cells #[Value.slice ao n c] 25)).alloc (Obj.cells #[Value.slice bo m d] 25)).alloc (Obj.cells #[Value.slice none 0 0] 25)).alloc (Obj.cells #[Value.slice none 0 0] 25)).cell? ⟨w.heap.size, 0, none⟩ = some (.slice ao n c) := calloc (calloc (calloc (by simp)))
    have y0 : ((((w.alloc (Obj.cells #[Value.slice ao n c] 25)).alloc (Obj.cells #[Value.slice bo m d] 25)).alloc (Obj.cells #[Value.slice none 0 0] 25)).alloc (Obj.cells #[Value.slice none 0 0] 25)).cell? ⟨w.heap.size + 1, 0, none⟩ = some (.slice bo m d) := calloc (calloc (by simp))
    have r0 : ((((w.alloc (Obj.cells #[Value.slice ao n c] 25)).alloc (Obj.cells #[Value.slice bo m d] 25)).alloc (Obj.cells #[Value.slice none 0 0] 25)).alloc (Obj.cells #[Value.slice none 0 0] 25)).cell? ⟨w.heap.size + 1 + 1, 0, none⟩ = some (.slice none 0 0) := calloc (by rw [World.cell?_alloc_at _ _ _ _ (by simp)]; rfl)
    have t0 : ((((w.alloc (Obj.cells #[Value.slice ao n c] 25)).alloc (Obj.cells #[Value.slice bo m d] 25)).alloc (Obj.cells #[Value.slice none 0 0] 25)).alloc (Obj.cells #[Value.slice none 0 0] 25)).cell? ⟨w.heap.size + 1 + 1 + 1, 0, none⟩ = some (.slice none 0 0) := by rw [World.cell?_alloc_at _ _ _ _ (by simp)]; rfl
    have f0 : ((((w.alloc (Obj.cells #[Value.slice ao n c] 25)).alloc (Obj.cells #[Value.slice bo m d] 25)).alloc (Obj.cells #[Value.slice none 0 0] 25)).alloc (Obj.cells #[Value.slice none 0 0] 25)).frozen? ⟨w.heap.size + 1 + 1, 0, none⟩ = false := by rw [World.frozen?_alloc_past _ _ _ (by simp)]; exact fz3 _ _ _ _ _ _ _
    have g0 : ((((w.alloc (Obj.cells #[Value.slice ao n c] 25)).alloc (Obj.cells #[Value.slice bo m d] 25)).alloc (Obj.cells #[Value.slice none 0 0] 25)).alloc (Obj.cells #[Value.slice none 0 0] 25)).frozen? ⟨w.heap.size + 1 + 1 + 1, 0, none⟩ = false := fz4 _ _ _ _ _ _ _ _ _
    have HB0 : Hid (Below w.heap.size w ((((w.alloc (Obj.cells #[Value.slice ao n c] 25)).alloc (Obj.cells #[Value.slice bo m d] 25)).alloc (Obj.cells #[Value.slice none 0 0] 25)).alloc (Obj.cells #[Value.slice none 0 0] 25))) := (below_three w _ _ _).alloc (by simp; omega) _
    generalize ((((w.alloc (Obj.cells #[Value.slice ao n c] 25)).alloc (Obj.cells #[Value.slice bo m d] 25)).alloc (Obj.cells #[Value.slice none 0 0] 25)).alloc (Obj.cells #[Value.slice none 0 0] 25)) = w0 at HB0 x0 y0 r0 t0 f0 g0 ⊢
    have l0 : w.heap.size + 1 + 1 + 1 < w0.heap.size := World.block_lt_of_cell? _ _ t0
    refine (implGood_c ao n c xs _ HX.out hn (HR.out.later HB0.out)).mono ?_
    rw [gx]
    rintro e w1 ⟨rfl, hb⟩
    have HB1 : Hid (Below w.heap.size w w1) := HB0.out.trans (hb.mono HB0.out.size)
    have x1 : w1.cell? ⟨w.heap.size, 0, none⟩ = some (.slice ao n c) := cell_keep (S := 0) hb x0
    have y1 : w1.cell? ⟨w.heap.size + 1, 0, none⟩ = some (.slice bo m d) := cell_keep (S := 0) hb y0
    have r1 : w1.cell? ⟨w.heap.size + 1 + 1, 0, none⟩ = some (.slice none 0 0) := cell_keep (S := 0) hb r0
    have t1 : w1.cell? ⟨w.heap.size + 1 + 1 + 1, 0, none⟩ = some (.slice none 0 0) := cell_keep (S := 0) hb t0
    have f1 : w1.frozen? ⟨w.heap.size + 1 + 1, 0, none⟩ = false := fcell_keep hb (by omega) f0
    have g1 : w1.frozen? ⟨w.heap.size + 1 + 1 + 1, 0, none⟩ = false := fcell_keep hb (by omega) g0
    have l1 : w.heap.size + 1 + 1 + 1 < w1.heap.size := World.block_lt_of_cell? _ _ t1
    have kk1 : w.heap.size + 3 < w1.heap.size := by omega
    clear hb x0 y0 r0 t0 f0 g0 l0
    go_wp2_with fail
    refine (implGood_c bo m d ys _ HY.out hm (HS.out.later HB1.out)).mono ?_
    rw [gy]
    rintro e w2 ⟨rfl, hb⟩
    have HB2 : Hid (Below w.heap.size w w2) := HB1.out.trans (hb.mono HB1.out.size)
    have x2 : w2.cell? ⟨w.heap.size, 0, none⟩ = some (.slice ao n c) := cell_keep (S := 0) hb x1
    have y2 : w2.cell? ⟨w.heap.size + 1, 0, none⟩ = some (.slice bo m d) := cell_keep (S := 0) hb y1
    have r2 : w2.cell? ⟨w.heap.size + 1 + 1, 0, none⟩ = some (.slice none 0 0) := cell_keep (S := 0) hb r1
    have t2 : w2.cell? ⟨w.heap.size + 1 + 1 + 1, 0, none⟩ = some (.slice none 0 0) := cell_keep (S := 0) hb t1
    have f2 : w2.frozen? ⟨w.heap.size + 1 + 1, 0, none⟩ = false := fcell_keep hb (by omega) f1
    have g2 : w2.frozen? ⟨w.heap.size + 1 + 1 + 1, 0, none⟩ = false := fcell_keep hb (by omega) g1
    have l2 : w.heap.size + 1 + 1 + 1 < w2.heap.size := World.block_lt_of_cell? _ _ t2
    have kk2 : w.heap.size + 3 < w2.heap.size := by omega
    clear hb x1 y1 r1 t1 f1 g1 l1
    clear gx gy
    have rr : ((w2.setCell ⟨w.heap.size + 1 + 1, 0, none⟩ (.slice none 0 0)).setCell ⟨w.heap.size + 1 + 1 + 1, 0, none⟩ (.slice none 0 0)).cell? ⟨w.heap.size + 1 + 1, 0, none⟩ = some (.slice none 0 0) := keep1 (rsame r2) (by omega)
    have tt : ((w2.setCell ⟨w.heap.size + 1 + 1, 0, none⟩ (.slice none 0 0)).setCell ⟨w.heap.size + 1 + 1 + 1, 0, none⟩ (.slice none 0 0)).cell? ⟨w.heap.size + 1 + 1 + 1, 0, none⟩ = some (.slice none 0 0) := rsame (keep1 t2 (by omega))
    go_wp2
    refine bodyPost_ret (v := .tuple #[.agg #[.slice none 0 0], .agg #[.slice none 0 0], .bool false]) (by simp [results, Tryd.results7, go_sem, rr, tt]) rfl ⟨none, 0, none, 0, w.heap.size, rfl, World.ownsRow_nil _ _ _ _, World.ownsRow_nil _ _ _ _, ⟨Nat.le_refl _, fun k e => by cases e⟩, ?_⟩
    exact (HB2.out.setCell (by simp; omega) _).setCell (by simp; omega) _
  rw [divF, gx, gy, Bool.and_self, if_pos rfl, HY.out] at hF
  have HG : Hid (goodB xs = true ∧ goodB ys = true) := ⟨gx, gy⟩
  have hn6 : n ≤ 6 := by have := (goodB_digs gx).1; rw [HX.out] at this; exact this
  have hm6 : m ≤ 6 := by have := (goodB_digs gy).1; rw [HY.out] at this; exact this
  by_cases hm0 : m = 0
  · rw [if_pos hm0] at hF
    have hm0' : ((m : Int) == 0) = true := by rw [beq_iff_eq]; omega
    clear hm0
    simp only [Prod.mk.injEq] at hF
    obtain ⟨rfl, rfl, rfl⟩ := hF
    have hp0 := HP.out
    have hq0 := HQ.out
    simp at hp0 hq0
    subst hp0 hq0
    go_enter Tryd.func7, Tryd.ntmps7
    go_wp2_with fail
    have x0 : ((((w.alloc (Obj.cells #[Value.slice ao n c] 25)).alloc (Obj.cells #[Value.slice bo m d] 25)).alloc (Obj.cells #[Value.slice none 0 0] 25)).alloc (Obj.cells #[Value.slice none 0 0] 25)).cell? ⟨w.heap.size, 0, none⟩ = some (.slice ao n c) := calloc (calloc (calloc (by simp)))
    have y0 : ((((w.alloc (Obj.cells #[Value.slice ao n c] 25)).alloc (Obj.cells #[Value.slice bo m d] 25)).alloc (Obj.cells #[Value.slice none 0 0] 25)).alloc (Obj.cells #[Value.slice none 0 0] 25)).cell? ⟨w.heap.size + 1, 0, none⟩ = some (.slice bo m d) := calloc (calloc (by simp))
    have r0 : ((((w.alloc (Obj.cells #[Value.slice ao n c] 25)).alloc (Obj.cells #[Value.slice bo m d] 25)).alloc (Obj.cells #[Value.slice none 0 0] 25)).alloc (Obj.cells #[Value.slice none 0 0] 25)).cell? ⟨w.heap.size + 1 + 1, 0, none⟩ = some (.slice none 0 0) := calloc (by rw [World.cell?_alloc_at _ _ _ _ (by simp)]; rfl)
    have t0 : ((((w.alloc (Obj.cells #[Value.slice ao n c] 25)).alloc (Obj.cells #[Value.slice bo m d] 25)).alloc (Obj.cells #[Value.slice none 0 0] 25)).alloc (Obj.cells #[Value.slice none 0 0] 25)).cell? ⟨w.heap.size + 1 + 1 + 1, 0, none⟩ = some (.slice none 0 0) := by rw [World.cell?_alloc_at _ _ _ _ (by simp)]; rfl
    have f0 : ((((w.alloc (Obj.cells #[Value.slice ao n c] 25)).alloc (Obj.cells #[Value.slice bo m d] 25)).alloc (Obj.cells #[Value.slice none 0 0] 25)).alloc (Obj.cells #[Value.slice none 0 0] 25)).frozen? ⟨w.heap.size + 1 + 1, 0, none⟩ = false := by rw [World.frozen?_alloc_past _ _ _ (by simp)]; exact fz3 _ _ _ _ _ _ _
    have g0 : ((((w.alloc (Obj.cells #[Value.slice ao n c] 25)).alloc (Obj.cells #[Value.slice bo m d] 25)).alloc (Obj.cells #[Value.slice none 0 0] 25)).alloc (Obj.cells #[Value.slice none 0 0] 25)).frozen? ⟨w.heap.size + 1 + 1 + 1, 0, none⟩ = false := fz4 _ _ _ _ _ _ _ _ _
    have HB0 : Hid (Below w.heap.size w ((((w.alloc (Obj.cells #[Value.slice ao n c] 25)).alloc (Obj.cells #[Value.slice bo m d] 25)).alloc (Obj.cells #[Value.slice none 0 0] 25)).alloc (Obj.cells #[Value.slice none 0 0] 25))) := (below_three w _ _ _).alloc (by simp; omega) _
    generalize ((((w.alloc (Obj.cells #[Value.slice ao n c] 25)).alloc (Obj.cells #[Value.slice bo m d] 25)).alloc (Obj.cells #[Value.slice none 0 0] 25)).alloc (Obj.cells #[Value.slice none 0 0] 25)) = w0 at HB0 x0 y0 r0 t0 f0 g0 ⊢
    have l0 : w.heap.size + 1 + 1 + 1 < w0.heap.size := World.block_lt_of_cell? _ _ t0
    refine (implGood_c ao n c xs _ HX.out hn (HR.out.later HB0.out)).mono ?_
    rw [gx]
    rintro e w1 ⟨rfl, hb⟩
    have HB1 : Hid (Below w.heap.size w w1) := HB0.out.trans (hb.mono HB0.out.size)
    have x1 : w1.cell? ⟨w.heap.size, 0, none⟩ = some (.slice ao n c) := cell_keep (S := 0) hb x0
    have y1 : w1.cell? ⟨w.heap.size + 1, 0, none⟩ = some (.slice bo m d) := cell_keep (S := 0) hb y0
    have r1 : w1.cell? ⟨w.heap.size + 1 + 1, 0, none⟩ = some (.slice none 0 0) := cell_keep (S := 0) hb r0
    have t1 : w1.cell? ⟨w.heap.size + 1 + 1 + 1, 0, none⟩ = some (.slice none 0 0) := cell_keep (S := 0) hb t0
    have f1 : w1.frozen? ⟨w.heap.size + 1 + 1, 0, none⟩ = false := fcell_keep hb (by omega) f0
    have g1 : w1.frozen? ⟨w.heap.size + 1 + 1 + 1, 0, none⟩ = false := fcell_keep hb (by omega) g0
    have l1 : w.heap.size + 1 + 1 + 1 < w1.heap.size := World.block_lt_of_cell? _ _ t1
    have kk1 : w.heap.size + 3 < w1.heap.size := by omega
    clear hb x0 y0 r0 t0 f0 g0 l0
    go_wp2_with fail
    refine (implGood_c bo m d ys _ HY.out hm (HS.out.later HB1.out)).mono ?_
    rw [gy]
    rintro e w2 ⟨rfl, hb⟩
    have HB2 : Hid (Below w.heap.size w w2) := HB1.out.trans (hb.mono HB1.out.size)
    have x2 : w2.cell? ⟨w.heap.size, 0, none⟩ = some (.slice ao n c) := cell_keep (S := 0) hb x1
    have y2 : w2.cell? ⟨w.heap.size + 1, 0, none⟩ = some (.slice bo m d) := cell_keep (S := 0) hb y1
    have r2 : w2.cell? ⟨w.heap.size + 1 + 1, 0, none⟩ = some (.slice none 0 0) := cell_keep (S := 0) hb r1
    have t2 : w2.cell? ⟨w.heap.size + 1 + 1 + 1, 0, none⟩ = some (.slice none 0 0) := cell_keep (S := 0) hb t1
    have f2 : w2.frozen? ⟨w.heap.size + 1 + 1, 0, none⟩ = false := fcell_keep hb (by omega) f1
    have g2 : w2.frozen? ⟨w.heap.size + 1 + 1 + 1, 0, none⟩ = false := fcell_keep hb (by omega) g1
    have l2 : w.heap.size + 1 + 1 + 1 < w2.heap.size := World.block_lt_of_cell? _ _ t2
    have kk2 : w.heap.size + 3 < w2.heap.size := by omega
    clear hb x1 y1 r1 t1 f1 g1 l1
    clear gx gy
    have rr : ((w2.setCell ⟨w.heap.size + 1 + 1, 0, none⟩ (.slice none 0 0)).setCell ⟨w.heap.size + 1 + 1 + 1, 0, none⟩ (.slice none 0 0)).cell? ⟨w.heap.size + 1 + 1, 0, none⟩ = some (.slice none 0 0) := keep1 (rsame r2) (by omega)
    have tt : ((w2.setCell ⟨w.heap.size + 1 + 1, 0, none⟩ (.slice none 0 0)).setCell ⟨w.heap.size + 1 + 1 + 1, 0, none⟩ (.slice none 0 0)).cell? ⟨w.heap.size + 1 + 1 + 1, 0, none⟩ = some (.slice none 0 0) := rsame (keep1 t2 (by omega))
    go_wp2
    refine bodyPost_ret (v := .tuple #[.agg #[.slice none 0 0], .agg #[.slice none 0 0], .bool false]) (by simp [results, Tryd.results7, go_sem, rr, tt]) rfl ⟨none, 0, none, 0, w.heap.size, rfl, World.ownsRow_nil _ _ _ _, World.ownsRow_nil _ _ _ _, ⟨Nat.le_refl _, fun k e => by cases e⟩, ?_⟩
    exact (HB2.out.setCell (by simp; omega) _).setCell (by simp; omega) _
  rw [if_neg hm0] at hF
  simp only [Prod.mk.injEq] at hF
  obtain ⟨hz1, hz2, rfl⟩ := hF
  have hm0' : ((m : Int) == 0) = false := by rw [beq_eq_false_iff_ne]; omega
  obtain ⟨lx, dx, _⟩ := goodB_digs gx
  obtain ⟨ly, dy, ty⟩ := goodB_digs gy
  obtain ⟨a0, a1, a2, a3, a4, a5, hA⟩ := list6 (pad6_length lx)
  obtain ⟨b0, b1, b2, b3, b4, b5, hB⟩ := list6 (pad6_length ly)
  have HA : Hid (pad6 xs = [a0, a1, a2, a3, a4, a5]) := hA
  have HBB : Hid (pad6 ys = [b0, b1, b2, b3, b4, b5]) := hB
  have vy0 : 0 < val ys := by
    have h := val_lt_len (xs := []) digs_nil dy ty (by rw [HY.out]; simp; omega)
    simpa [val] using h
  have HDA : Hid (Digs [a0, a1, a2, a3, a4, a5] ∧ Digs [b0, b1, b2, b3, b4, b5] ∧ 0 < val [b0, b1, b2, b3, b4, b5] ∧ val [a0, a1, a2, a3, a4, a5] = val xs ∧ val [b0, b1, b2, b3, b4, b5] = val ys) := by
    refine ⟨by rw [← hA]; exact pad6_digs dx, by rw [← hB]; exact pad6_digs dy, ?_, by rw [← hA, pad6_val], by rw [← hB, pad6_val]⟩
    rw [← hB, pad6_val]; exact vy0
  have HZ : Hid (bigL (val xs / val ys) = zs ∧ bigL (val xs % val ys) = us) := ⟨hz1, hz2⟩
  have vx1 := val_lt6 dx lx
  have vrx : val xs % val ys < 79228162514264337593543950336 := by
    have h1 := Int.emod_add_mul_ediv (val xs) (val ys)
    have h2 := Int.mul_nonneg (show 0 ≤ val ys by omega) (Int.ediv_nonneg (val_nonneg dx) (show 0 ≤ val ys by omega))
    omega
  clear lx ly dy ty hA hB hz1 hz2
  obtain ⟨q0, q1, q2, q3, q4, q5, dq, vq⟩ := exists6 (N := val xs / val ys) (Int.ediv_nonneg (val_nonneg dx) (by omega)) (by have := Int.ediv_le_self (val ys) (val_nonneg dx); omega)
  obtain ⟨u0, u1, u2, u3, u4, u5, dr, vr⟩ := exists6 (N := val xs % val ys) (Int.emod_nonneg _ (by omega)) vrx
  have HE : Hid (Digs [q0, q1, q2, q3, q4, q5] ∧ Digs [u0, u1, u2, u3, u4, u5] ∧ val [q0, q1, q2, q3, q4, q5] = val [a0, a1, a2, a3, a4, a5] / val [b0, b1, b2, b3, b4, b5] ∧ val [u0, u1, u2, u3, u4, u5] = val [a0, a1, a2, a3, a4, a5] % val [b0, b1, b2, b3, b4, b5]) := ⟨dq, dr, by rw [vq, HDA.out.2.2.2.1, HDA.out.2.2.2.2], by rw [vr, HDA.out.2.2.2.1, HDA.out.2.2.2.2]⟩
  have HT : Hid (trim [q0, q1, q2, q3, q4, q5] = zs ∧ trim [u0, u1, u2, u3, u4, u5] = us) := ⟨by rw [trim_bigL dq, vq]; exact HZ.out.1, by rw [trim_bigL dr, vr]; exact HZ.out.2⟩
  clear dq dr vq vr dx vy0 vrx vx1
  go_enter Tryd.func7, Tryd.ntmps7
  go_wp2_with fail
  have x0 : ((((w.alloc (Obj.cells #[Value.slice ao n c] 25)).alloc (Obj.cells #[Value.slice bo m d] 25)).alloc (Obj.cells #[Value.slice none 0 0] 25)).alloc (Obj.cells #[Value.slice none 0 0] 25)).cell? ⟨w.heap.size, 0, none⟩ = some (.slice ao n c) := calloc (calloc (calloc (by simp)))
  have y0 : ((((w.alloc (Obj.cells #[Value.slice ao n c] 25)).alloc (Obj.cells #[Value.slice bo m d] 25)).alloc (Obj.cells #[Value.slice none 0 0] 25)).alloc (Obj.cells #[Value.slice none 0 0] 25)).cell? ⟨w.heap.size + 1, 0, none⟩ = some (.slice bo m d) := calloc (calloc (by simp))
  have r0 : ((((w.alloc (Obj.cells #[Value.slice ao n c] 25)).alloc (Obj.cells #[Value.slice bo m d] 25)).alloc (Obj.cells #[Value.slice none 0 0] 25)).alloc (Obj.cells #[Value.slice none 0 0] 25)).cell? ⟨w.heap.size + 1 + 1, 0, none⟩ = some (.slice none 0 0) := calloc (by rw [World.cell?_alloc_at _ _ _ _ (by simp)]; rfl)
  have t0 : ((((w.alloc (Obj.cells #[Value.slice ao n c] 25)).alloc (Obj.cells #[Value.slice bo m d] 25)).alloc (Obj.cells #[Value.slice none 0 0] 25)).alloc (Obj.cells #[Value.slice none 0 0] 25)).cell? ⟨w.heap.size + 1 + 1 + 1, 0, none⟩ = some (.slice none 0 0) := by rw [World.cell?_alloc_at _ _ _ _ (by simp)]; rfl
  have f0 : ((((w.alloc (Obj.cells #[Value.slice ao n c] 25)).alloc (Obj.cells #[Value.slice bo m d] 25)).alloc (Obj.cells #[Value.slice none 0 0] 25)).alloc (Obj.cells #[Value.slice none 0 0] 25)).frozen? ⟨w.heap.size + 1 + 1, 0, none⟩ = false := by rw [World.frozen?_alloc_past _ _ _ (by simp)]; exact fz3 _ _ _ _ _ _ _
  have g0 : ((((w.alloc (Obj.cells #[Value.slice ao n c] 25)).alloc (Obj.cells #[Value.slice bo m d] 25)).alloc (Obj.cells #[Value.slice none 0 0] 25)).alloc (Obj.cells #[Value.slice none 0 0] 25)).frozen? ⟨w.heap.size + 1 + 1 + 1, 0, none⟩ = false := fz4 _ _ _ _ _ _ _ _ _
  have HB0 : Hid (Below w.heap.size w ((((w.alloc (Obj.cells #[Value.slice ao n c] 25)).alloc (Obj.cells #[Value.slice bo m d] 25)).alloc (Obj.cells #[Value.slice none 0 0] 25)).alloc (Obj.cells #[Value.slice none 0 0] 25))) := (below_three w _ _ _).alloc (by simp; omega) _
  generalize ((((w.alloc (Obj.cells #[Value.slice ao n c] 25)).alloc (Obj.cells #[Value.slice bo m d] 25)).alloc (Obj.cells #[Value.slice none 0 0] 25)).alloc (Obj.cells #[Value.slice none 0 0] 25)) = w0 at HB0 x0 y0 r0 t0 f0 g0 ⊢
  have l0 : w.heap.size + 1 + 1 + 1 < w0.heap.size := World.block_lt_of_cell? _ _ t0
  refine (implGood_c ao n c xs _ HX.out hn (HR.out.later HB0.out)).mono ?_
  rw [gx]
  rintro e w1 ⟨rfl, hb⟩
  have HB1 : Hid (Below w.heap.size w w1) := HB0.out.trans (hb.mono HB0.out.size)
  have x1 : w1.cell? ⟨w.heap.size, 0, none⟩ = some (.slice ao n c) := cell_keep (S := 0) hb x0
  have y1 : w1.cell? ⟨w.heap.size + 1, 0, none⟩ = some (.slice bo m d) := cell_keep (S := 0) hb y0
  have r1 : w1.cell? ⟨w.heap.size + 1 + 1, 0, none⟩ = some (.slice none 0 0) := cell_keep (S := 0) hb r0
  have t1 : w1.cell? ⟨w.heap.size + 1 + 1 + 1, 0, none⟩ = some (.slice none 0 0) := cell_keep (S := 0) hb t0
  have f1 : w1.frozen? ⟨w.heap.size + 1 + 1, 0, none⟩ = false := fcell_keep hb (by omega) f0
  have g1 : w1.frozen? ⟨w.heap.size + 1 + 1 + 1, 0, none⟩ = false := fcell_keep hb (by omega) g0
  have l1 : w.heap.size + 1 + 1 + 1 < w1.heap.size := World.block_lt_of_cell? _ _ t1
  have kk1 : w.heap.size + 3 < w1.heap.size := by omega
  clear hb x0 y0 r0 t0 f0 g0 l0
  go_wp2_with fail
  refine (implGood_c bo m d ys _ HY.out hm (HS.out.later HB1.out)).mono ?_
  rw [gy]
  rintro e w2 ⟨rfl, hb⟩
  have HB2 : Hid (Below w.heap.size w w2) := HB1.out.trans (hb.mono HB1.out.size)
  have x2 : w2.cell? ⟨w.heap.size, 0, none⟩ = some (.slice ao n c) := cell_keep (S := 0) hb x1
  have y2 : w2.cell? ⟨w.heap.size + 1, 0, none⟩ = some (.slice bo m d) := cell_keep (S := 0) hb y1
  have r2 : w2.cell? ⟨w.heap.size + 1 + 1, 0, none⟩ = some (.slice none 0 0) := cell_keep (S := 0) hb r1
  have t2 : w2.cell? ⟨w.heap.size + 1 + 1 + 1, 0, none⟩ = some (.slice none 0 0) := cell_keep (S := 0) hb t1
  have f2 : w2.frozen? ⟨w.heap.size + 1 + 1, 0, none⟩ = false := fcell_keep hb (by omega) f1
  have g2 : w2.frozen? ⟨w.heap.size + 1 + 1 + 1, 0, none⟩ = false := fcell_keep hb (by omega) g1
  have l2 : w.heap.size + 1 + 1 + 1 < w2.heap.size := World.block_lt_of_cell? _ _ t2
  have kk2 : w.heap.size + 3 < w2.heap.size := by omega
  clear hb x1 y1 r1 t1 f1 g1 l1
  clear gx gy
  go_upto_region 3 with fail
  have HC2 : Hid (Below w2.heap.size w2 w2) := Below.refl _ _
  go_cut [7, 8] (fun ub uv wx => ∃ (ga gb : Nat), ub = .pointer (some ⟨ga, 0, none⟩) ∧ uv = .pointer (some ⟨gb, 0, none⟩) ∧ w2.heap.size ≤ ga ∧ w2.heap.size ≤ gb ∧ C6 wx ga q0 q1 q2 q3 q4 q5 ∧ C6 wx gb u0 u1 u2 u3 u4 u5 ∧ Hid (Below w2.heap.size w2 wx))
  case first =>
    have tok1 : True := trivial
    have la : w.heap.size < w2.heap.size := by omega
    have lb : w.heap.size + 1 < w2.heap.size := by omega
    go_region_held3 (fun w' => w'.cell? ⟨w.heap.size, 0, none⟩ = some (.slice ao n c) ∧ w'.cell? ⟨w.heap.size + 1, 0, none⟩ = some (.slice bo m d)) (first | go_keep | (refine ⟨?_, ?_⟩ <;> (repeat (first | rw [cset_ne (by omega)] | rw [calloc_eq (by first | omega | (simp; omega))])) <;> assumption)) (first
      | (go_at_call 29; have _t := tok1; refine (rowOf_d (w := w2) HA.out HX.out hn6 (HR.out.later HB2.out) _ (by repeat (first | exact HC2.out | refine Below.drew ?_ | refine Below.alloc ?_ (by first | omega | (simp; done) | (simp; omega)) _))).mono ?_; rintro e w3 ⟨rfl, HC3, hb3⟩; clear tok1 _t; have zw3 : w2.heap.size ≤ w3.heap.size := HC3.out.size; have x3 : w3.cell? ⟨w.heap.size, 0, none⟩ = some (.slice ao n c) := cell_keep (S := 0) hb3 (by first | exact x2 | exact calloc x2 | exact calloc (calloc x2)); have y3 : w3.cell? ⟨w.heap.size + 1, 0, none⟩ = some (.slice bo m d) := cell_keep (S := 0) hb3 (by first | exact y2 | exact calloc y2 | exact calloc (calloc y2)); obtain ⟨hc3, hf3⟩ := bcell hb3; have z3 := hb3.size; (try simp at hc3); (try simp at hf3); (try simp at z3); (try (have zz2_3 : w2.heap.size < w3.heap.size := by omega)); (try (have zy2_3 : w2.heap.size + 1 < w3.heap.size := by omega)); clear hb3)
      | (go_at_call 29; refine (rowOf_d (w := w2) HBB.out HY.out hm6 (HS.out.later HB2.out) _ (by repeat (first | exact HC3.out | refine Below.drew ?_ | refine Below.alloc ?_ (by first | omega | (simp; done) | (simp; omega)) _))).mono ?_; rintro e w4 ⟨rfl, HC4, hb4⟩; have zw4 : w2.heap.size ≤ w4.heap.size := HC4.out.size; have x4 : w4.cell? ⟨w.heap.size, 0, none⟩ = some (.slice ao n c) := cell_keep (S := 0) hb4 (by first | exact x3 | exact calloc x3 | exact calloc (calloc x3)); have y4 : w4.cell? ⟨w.heap.size + 1, 0, none⟩ = some (.slice bo m d) := cell_keep (S := 0) hb4 (by first | exact y3 | exact calloc y3 | exact calloc (calloc y3)); obtain ⟨hc4, hf4⟩ := bcell hb4; have z4 := hb4.size; (try simp at hc4); (try simp at hf4); (try simp at z4); (try (have zz2_4 : w2.heap.size < w4.heap.size := by omega)); (try (have zy2_4 : w2.heap.size + 1 < w4.heap.size := by omega)); (try (have zz3_4 : w3.heap.size < w4.heap.size := by omega)); (try (have zy3_4 : w3.heap.size + 1 < w4.heap.size := by omega)); clear hb4)
      | (go_at_call 34; refine (divideRows_d (w := w2) HDA.out.1 HDA.out.2.1 HDA.out.2.2.1 HE.out.1 HE.out.2.1 HE.out.2.2.1 HE.out.2.2.2 _ (by repeat (first | exact HC4.out | refine Below.drew ?_ | refine Below.alloc ?_ (by first | omega | (simp; done) | (simp; omega)) _))).mono ?_; rintro e w5 ⟨rfl, HC5, hb5⟩; have zw5 : w2.heap.size ≤ w5.heap.size := HC5.out.size; have x5 : w5.cell? ⟨w.heap.size, 0, none⟩ = some (.slice ao n c) := cell_keep (S := 0) hb5 (by first | exact x4 | exact calloc x4 | exact calloc (calloc x4)); have y5 : w5.cell? ⟨w.heap.size + 1, 0, none⟩ = some (.slice bo m d) := cell_keep (S := 0) hb5 (by first | exact y4 | exact calloc y4 | exact calloc (calloc y4)); obtain ⟨hc5, hf5⟩ := bcell hb5; have z5 := hb5.size; (try simp at hc5); (try simp at hf5); (try simp at z5); (try (have zz2_5 : w2.heap.size < w5.heap.size := by omega)); (try (have zy2_5 : w2.heap.size + 1 < w5.heap.size := by omega)); (try (have zz3_5 : w3.heap.size < w5.heap.size := by omega)); (try (have zy3_5 : w3.heap.size + 1 < w5.heap.size := by omega)); (try (have zz4_5 : w4.heap.size < w5.heap.size := by omega)); (try (have zy4_5 : w4.heap.size + 1 < w5.heap.size := by omega)); clear hb5))
    all_goals go_wp2_with fail
    all_goals go_meet
    all_goals go_light
    all_goals refine ⟨_, _, rfl, rfl, ?_, ?_, ?_, ?_, ?_⟩
    all_goals try (repeat' (first | (with_reducible refine c6_new ?_; simp; done) | with_reducible refine c6_set_same ?_ | with_reducible refine c6_set_ne ?_ ?_ | with_reducible refine s6_set_ne ?_ ?_ | with_reducible refine c6_alloc ?_))
    all_goals first
      | omega
      | (simp; done)
      | (simp; omega)
      | (refine ⟨?_, ?_, ?_, ?_, ?_, ?_⟩ <;> first | (simp [*]; done) | (simp [go_sem, *]; done))
      | (show Below _ _ _; with_reducible exact below_set6 (below_set6 HC5.out (by omega)) (by omega))
      | (show Below _ _ _; with_reducible exact (below_set6 HC5.out (by omega)).alloc (by first | (simp; done) | (simp; omega)) _)
      | (show Below _ _ _; with_reducible exact (HC5.out.alloc (by omega) _).alloc (by first | (simp; done) | (simp; omega)) _)
  case rest =>
    obtain ⟨ga, gb, rfl, rfl, hga, hgb, hca, hcb, hb⟩ := hcut
    obtain ⟨w5, rfl⟩ : ∃ w5 : World, w5 = wc := ⟨_, rfl⟩
    have HC5 : Below w2.heap.size w2 w5 := hb
    have zz5 : w2.heap.size ≤ w5.heap.size := HC5.size
    clear hb HC2
    have HB5 : Hid (Below w.heap.size w w5) := HB2.out.trans (HC5.mono HB2.out.size)
    have x5 : w5.cell? ⟨w.heap.size, 0, none⟩ = some (.slice ao n c) := cell_keep (S := 0) HC5 x2
    have y5 : w5.cell? ⟨w.heap.size + 1, 0, none⟩ = some (.slice bo m d) := cell_keep (S := 0) HC5 y2
    have r5 : w5.cell? ⟨w.heap.size + 1 + 1, 0, none⟩ = some (.slice none 0 0) := cell_keep (S := 0) HC5 r2
    have t5 : w5.cell? ⟨w.heap.size + 1 + 1 + 1, 0, none⟩ = some (.slice none 0 0) := cell_keep (S := 0) HC5 t2
    have f5 : w5.frozen? ⟨w.heap.size + 1 + 1, 0, none⟩ = false := fcell_keep HC5 (by omega) f2
    have g5 : w5.frozen? ⟨w.heap.size + 1 + 1 + 1, 0, none⟩ = false := fcell_keep HC5 (by omega) g2
    have l5 : w.heap.size + 1 + 1 + 1 < w5.heap.size := World.block_lt_of_cell? _ _ t5
    have kk5 : w.heap.size + 3 < w5.heap.size := by omega
    clear HC5 x2 y2 r2 t2 f2 g2 l2
    go_wp2_with fail
    have HZT := HT.out
    refine wp_region_held_drew (S := (fun w' => (w'.cell? ⟨ga, 0, none⟩ = some (.int .i64 q0) ∧ w'.cell? ⟨ga, 1, none⟩ = some (.int .i64 q1) ∧ w'.cell? ⟨ga, 2, none⟩ = some (.int .i64 q2) ∧ w'.cell? ⟨ga, 3, none⟩ = some (.int .i64 q3) ∧ w'.cell? ⟨ga, 4, none⟩ = some (.int .i64 q4) ∧ w'.cell? ⟨ga, 5, none⟩ = some (.int .i64 q5)) ∧ (w'.cell? ⟨gb, 0, none⟩ = some (.int .i64 u0) ∧ w'.cell? ⟨gb, 1, none⟩ = some (.int .i64 u1) ∧ w'.cell? ⟨gb, 2, none⟩ = some (.int .i64 u2) ∧ w'.cell? ⟨gb, 3, none⟩ = some (.int .i64 u3) ∧ w'.cell? ⟨gb, 4, none⟩ = some (.int .i64 u4) ∧ w'.cell? ⟨gb, 5, none⟩ = some (.int .i64 u5)))) (by kernel_rfl) ?_ (fun hHeld => ?_)
    · exact ⟨hca, hcb⟩
    refine takeB (i := 0) (oi := _) (v := ?_) (d := some 33) rfl (by kernel_rfl) (by kernel_rfl) (by kernel_rfl) (by kernel_rfl) (fun _ _ _ h => h) (Or.inl ⟨by rfl, ?_⟩) (by assumption) ?_
    rotate_left
    · (intro w hSw; (try dsimp only at hSw); go_simp <;> with_reducible rfl)
    try simp only [Act.put, List.setIfInBounds_toArray, List.set_cons_zero, List.set_cons_succ]
    refine takeB (i := 2) (oi := _) (v := ?_) (d := some 35) rfl (by kernel_rfl) (by kernel_rfl) (by kernel_rfl) (by kernel_rfl) (fun _ _ _ h => h) (Or.inl ⟨by rfl, ?_⟩) (by assumption) ?_
    rotate_left
    · (intro w hSw; (try dsimp only at hSw); go_simp <;> with_reducible rfl)
    try simp only [Act.put, List.setIfInBounds_toArray, List.set_cons_zero, List.set_cons_succ]
    refine wpAnyH_ready (rs := [1]) (by kernel_rfl) (by simp) ?_
    refine AllReadyH.cons (o := _) rfl (fun K hK => ?_) AllReadyH.nil
    go_simp
    go_at_call 30
    refine (bigFrom_c q0 q1 q2 q3 q4 q5 _ p (by rw [HZT.1]; exact HP.out)).mono ?_
    rw [HZT.1]
    rintro e w6 ⟨a6, c6, rfl, ho, hb0⟩
    have hb : Below w5.heap.size w5 w6 := (Below.refl _ _).drew.trans (hb0.mono (by first | exact Nat.le_refl _ | (simp; done)))
    have O6 : Hid (Own w6 w5.heap.size (.slice a6 p c6) zs) := by have h := ho; first | exact h | (simp at h; exact h)
    have I6 : Hid (∀ k, (Value.slice a6 p c6).ownBlock = some k → k < w6.heap.size) := fun k e => (World.ownsRow.lt O6.out k e).2
    have hca6 := hca.keep hb
    have hcb6 := hcb.keep hb
    have zz6 : w5.heap.size ≤ w6.heap.size := hb.size
    clear ho hb0
    have HB6 : Hid (Below w.heap.size w w6) := HB5.out.trans (hb.mono HB5.out.size)
    have r6 : w6.cell? ⟨w.heap.size + 1 + 1, 0, none⟩ = some (.slice none 0 0) := cell_keep (S := 0) hb r5
    have t6 : w6.cell? ⟨w.heap.size + 1 + 1 + 1, 0, none⟩ = some (.slice none 0 0) := cell_keep (S := 0) hb t5
    have f6 : w6.frozen? ⟨w.heap.size + 1 + 1, 0, none⟩ = false := fcell_keep hb (by omega) f5
    have g6 : w6.frozen? ⟨w.heap.size + 1 + 1 + 1, 0, none⟩ = false := fcell_keep hb (by omega) g5
    have l6 : w.heap.size + 1 + 1 + 1 < w6.heap.size := World.block_lt_of_cell? _ _ t6
    have kk6 : w.heap.size + 3 < w6.heap.size := by omega
    clear hb r5 t5 f5 g5 l5
    refine hK.out _ _ ?_ (fun hHeld => ?_)
    · exact ⟨hca6, hcb6⟩
    clear hK K
    try simp only [Act.put, List.setIfInBounds_toArray, List.set_cons_zero, List.set_cons_succ]
    refine wpAnyH_ready (rs := [3]) (by kernel_rfl) (by simp) ?_
    refine AllReadyH.cons (o := _) rfl (fun K hK => ?_) AllReadyH.nil
    go_simp
    go_at_call 30
    refine (bigFrom_c u0 u1 u2 u3 u4 u5 _ q (by rw [HZT.2]; exact HQ.out)).mono ?_
    rw [HZT.2]
    rintro e w7 ⟨a7, c7, rfl, ho, hb0⟩
    have hb : Below w6.heap.size w6 w7 := hb0
    have O7 : Hid (Own w7 w6.heap.size (.slice a7 q c7) us) := ho
    have P6 : Hid (Own w7 w5.heap.size (.slice a6 p c6) zs) := O6.out.later hb
    have hca7 := hca6.keep hb
    have hcb7 := hcb6.keep hb
    have zz7 : w6.heap.size ≤ w7.heap.size := hb.size
    clear ho
    have HB7 : Hid (Below w.heap.size w w7) := HB6.out.trans (hb.mono HB6.out.size)
    have r7 : w7.cell? ⟨w.heap.size + 1 + 1, 0, none⟩ = some (.slice none 0 0) := cell_keep (S := 0) hb r6
    have t7 : w7.cell? ⟨w.heap.size + 1 + 1 + 1, 0, none⟩ = some (.slice none 0 0) := cell_keep (S := 0) hb t6
    have f7 : w7.frozen? ⟨w.heap.size + 1 + 1, 0, none⟩ = false := fcell_keep hb (by omega) f6
    have g7 : w7.frozen? ⟨w.heap.size + 1 + 1 + 1, 0, none⟩ = false := fcell_keep hb (by omega) g6
    have l7 : w.heap.size + 1 + 1 + 1 < w7.heap.size := World.block_lt_of_cell? _ _ t7
    have kk7 : w.heap.size + 3 < w7.heap.size := by omega
    clear hb r6 t6 f6 g6 l6
    refine hK.out _ _ ?_ (fun hHeld => ?_)
    · exact ⟨hca7, hcb7⟩
    clear hK K
    try simp only [Act.put, List.setIfInBounds_toArray, List.set_cons_zero, List.set_cons_succ]
    have s8 : C6 (w7.setCell ⟨w.heap.size + 1 + 1, 0, none⟩ (.slice a6 p c6)) ga q0 q1 q2 q3 q4 q5 ∧ C6 (w7.setCell ⟨w.heap.size + 1 + 1, 0, none⟩ (.slice a6 p c6)) gb u0 u1 u2 u3 u4 u5 := ⟨c6_far hca7 (by omega), c6_far hcb7 (by omega)⟩
    have s9 : C6 ((w7.setCell ⟨w.heap.size + 1 + 1, 0, none⟩ (.slice a6 p c6)).setCell ⟨w.heap.size + 1 + 1 + 1, 0, none⟩ (.slice a7 q c7)) ga q0 q1 q2 q3 q4 q5 ∧ C6 ((w7.setCell ⟨w.heap.size + 1 + 1, 0, none⟩ (.slice a6 p c6)).setCell ⟨w.heap.size + 1 + 1 + 1, 0, none⟩ (.slice a7 q c7)) gb u0 u1 u2 u3 u4 u5 := ⟨c6_far s8.1 (by omega), c6_far s8.2 (by omega)⟩
    have t8 : (w7.setCell ⟨w.heap.size + 1 + 1, 0, none⟩ (.slice a6 p c6)).cell? ⟨w.heap.size + 1 + 1 + 1, 0, none⟩ = some (.slice none 0 0) := keep1 t7 (by omega)
    have g8 : (w7.setCell ⟨w.heap.size + 1 + 1, 0, none⟩ (.slice a6 p c6)).frozen? ⟨w.heap.size + 1 + 1 + 1, 0, none⟩ = false := by rw [World.frozen?_setCell]; exact g7
    refine wpAnyH_ready (rs := [4]) (by kernel_rfl) (by simp) ?_
    refine AllReadyH.cons (o := _) rfl (fun K hK => ?_) AllReadyH.nil
    go_simp
    refine hK.out _ _ ?_ (fun hHeld => ?_)
    · exact s8
    clear hK K
    try simp only [Act.put, List.setIfInBounds_toArray, List.set_cons_zero, List.set_cons_succ]
    refine wpAnyH_ready (rs := [5]) (by kernel_rfl) (by simp) ?_
    refine AllReadyH.cons (o := _) rfl (fun K hK => ?_) AllReadyH.nil
    go_simp
    refine hK.out _ _ ?_ (fun hHeld => ?_)
    · exact s9
    clear hK K
    try simp only [Act.put, List.setIfInBounds_toArray, List.set_cons_zero, List.set_cons_succ]
    refine takeB (i := 6) (oi := _) (v := ?_) (d := some 6) rfl (by kernel_rfl) (by kernel_rfl) (by kernel_rfl) (by kernel_rfl) (fun _ _ _ h => h) (Or.inl ⟨by rfl, ?_⟩) (by assumption) ?_
    rotate_left
    · (intro w hSw; (try dsimp only at hSw); go_simp <;> with_reducible rfl)
    try simp only [Act.put, List.setIfInBounds_toArray, List.set_cons_zero, List.set_cons_succ]
    refine wpAnyH_done (by kernel_rfl) ?_ _
    have rr : ((w7.setCell ⟨w.heap.size + 1 + 1, 0, none⟩ (.slice a6 p c6)).setCell ⟨w.heap.size + 1 + 1 + 1, 0, none⟩ (.slice a7 q c7)).cell? ⟨w.heap.size + 1 + 1, 0, none⟩ = some (.slice a6 p c6) := keep1 (rsame r7) (by omega)
    have tt : ((w7.setCell ⟨w.heap.size + 1 + 1, 0, none⟩ (.slice a6 p c6)).setCell ⟨w.heap.size + 1 + 1 + 1, 0, none⟩ (.slice a7 q c7)).cell? ⟨w.heap.size + 1 + 1 + 1, 0, none⟩ = some (.slice a7 q c7) := rsame t8
    have HB9 : Hid (Below w.heap.size w ((w7.setCell ⟨w.heap.size + 1 + 1, 0, none⟩ (.slice a6 p c6)).setCell ⟨w.heap.size + 1 + 1 + 1, 0, none⟩ (.slice a7 q c7))) := (HB7.out.setCell (by simp; omega) _).setCell (by simp; omega) _
    have Q1 : Hid (Own ((w7.setCell ⟨w.heap.size + 1 + 1, 0, none⟩ (.slice a6 p c6)).setCell ⟨w.heap.size + 1 + 1 + 1, 0, none⟩ (.slice a7 q c7)) w.heap.size (.slice a6 p c6) zs) := (own_set_below (own_set_below P6.out (by omega) _) (by omega) _).mono (by omega)
    have Q2 : Hid (Own ((w7.setCell ⟨w.heap.size + 1 + 1, 0, none⟩ (.slice a6 p c6)).setCell ⟨w.heap.size + 1 + 1 + 1, 0, none⟩ (.slice a7 q c7)) w6.heap.size (.slice a7 q c7) us) := own_set_below (own_set_below O7.out (by omega) _) (by omega) _
    clear s8 s9 t8 g8 hHeld HZT
    generalize ((w7.setCell ⟨w.heap.size + 1 + 1, 0, none⟩ (.slice a6 p c6)).setCell ⟨w.heap.size + 1 + 1 + 1, 0, none⟩ (.slice a7 q c7)) = w9 at rr tt HB9 Q1 Q2 ⊢
    go_wp2
    refine bodyPost_ret (v := .tuple #[.agg #[.slice a6 p c6], .agg #[.slice a7 q c7], .bool true]) (by simp [results, Tryd.results7, go_sem, rr, tt]) rfl ⟨a6, c6, a7, c7, w6.heap.size, rfl, Q1.out, Q2.out, ⟨by omega, I6.out⟩, HB9.out⟩

end Go.Proofs.YtaedplfihjfchaaDoor
