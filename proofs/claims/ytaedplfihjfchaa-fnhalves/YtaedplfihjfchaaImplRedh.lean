/- The program's ReduceBig. -/
import Derived.Test.YtaedplfihjfchaaSpecRedh
import Derived.Test.YtaedplfihjfchaaImplInvh
import Derived.Test.YtaedplfihjfchaaImplAdd3h
namespace Go.Proofs.Ytaedplfihjfchaa
set_option linter.unusedVariables false
set_option maxRecDepth 1000000
set_option linter.unusedSimpArgs false
open Go.RowKit
attribute [local go_sem ↓] Go.wp_at_zero Go.wp_at_succ

set_option maxHeartbeats 4000000 in
set_option maxRecDepth 1000000 in
theorem implRed_good (ao bo : Option Addr) (n m c d : Nat) (xs ys : List Int) (w : World) (hx : xs.length = n) (hy : ys.length = m) (hn : n ≤ 17592186044416) (hm : m ≤ 17592186044416) (hr : Rd w ao xs) (hs : Rd w bo ys) (zs : List Int) (fb : Bool) (p : Nat) (hF : redF xs ys = (zs, fb)) (hp : zs.length = p) (gx : goodB xs = true) (gy : goodB ys = true) :
    Calls Try.prog 11 #[.agg #[.slice ao n c], .agg #[.slice bo m d]] w fun e w' => ∃ a' c', e = .returned (.tuple #[.agg #[.slice a' p c'], .bool fb]) ∧ Own w' w.heap.size (.slice a' p c') zs ∧ Below w.heap.size w w' := by
  obtain ⟨lx, dx, _⟩ := goodB_digs gx
  obtain ⟨ly, dy, ty⟩ := goodB_digs gy
  obtain ⟨a0, a1, a2, a3, a4, a5, hA⟩ := list6 (pad6_length lx)
  have HA : Hid (pad6 xs = [a0, a1, a2, a3, a4, a5]) := hA
  have HDA : Hid (Digs [a0, a1, a2, a3, a4, a5] ∧ val [a0, a1, a2, a3, a4, a5] = val xs) := ⟨by rw [← hA]; exact pad6_digs dx, by rw [← hA, pad6_val]⟩
  have HX : Hid (xs.length = n) := hx
  have HY : Hid (ys.length = m) := hy
  have HR : Hid (Rd w ao xs) := hr
  have HS : Hid (Rd w bo ys) := hs
  have HP : Hid (zs.length = p) := hp
  have HGY : Hid (goodB ys = true) := gy
  have HB0 : Hid (Below w.heap.size w (((w.alloc (Obj.cells #[Value.slice ao n c] 25)).alloc (Obj.cells #[Value.slice bo m d] 25)).alloc (Obj.cells #[Value.slice none 0 0] 25))) := below_three w _ _ _
  have hn6 : n ≤ 6 := by rw [← hx]; exact lx
  rw [redF, gx, gy] at hF
  simp only [Bool.and_self, if_true] at hF
  clear hx hy hr hs hp hA lx dx
  by_cases hm1 : m ≠ 1
  · rw [if_neg (fun h => hm1 (HY.out.symm.trans h.1))] at hF
    have hm1' : ((m : Int) != 1) = true := by simp; omega
    have hm1'' : ¬ (m : Int) = 1 := by omega
    simp only [Prod.mk.injEq] at hF
    obtain ⟨rfl, rfl⟩ := hF
    have hp0 := HP.out
    simp at hp0
    subst hp0
    go_enter Try.func11, Try.ntmps11
    go_wp2_with fail
    refine (implGood_c ao n c xs _ HX.out hn (HR.out.later HB0.out)).mono ?_
    rw [gx]
    rintro e w1 ⟨rfl, hb⟩
    have HB1 : Hid (Below w.heap.size w w1) := HB0.out.trans (hb.mono (by simp; omega))
    have x1 : w1.cell? ⟨w.heap.size, 0, none⟩ = some (.slice ao n c) := cell_keep (S := 0) hb (calloc (calloc (by simp)))
    have y1 : w1.cell? ⟨w.heap.size + 1, 0, none⟩ = some (.slice bo m d) := cell_keep (S := 0) hb (calloc (by simp))
    have r1 : w1.cell? ⟨w.heap.size + 1 + 1, 0, none⟩ = some (.slice none 0 0) := cell_keep (S := 0) hb (by rw [World.cell?_alloc_at _ _ _ _ (by simp)]; rfl)
    have f1 : w1.frozen? ⟨w.heap.size + 1 + 1, 0, none⟩ = false := fcell_keep hb (by simp) (fz3 _ _ _ _ _ _ _)
    have l1 : w.heap.size + 1 + 1 < w1.heap.size := World.block_lt_of_cell? _ _ r1
    clear hb gx
    go_wp2_with fail
    refine (implGood_c _ _ d _ _ HY.out hm (HS.out.later HB1.out)).mono ?_
    rw [gy]
    rintro e w2 ⟨rfl, hb⟩
    have HB2 : Hid (Below w.heap.size w w2) := HB1.out.trans (hb.mono (HB1.out.size))
    have x2 : w2.cell? ⟨w.heap.size, 0, none⟩ = some (.slice ao n c) := cell_keep (S := 0) hb x1
    have y2 : w2.cell? ⟨w.heap.size + 1, 0, none⟩ = some (.slice bo m d) := cell_keep (S := 0) hb y1
    have r2 : w2.cell? ⟨w.heap.size + 1 + 1, 0, none⟩ = some (.slice none 0 0) := cell_keep (S := 0) hb r1
    have f2 : w2.frozen? ⟨w.heap.size + 1 + 1, 0, none⟩ = false := fcell_keep hb l1 f1
    have l2 : w.heap.size + 1 + 1 < w2.heap.size := World.block_lt_of_cell? _ _ r2
    clear hb gy x1 y1 r1 f1 l1
    go_wp2
    refine bodyPost_ret (v := .tuple #[.agg #[.slice none 0 0], .bool false]) (by simp [results, Try.results11, go_sem, r2]) rfl ⟨none, 0, rfl, World.ownsRow_nil _ _ _ _, ?_⟩
    exact HB2.out.setCell (by simp; omega) _
  obtain rfl : m = 1 := by omega
  clear hm1
  obtain ⟨P, hP⟩ : ∃ P, ys = [P] := by
    have h := HY.out
    match ys, h with
    | [P], _ => exact ⟨P, rfl⟩
  subst hP
  obtain ⟨P0, P1⟩ := dy.head
  have hP0 : P ≠ 0 := fun h => by subst h; simp [trim] at ty
  clear dy ty ly
  obtain ⟨b', o', hbo, hc'⟩ := HS.out.at HY.out (by omega)
  have hbw : b' < w.heap.size := World.block_lt_of_cell? _ _ (hc' 0 (by omega))
  have hcw := hc' 0 (by omega)
  subst hbo
  simp only [List.getD_cons_zero, Nat.add_zero] at hcw
  clear hc'
  by_cases h2 : P % 2 = 0
  · rw [if_neg (fun h => by have := h.2.1; simp only [List.getD_cons_zero] at this; omega)] at hF
    have h2' : (P.tmod 2 == 0) = true := by rw [Int.tmod_eq_emod_of_nonneg P0, h2]; rfl
    simp only [Prod.mk.injEq] at hF
    obtain ⟨rfl, rfl⟩ := hF
    have hp0 := HP.out
    simp at hp0
    subst hp0
    go_enter Try.func11, Try.ntmps11
    go_wp2_with fail
    refine (implGood_c ao n c xs _ HX.out hn (HR.out.later HB0.out)).mono ?_
    rw [gx]
    rintro e w1 ⟨rfl, hb⟩
    have HB1 : Hid (Below w.heap.size w w1) := HB0.out.trans (hb.mono (by simp; omega))
    have x1 : w1.cell? ⟨w.heap.size, 0, none⟩ = some (.slice ao n c) := cell_keep (S := 0) hb (calloc (calloc (by simp)))
    have y1 : w1.cell? ⟨w.heap.size + 1, 0, none⟩ = some (.slice (some ⟨b', o', none⟩) 1 d) := cell_keep (S := 0) hb (calloc (by simp))
    have r1 : w1.cell? ⟨w.heap.size + 1 + 1, 0, none⟩ = some (.slice none 0 0) := cell_keep (S := 0) hb (by rw [World.cell?_alloc_at _ _ _ _ (by simp)]; rfl)
    have f1 : w1.frozen? ⟨w.heap.size + 1 + 1, 0, none⟩ = false := fcell_keep hb (by simp) (fz3 _ _ _ _ _ _ _)
    have l1 : w.heap.size + 1 + 1 < w1.heap.size := World.block_lt_of_cell? _ _ r1
    clear hb gx
    go_wp2_with fail
    refine (implGood_c _ _ d _ _ HY.out hm (HS.out.later HB1.out)).mono ?_
    rw [gy]
    rintro e w2 ⟨rfl, hb⟩
    have HB2 : Hid (Below w.heap.size w w2) := HB1.out.trans (hb.mono (HB1.out.size))
    have x2 : w2.cell? ⟨w.heap.size, 0, none⟩ = some (.slice ao n c) := cell_keep (S := 0) hb x1
    have y2 : w2.cell? ⟨w.heap.size + 1, 0, none⟩ = some (.slice (some ⟨b', o', none⟩) 1 d) := cell_keep (S := 0) hb y1
    have r2 : w2.cell? ⟨w.heap.size + 1 + 1, 0, none⟩ = some (.slice none 0 0) := cell_keep (S := 0) hb r1
    have f2 : w2.frozen? ⟨w.heap.size + 1 + 1, 0, none⟩ = false := fcell_keep hb l1 f1
    have l2 : w.heap.size + 1 + 1 < w2.heap.size := World.block_lt_of_cell? _ _ r2
    clear hb gy x1 y1 r1 f1 l1
    have g2 : w2.cell? ⟨b', o', none⟩ = some (.int .i64 P) := (HB2.out.cell (p := ⟨b', o', none⟩) hbw).trans hcw
    go_wp2_with fail
    refine (rowOf_d HA.out HX.out hn6 HR.out _ HB2.out).mono ?_
    rintro e w3 ⟨rfl, HB3, hb⟩
    have x3 : w3.cell? ⟨w.heap.size, 0, none⟩ = some (.slice ao n c) := cell_keep (S := 0) hb x2
    have y3 : w3.cell? ⟨w.heap.size + 1, 0, none⟩ = some (.slice (some ⟨b', o', none⟩) 1 d) := cell_keep (S := 0) hb y2
    have r3 : w3.cell? ⟨w.heap.size + 1 + 1, 0, none⟩ = some (.slice none 0 0) := cell_keep (S := 0) hb r2
    have g3 : w3.cell? ⟨b', o', none⟩ = some (.int .i64 P) := cell_keep (S := 0) hb g2
    have f3 : w3.frozen? ⟨w.heap.size + 1 + 1, 0, none⟩ = false := fcell_keep hb l2 f2
    have l3 : w.heap.size + 1 + 1 < w3.heap.size := World.block_lt_of_cell? _ _ r3
    clear hb x2 y2 r2 f2 l2 g2
    have rr : ((w3.setCell ⟨w.heap.size + 1 + 1, 0, none⟩ (.slice none 0 0)).alloc (Obj.cells #[.int .i64 a0, .int .i64 a1, .int .i64 a2, .int .i64 a3, .int .i64 a4, .int .i64 a5] 39)).cell? ⟨w.heap.size + 1 + 1, 0, none⟩ = some (.slice none 0 0) := calloc (rsame r3)
    go_wp2
    refine bodyPost_ret (v := .tuple #[.agg #[.slice none 0 0], .bool false]) (by simp [results, Try.results11, go_sem, rr]) rfl ⟨none, 0, rfl, World.ownsRow_nil _ _ _ _, ?_⟩
    repeat (first | with_reducible exact HB3.out | refine Below.alloc ?_ (by first | (simp; done) | (simp; omega)) _ | refine Below.setCell ?_ (by first | (simp; done) | (simp; omega)) _)
  have h2' : (P.tmod 2 == 0) = false := by rw [Int.tmod_eq_emod_of_nonneg P0]; simp; omega
  by_cases h3 : P = 1
  · rw [if_neg (fun h => h.2.2.1 (by simpa using h3))] at hF
    have h3' : (P == 1) = true := by rw [h3]; rfl
    simp only [Prod.mk.injEq] at hF
    obtain ⟨rfl, rfl⟩ := hF
    have hp0 := HP.out
    simp at hp0
    subst hp0
    go_enter Try.func11, Try.ntmps11
    go_wp2_with fail
    refine (implGood_c ao n c xs _ HX.out hn (HR.out.later HB0.out)).mono ?_
    rw [gx]
    rintro e w1 ⟨rfl, hb⟩
    have HB1 : Hid (Below w.heap.size w w1) := HB0.out.trans (hb.mono (by simp; omega))
    have x1 : w1.cell? ⟨w.heap.size, 0, none⟩ = some (.slice ao n c) := cell_keep (S := 0) hb (calloc (calloc (by simp)))
    have y1 : w1.cell? ⟨w.heap.size + 1, 0, none⟩ = some (.slice (some ⟨b', o', none⟩) 1 d) := cell_keep (S := 0) hb (calloc (by simp))
    have r1 : w1.cell? ⟨w.heap.size + 1 + 1, 0, none⟩ = some (.slice none 0 0) := cell_keep (S := 0) hb (by rw [World.cell?_alloc_at _ _ _ _ (by simp)]; rfl)
    have f1 : w1.frozen? ⟨w.heap.size + 1 + 1, 0, none⟩ = false := fcell_keep hb (by simp) (fz3 _ _ _ _ _ _ _)
    have l1 : w.heap.size + 1 + 1 < w1.heap.size := World.block_lt_of_cell? _ _ r1
    clear hb gx
    go_wp2_with fail
    refine (implGood_c _ _ d _ _ HY.out hm (HS.out.later HB1.out)).mono ?_
    rw [gy]
    rintro e w2 ⟨rfl, hb⟩
    have HB2 : Hid (Below w.heap.size w w2) := HB1.out.trans (hb.mono (HB1.out.size))
    have x2 : w2.cell? ⟨w.heap.size, 0, none⟩ = some (.slice ao n c) := cell_keep (S := 0) hb x1
    have y2 : w2.cell? ⟨w.heap.size + 1, 0, none⟩ = some (.slice (some ⟨b', o', none⟩) 1 d) := cell_keep (S := 0) hb y1
    have r2 : w2.cell? ⟨w.heap.size + 1 + 1, 0, none⟩ = some (.slice none 0 0) := cell_keep (S := 0) hb r1
    have f2 : w2.frozen? ⟨w.heap.size + 1 + 1, 0, none⟩ = false := fcell_keep hb l1 f1
    have l2 : w.heap.size + 1 + 1 < w2.heap.size := World.block_lt_of_cell? _ _ r2
    clear hb gy x1 y1 r1 f1 l1
    have g2 : w2.cell? ⟨b', o', none⟩ = some (.int .i64 P) := (HB2.out.cell (p := ⟨b', o', none⟩) hbw).trans hcw
    go_wp2_with fail
    refine (rowOf_d HA.out HX.out hn6 HR.out _ HB2.out).mono ?_
    rintro e w3 ⟨rfl, HB3, hb⟩
    have x3 : w3.cell? ⟨w.heap.size, 0, none⟩ = some (.slice ao n c) := cell_keep (S := 0) hb x2
    have y3 : w3.cell? ⟨w.heap.size + 1, 0, none⟩ = some (.slice (some ⟨b', o', none⟩) 1 d) := cell_keep (S := 0) hb y2
    have r3 : w3.cell? ⟨w.heap.size + 1 + 1, 0, none⟩ = some (.slice none 0 0) := cell_keep (S := 0) hb r2
    have g3 : w3.cell? ⟨b', o', none⟩ = some (.int .i64 P) := cell_keep (S := 0) hb g2
    have f3 : w3.frozen? ⟨w.heap.size + 1 + 1, 0, none⟩ = false := fcell_keep hb l2 f2
    have l3 : w.heap.size + 1 + 1 < w3.heap.size := World.block_lt_of_cell? _ _ r3
    clear hb x2 y2 r2 f2 l2 g2
    have rr : ((w3.setCell ⟨w.heap.size + 1 + 1, 0, none⟩ (.slice none 0 0)).alloc (Obj.cells #[.int .i64 a0, .int .i64 a1, .int .i64 a2, .int .i64 a3, .int .i64 a4, .int .i64 a5] 39)).cell? ⟨w.heap.size + 1 + 1, 0, none⟩ = some (.slice none 0 0) := calloc (rsame r3)
    go_wp2
    refine bodyPost_ret (v := .tuple #[.agg #[.slice none 0 0], .bool false]) (by simp [results, Try.results11, go_sem, rr]) rfl ⟨none, 0, rfl, World.ownsRow_nil _ _ _ _, ?_⟩
    repeat (first | with_reducible exact HB3.out | refine Below.alloc ?_ (by first | (simp; done) | (simp; omega)) _ | refine Below.setCell ?_ (by first | (simp; done) | (simp; omega)) _)
  have h3' : (P == 1) = false := by simp; omega
  have hvb : val [0, P, 0, 0, 0, 0] = 65536 * P := by simp [val]
  by_cases hlt : ¬ val xs < 65536 * P
  · rw [if_neg (fun h => hlt (by simpa using h.2.2.2))] at hF
    obtain ⟨cc, hcc⟩ : ∃ cc, cmpI (val xs) (65536 * P) = cc := ⟨_, rfl⟩
    have hc1 : (cc != -1) = true := by
      rw [← hcc]; unfold cmpI; rw [if_neg hlt]; split <;> rfl
    simp only [Prod.mk.injEq] at hF
    obtain ⟨rfl, rfl⟩ := hF
    have hp0 := HP.out
    simp at hp0
    subst hp0
    go_enter Try.func11, Try.ntmps11
    go_wp2_with fail
    refine (implGood_c ao n c xs _ HX.out hn (HR.out.later HB0.out)).mono ?_
    rw [gx]
    rintro e w1 ⟨rfl, hb⟩
    have HB1 : Hid (Below w.heap.size w w1) := HB0.out.trans (hb.mono (by simp; omega))
    have x1 : w1.cell? ⟨w.heap.size, 0, none⟩ = some (.slice ao n c) := cell_keep (S := 0) hb (calloc (calloc (by simp)))
    have y1 : w1.cell? ⟨w.heap.size + 1, 0, none⟩ = some (.slice (some ⟨b', o', none⟩) 1 d) := cell_keep (S := 0) hb (calloc (by simp))
    have r1 : w1.cell? ⟨w.heap.size + 1 + 1, 0, none⟩ = some (.slice none 0 0) := cell_keep (S := 0) hb (by rw [World.cell?_alloc_at _ _ _ _ (by simp)]; rfl)
    have f1 : w1.frozen? ⟨w.heap.size + 1 + 1, 0, none⟩ = false := fcell_keep hb (by simp) (fz3 _ _ _ _ _ _ _)
    have l1 : w.heap.size + 1 + 1 < w1.heap.size := World.block_lt_of_cell? _ _ r1
    clear hb gx
    go_wp2_with fail
    refine (implGood_c _ _ d _ _ HY.out hm (HS.out.later HB1.out)).mono ?_
    rw [gy]
    rintro e w2 ⟨rfl, hb⟩
    have HB2 : Hid (Below w.heap.size w w2) := HB1.out.trans (hb.mono (HB1.out.size))
    have x2 : w2.cell? ⟨w.heap.size, 0, none⟩ = some (.slice ao n c) := cell_keep (S := 0) hb x1
    have y2 : w2.cell? ⟨w.heap.size + 1, 0, none⟩ = some (.slice (some ⟨b', o', none⟩) 1 d) := cell_keep (S := 0) hb y1
    have r2 : w2.cell? ⟨w.heap.size + 1 + 1, 0, none⟩ = some (.slice none 0 0) := cell_keep (S := 0) hb r1
    have f2 : w2.frozen? ⟨w.heap.size + 1 + 1, 0, none⟩ = false := fcell_keep hb l1 f1
    have l2 : w.heap.size + 1 + 1 < w2.heap.size := World.block_lt_of_cell? _ _ r2
    clear hb gy x1 y1 r1 f1 l1
    have g2 : w2.cell? ⟨b', o', none⟩ = some (.int .i64 P) := (HB2.out.cell (p := ⟨b', o', none⟩) hbw).trans hcw
    go_wp2_with fail
    refine (rowOf_d HA.out HX.out hn6 HR.out _ HB2.out).mono ?_
    rintro e w3 ⟨rfl, HB3, hb⟩
    have x3 : w3.cell? ⟨w.heap.size, 0, none⟩ = some (.slice ao n c) := cell_keep (S := 0) hb x2
    have y3 : w3.cell? ⟨w.heap.size + 1, 0, none⟩ = some (.slice (some ⟨b', o', none⟩) 1 d) := cell_keep (S := 0) hb y2
    have r3 : w3.cell? ⟨w.heap.size + 1 + 1, 0, none⟩ = some (.slice none 0 0) := cell_keep (S := 0) hb r2
    have g3 : w3.cell? ⟨b', o', none⟩ = some (.int .i64 P) := cell_keep (S := 0) hb g2
    have f3 : w3.frozen? ⟨w.heap.size + 1 + 1, 0, none⟩ = false := fcell_keep hb l2 f2
    have l3 : w.heap.size + 1 + 1 < w3.heap.size := World.block_lt_of_cell? _ _ r3
    clear hb x2 y2 r2 f2 l2 g2
    go_wp2_with fail
    have hba : Below w3.heap.size w3 (w3.alloc (Obj.cells #[.int .i64 a0, .int .i64 a1, .int .i64 a2, .int .i64 a3, .int .i64 a4, .int .i64 a5] 39)) := (Below.refl _ _).alloc (Nat.le_refl _) _
    refine (compareRows_c a0 a1 a2 a3 a4 a5 0 P 0 0 0 0 _ HDA.out.1 (digs_cons (by omega) (by omega) (digs_cons P0 P1 (digs_replicate 4)))).mono ?_
    rw [HDA.out.2, hvb, hcc]
    rintro e w4 ⟨rfl, hb⟩
    have hbk := hba.trans (hb.mono (by simp))
    have HB4 : Hid (Below w.heap.size w w4) := HB3.out.trans (hbk.mono HB3.out.size)
    have r4 : w4.cell? ⟨w.heap.size + 1 + 1, 0, none⟩ = some (.slice none 0 0) := cell_keep (S := 0) hbk r3
    have f4 : w4.frozen? ⟨w.heap.size + 1 + 1, 0, none⟩ = false := fcell_keep hbk l3 f3
    have l4 : w.heap.size + 1 + 1 < w4.heap.size := World.block_lt_of_cell? _ _ r4
    clear hb hba hbk
    go_wp2
    refine bodyPost_ret (v := .tuple #[.agg #[.slice none 0 0], .bool false]) (by simp [results, Try.results11, go_sem, r4]) rfl ⟨none, 0, rfl, World.ownsRow_nil _ _ _ _, ?_⟩
    exact HB4.out.setCell (by simp; omega) _
  have hlt' : val xs < 65536 * P := by omega
  clear hlt
  rw [if_pos ⟨rfl, (by simp only [List.getD_cons_zero]; omega), (by simpa using h3), (by simpa using hlt')⟩] at hF
  simp only [Prod.mk.injEq, List.getD_cons_zero] at hF
  obtain ⟨hzs, rfl⟩ := hF
  have HZ : Hid (bigL (redS P (val xs) 16) = zs) := hzs
  clear hzs
  have hd := HDA.out.1
  have hvx := HDA.out.2
  have c0 := hd.head
  have c1 := hd.tail.head
  have c2 := hd.tail.tail.head
  have c3 := hd.tail.tail.tail.head
  have c4 := hd.tail.tail.tail.tail.head
  have c5 := hd.tail.tail.tail.tail.tail.head
  simp only [val] at hvx
  have hxv : a0 + a1 * 65536 = val xs := by omega
  have hres := red_same (p := P) (r0 := a0) (r1 := a1) (A := val xs) (by omega) (by omega) c0.1 c0.2 hxv (by omega) hlt'
  obtain ⟨I, hI⟩ : ∃ I, invB P = I := ⟨_, rfl⟩
  have hIb : 0 ≤ I ∧ I < 65536 := by rw [← hI]; exact invS_bd _ _
  obtain ⟨Q, hQ⟩ : ∃ Q, redQ P a0 = Q := ⟨_, rfl⟩
  have hQ2 : a0 * I % 65536 = Q := by rw [← hQ, ← hI]; rfl
  have hm1 := mul_bd c0.1 (show a0 ≤ 65535 by omega) hIb.1 (show I ≤ 65535 by omega)
  have hQb : 0 ≤ Q ∧ Q < 65536 := by omega
  have hm2 := mul_bd hQb.1 (show Q ≤ 65535 by omega) P0 (show P ≤ 65535 by omega)
  obtain ⟨T, hT⟩ : ∃ T, redT P a0 a1 = T := ⟨_, rfl⟩
  have hT2 : (val xs - Q * P).tdiv 65536 = T := by rw [← hxv, ← hT, ← hQ]; rfl
  rw [hT] at hres
  have HRES : Hid ((if T < 0 then T + P else T) = redS P (val xs) 16) := hres.2.2
  obtain ⟨t0, t1⟩ : -P < T ∧ T < P := ⟨hres.1, hres.2.1⟩
  have HI : Hid (invB P = I) := hI
  obtain ⟨A0, A1⟩ := c0
  obtain ⟨B0, B1⟩ := c1
  obtain ⟨m0, m1⟩ := hm1
  obtain ⟨m2, m3⟩ := hm2
  clear hd hvx c2 c3 c4 c5 hres hI hQ hT hIb hQb
  go_enter Try.func11, Try.ntmps11
  go_wp2_with fail
  refine (implGood_c ao n c xs _ HX.out hn (HR.out.later HB0.out)).mono ?_
  rw [gx]
  rintro e w1 ⟨rfl, hb⟩
  have HB1 : Hid (Below w.heap.size w w1) := HB0.out.trans (hb.mono (by simp; omega))
  have x1 : w1.cell? ⟨w.heap.size, 0, none⟩ = some (.slice ao n c) := cell_keep (S := 0) hb (calloc (calloc (by simp)))
  have y1 : w1.cell? ⟨w.heap.size + 1, 0, none⟩ = some (.slice (some ⟨b', o', none⟩) 1 d) := cell_keep (S := 0) hb (calloc (by simp))
  have r1 : w1.cell? ⟨w.heap.size + 1 + 1, 0, none⟩ = some (.slice none 0 0) := cell_keep (S := 0) hb (by rw [World.cell?_alloc_at _ _ _ _ (by simp)]; rfl)
  have f1 : w1.frozen? ⟨w.heap.size + 1 + 1, 0, none⟩ = false := fcell_keep hb (by simp) (fz3 _ _ _ _ _ _ _)
  have l1 : w.heap.size + 1 + 1 < w1.heap.size := World.block_lt_of_cell? _ _ r1
  clear hb gx
  go_wp2_with fail
  refine (implGood_c _ _ d _ _ HY.out hm (HS.out.later HB1.out)).mono ?_
  rw [gy]
  rintro e w2 ⟨rfl, hb⟩
  have HB2 : Hid (Below w.heap.size w w2) := HB1.out.trans (hb.mono (HB1.out.size))
  have x2 : w2.cell? ⟨w.heap.size, 0, none⟩ = some (.slice ao n c) := cell_keep (S := 0) hb x1
  have y2 : w2.cell? ⟨w.heap.size + 1, 0, none⟩ = some (.slice (some ⟨b', o', none⟩) 1 d) := cell_keep (S := 0) hb y1
  have r2 : w2.cell? ⟨w.heap.size + 1 + 1, 0, none⟩ = some (.slice none 0 0) := cell_keep (S := 0) hb r1
  have f2 : w2.frozen? ⟨w.heap.size + 1 + 1, 0, none⟩ = false := fcell_keep hb l1 f1
  have l2 : w.heap.size + 1 + 1 < w2.heap.size := World.block_lt_of_cell? _ _ r2
  clear hb gy x1 y1 r1 f1 l1
  have g2 : w2.cell? ⟨b', o', none⟩ = some (.int .i64 P) := (HB2.out.cell (p := ⟨b', o', none⟩) hbw).trans hcw
  go_wp2_with fail
  refine (rowOf_d HA.out HX.out hn6 HR.out _ HB2.out).mono ?_
  rintro e w3 ⟨rfl, HB3, hb⟩
  have x3 : w3.cell? ⟨w.heap.size, 0, none⟩ = some (.slice ao n c) := cell_keep (S := 0) hb x2
  have y3 : w3.cell? ⟨w.heap.size + 1, 0, none⟩ = some (.slice (some ⟨b', o', none⟩) 1 d) := cell_keep (S := 0) hb y2
  have r3 : w3.cell? ⟨w.heap.size + 1 + 1, 0, none⟩ = some (.slice none 0 0) := cell_keep (S := 0) hb r2
  have g3 : w3.cell? ⟨b', o', none⟩ = some (.int .i64 P) := cell_keep (S := 0) hb g2
  have f3 : w3.frozen? ⟨w.heap.size + 1 + 1, 0, none⟩ = false := fcell_keep hb l2 f2
  have l3 : w.heap.size + 1 + 1 < w3.heap.size := World.block_lt_of_cell? _ _ r3
  clear hb x2 y2 r2 f2 l2 g2
  go_wp2_with fail
  have hba : Below w3.heap.size w3 (w3.alloc (Obj.cells #[.int .i64 a0, .int .i64 a1, .int .i64 a2, .int .i64 a3, .int .i64 a4, .int .i64 a5] 39)) := (Below.refl _ _).alloc (Nat.le_refl _) _
  refine (compareRows_c a0 a1 a2 a3 a4 a5 0 P 0 0 0 0 _ HDA.out.1 (digs_cons (by omega) (by omega) (digs_cons P0 P1 (digs_replicate 4)))).mono ?_
  rw [HDA.out.2, hvb, cmpI_lt hlt']
  rintro e w4 ⟨rfl, hb⟩
  have hbk := hba.trans (hb.mono (by simp))
  have HB4 : Hid (Below w.heap.size w w4) := HB3.out.trans (hbk.mono HB3.out.size)
  have r4 : w4.cell? ⟨w.heap.size + 1 + 1, 0, none⟩ = some (.slice none 0 0) := cell_keep (S := 0) hbk r3
  have f4 : w4.frozen? ⟨w.heap.size + 1 + 1, 0, none⟩ = false := fcell_keep hbk l3 f3
  have l4 : w.heap.size + 1 + 1 < w4.heap.size := World.block_lt_of_cell? _ _ r4
  have hz3 : w3.heap.size < w4.heap.size := by have := hb.size; simp at this; omega
  have q0 : w4.cell? ⟨w3.heap.size, 0, none⟩ = some (.int .i64 a0) := cell_keep (S := 0) hb (by simp)
  have q1 : w4.cell? ⟨w3.heap.size, 1, none⟩ = some (.int .i64 a1) := cell_keep (S := 0) hb (by simp)
  clear hb hba hbk r3 x3 y3 g3 f3 l3
  go_wp2_with fail
  have k1 : IntKind.i64.wrap (a0 * I) = a0 * I := by rw [IntKind.wrap_i64]; omega
  have k2 : (a0 * I).tmod 65536 = Q := by rw [Int.tmod_eq_emod_of_nonneg m0]; exact hQ2
  have k3 : IntKind.i64.wrap (Q * P) = Q * P := by rw [IntKind.wrap_i64]; omega
  refine wp_region_held_drew (S := (fun w' => w'.cell? ⟨w3.heap.size, 0, none⟩ = some (.int .i64 a0) ∧ w'.cell? ⟨w3.heap.size, 1, none⟩ = some (.int .i64 a1))) (by kernel_rfl) ?_ (fun hHeld => ?_)
  · exact ⟨q0, q1⟩
  refine takeD (i := 0) (oi := _) (v := ?_) (d := some 46) rfl (by kernel_rfl) (by kernel_rfl) (by kernel_rfl) (by kernel_rfl) (fun _ _ _ h => h) (Or.inl ⟨by rfl, ?_⟩) (by assumption) ?_
  rotate_left
  · (intro w hSw; (try dsimp only at hSw); go_simp <;> with_reducible rfl)
  try simp only [Act.put, List.setIfInBounds_toArray, List.set_cons_zero, List.set_cons_succ]
  refine takeD (i := 1) (oi := _) (v := ?_) (d := some 47) rfl (by kernel_rfl) (by kernel_rfl) (by kernel_rfl) (by kernel_rfl) (fun _ _ _ h => h) (Or.inl ⟨by rfl, ?_⟩) (by assumption) ?_
  rotate_left
  · (intro w hSw; (try dsimp only at hSw); go_simp <;> with_reducible rfl)
  try simp only [Act.put, List.setIfInBounds_toArray, List.set_cons_zero, List.set_cons_succ]
  refine takeD (i := 2) (oi := _) (v := ?_) (d := some 48) rfl (by kernel_rfl) (by kernel_rfl) (by kernel_rfl) (by kernel_rfl) (fun _ _ _ h => h) (Or.inl ⟨by rfl, ?_⟩) (by assumption) ?_
  rotate_left
  · (intro w hSw; (try dsimp only at hSw); go_simp <;> with_reducible rfl)
  try simp only [Act.put, List.setIfInBounds_toArray, List.set_cons_zero, List.set_cons_succ]
  refine wpAnyH_ready (rs := [3]) (by kernel_rfl) (by simp) ?_
  refine AllReadyH.cons (o := _) rfl (fun K hK => ?_) AllReadyH.nil
  go_simp
  go_at_call 38
  refine (inverseInBase_c P _ P0 P1).mono ?_
  rw [HI.out]
  rintro e w5 ⟨rfl, hb⟩
  have hbk : Below w4.heap.size w4 w5 := (Below.refl _ _).drew.trans (hb.mono (by first | exact Nat.le_refl _ | (simp; done)))
  have HB5 : Hid (Below w.heap.size w w5) := HB4.out.trans (hbk.mono HB4.out.size)
  have r5 : w5.cell? ⟨w.heap.size + 1 + 1, 0, none⟩ = some (.slice none 0 0) := cell_keep (S := 0) hbk r4
  have f5 : w5.frozen? ⟨w.heap.size + 1 + 1, 0, none⟩ = false := fcell_keep hbk l4 f4
  have p0 : w5.cell? ⟨w3.heap.size, 0, none⟩ = some (.int .i64 a0) := cell_keep (S := 0) hbk q0
  have p1 : w5.cell? ⟨w3.heap.size, 1, none⟩ = some (.int .i64 a1) := cell_keep (S := 0) hbk q1
  clear hb hbk
  refine hK.out _ _ ?_ (fun hHeld => ?_)
  · exact ⟨p0, p1⟩
  clear hK K
  try simp only [Act.put, List.setIfInBounds_toArray, List.set_cons_zero, List.set_cons_succ]
  refine takeD (i := 4) (oi := _) (v := ?_) (d := some 50) rfl (by kernel_rfl) (by kernel_rfl) (by kernel_rfl) (by kernel_rfl) (fun _ _ _ h => h) (Or.inl ⟨by rfl, ?_⟩) (by assumption) ?_
  rotate_left
  · (intro w hSw; (try dsimp only at hSw); go_simp <;> with_reducible rfl)
  try simp only [Act.put, List.setIfInBounds_toArray, List.set_cons_zero, List.set_cons_succ]
  refine takeD (i := 5) (oi := _) (v := ?_) (d := some 51) rfl (by kernel_rfl) (by kernel_rfl) (by kernel_rfl) (by kernel_rfl) (fun _ _ _ h => h) (Or.inl ⟨by rfl, ?_⟩) (by assumption) ?_
  rotate_left
  · (intro w hSw; (try dsimp only at hSw); go_simp <;> with_reducible rfl)
  try simp only [Act.put, List.setIfInBounds_toArray, List.set_cons_zero, List.set_cons_succ]
  refine takeD (i := 6) (oi := _) (v := ?_) (d := some 8) rfl (by kernel_rfl) (by kernel_rfl) (by kernel_rfl) (by kernel_rfl) (fun _ _ _ h => h) (Or.inl ⟨by rfl, ?_⟩) (by assumption) ?_
  rotate_left
  · (intro w hSw; (try dsimp only at hSw); go_simp <;> with_reducible rfl)
  try simp only [Act.put, List.setIfInBounds_toArray, List.set_cons_zero, List.set_cons_succ]
  refine wpAnyH_done (by kernel_rfl) ?_ _
  clear hHeld
  have l5 : w.heap.size + 1 + 1 < w5.heap.size := World.block_lt_of_cell? _ _ r5
  by_cases hneg : T < 0
  · have hneg' : decide (T < 0) = true := decide_eq_true hneg
    obtain ⟨N, hN⟩ : ∃ N, T + P = N := ⟨_, rfl⟩
    have HN : Hid (T + P = N) := hN
    have hof : Hid (ofF N = (zs, true)) := by
      show _ = _
      rw [ofF_pos (by omega) (by omega), ← HZ.out, ← HRES.out]
      rw [if_pos hneg, hN]
    have hNb : -9223372036854775808 ≤ N ∧ N ≤ 9223372036854775807 := by omega
    clear hN
    go_wp2_with fail
    try rw [HN.out]
    refine (implOf_c N _ hNb zs true p hof.out HP.out).mono ?_
    rintro e w6 ⟨a7, c7, rfl, ho, hb⟩
    have HB6 : Hid (Below w.heap.size w w6) := HB5.out.trans (hb.mono HB5.out.size)
    have r6 : w6.cell? ⟨w.heap.size + 1 + 1, 0, none⟩ = some (.slice none 0 0) := cell_keep (S := 0) hb r5
    have f6 : w6.frozen? ⟨w.heap.size + 1 + 1, 0, none⟩ = false := fcell_keep hb l5 f5
    have O7 : Hid (Own w6 w5.heap.size (.slice a7 p c7) zs) := ho
    clear hb ho r5 f5
    go_wp2
    refine bodyPost_ret (v := .tuple #[.agg #[.slice a7 p c7], .bool true]) (by simp [results, Try.results11, go_sem, r6]) rfl ⟨a7, c7, rfl, ?_, ?_⟩
    · exact (own_set_below O7.out (by omega) _).mono (by omega)
    · exact HB6.out.setCell (by simp; omega) _
  · have hneg' : decide (T < 0) = false := decide_eq_false hneg
    obtain ⟨N, hN⟩ : ∃ N, T = N := ⟨_, rfl⟩
    have HN : Hid (T = N) := hN
    have hof : Hid (ofF N = (zs, true)) := by
      show _ = _
      rw [ofF_pos (by omega) (by omega), ← HZ.out, ← HRES.out]
      rw [if_neg hneg, hN]
    have hNb : -9223372036854775808 ≤ N ∧ N ≤ 9223372036854775807 := by omega
    clear hN
    go_wp2_with fail
    try rw [HN.out]
    refine (implOf_c N _ hNb zs true p hof.out HP.out).mono ?_
    rintro e w6 ⟨a7, c7, rfl, ho, hb⟩
    have HB6 : Hid (Below w.heap.size w w6) := HB5.out.trans (hb.mono HB5.out.size)
    have r6 : w6.cell? ⟨w.heap.size + 1 + 1, 0, none⟩ = some (.slice none 0 0) := cell_keep (S := 0) hb r5
    have f6 : w6.frozen? ⟨w.heap.size + 1 + 1, 0, none⟩ = false := fcell_keep hb l5 f5
    have O7 : Hid (Own w6 w5.heap.size (.slice a7 p c7) zs) := ho
    clear hb ho r5 f5
    go_wp2
    refine bodyPost_ret (v := .tuple #[.agg #[.slice a7 p c7], .bool true]) (by simp [results, Try.results11, go_sem, r6]) rfl ⟨a7, c7, rfl, ?_, ?_⟩
    · exact (own_set_below O7.out (by omega) _).mono (by omega)
    · exact HB6.out.setCell (by simp; omega) _

end Go.Proofs.Ytaedplfihjfchaa
