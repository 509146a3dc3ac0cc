/- The contract of the program's AddBig. -/
import Derived.Test.YtaedplfihjfchaaDoorImplBigl
namespace Go.Proofs.YtaedplfihjfchaaDoor
set_option linter.unusedVariables false
set_option maxRecDepth 1000000
set_option linter.unusedSimpArgs false
open Go.RowKit
attribute [local go_sem ↓] Go.wp_at_zero Go.wp_at_succ

theorem rowOf_d {ao : Option Addr} {n c : Nat} {xs : List Int} {w : World} {a0 a1 a2 a3 a4 a5 : Int} (h6 : pad6 xs = [a0, a1, a2, a3, a4, a5]) (hx : xs.length = n) (hn : n ≤ 6) (hr : Rd w ao xs) (W : World) (hB : Below w.heap.size w W) :
    Calls Tryd.prog 29 #[.agg #[.slice ao n c]] W fun e w' => e = .returned (.agg #[.int .i64 a0, .int .i64 a1, .int .i64 a2, .int .i64 a3, .int .i64 a4, .int .i64 a5]) ∧ Hid (Below w.heap.size w w') ∧ Below W.heap.size W w' := by
  refine (rowOf_c ao n c xs W hx hn (hr.later hB)).mono ?_
  rintro e w' ⟨b0, b1, b2, b3, b4, b5, rfl, hh, hb⟩
  have := h6.symm.trans hh
  simp only [List.cons.injEq, and_true] at this
  obtain ⟨rfl, rfl, rfl, rfl, rfl, rfl⟩ := this
  exact ⟨rfl, hB.trans (hb.mono hB.size), hb⟩

theorem addRows_d {a0 a1 a2 a3 a4 a5 b0 b1 b2 b3 b4 b5 r0 r1 r2 r3 r4 r5 cy : Int} {w : World} (da : Digs [a0, a1, a2, a3, a4, a5]) (db : Digs [b0, b1, b2, b3, b4, b5]) (he : addC [a0, a1, a2, a3, a4, a5] [b0, b1, b2, b3, b4, b5] 0 = ([r0, r1, r2, r3, r4, r5], cy)) (W : World) (hB : Below w.heap.size w W) :
    Calls Tryd.prog 28 #[.agg #[.int .i64 a0, .int .i64 a1, .int .i64 a2, .int .i64 a3, .int .i64 a4, .int .i64 a5], .agg #[.int .i64 b0, .int .i64 b1, .int .i64 b2, .int .i64 b3, .int .i64 b4, .int .i64 b5]] W fun e w' =>
      e = .returned (.tuple #[.agg #[.int .i64 r0, .int .i64 r1, .int .i64 r2, .int .i64 r3, .int .i64 r4, .int .i64 r5], .int .i64 cy]) ∧ Hid (Below w.heap.size w w') ∧ Below W.heap.size W w' := by
  refine (addRows_c a0 a1 a2 a3 a4 a5 b0 b1 b2 b3 b4 b5 W da db).mono ?_
  rintro e w' ⟨s0, s1, s2, s3, s4, s5, cy', rfl, hh, hb⟩
  have := he.symm.trans hh
  simp only [Prod.mk.injEq, List.cons.injEq, and_true] at this
  obtain ⟨⟨rfl, rfl, rfl, rfl, rfl, rfl⟩, rfl⟩ := this
  exact ⟨rfl, hB.trans (hb.mono hB.size), hb⟩

theorem falloc {w : World} {g o : Nat} {b : Bool} {O : Obj} (h : w.frozen? ⟨g, o, none⟩ = b) (hg : g < w.heap.size) : (w.alloc O).frozen? ⟨g, o, none⟩ = b := by
  rw [World.frozen?_alloc_past _ _ _ hg]; exact h

theorem rsame {w : World} {a : Addr} {u v : Value} (h : w.cell? a = some u) : (w.setCell a v).cell? a = some v := World.cell?_setCell_same _ _ _ h

theorem keep1 {w : World} {g h o j : Nat} {v u : Value} (hc : w.cell? ⟨g, o, none⟩ = some v) (hne : g ≠ h) : (w.setCell ⟨h, j, none⟩ u).cell? ⟨g, o, none⟩ = some v := by
  rw [World.cell?_setCell_other _ _ _ _ (by intro e; simp only [Addr.mk.injEq] at e; omega)]; exact hc

theorem keep6 {w : World} {g h o : Nat} {v v0 v1 v2 v3 v4 v5 : Value} (hc : w.cell? ⟨g, o, none⟩ = some v) (hne : g ≠ h) :
    ((((((w.setCell ⟨h, 0, none⟩ v0).setCell ⟨h, 1, none⟩ v1).setCell ⟨h, 2, none⟩ v2).setCell ⟨h, 3, none⟩ v3).setCell ⟨h, 4, none⟩ v4).setCell ⟨h, 5, none⟩ v5).cell? ⟨g, o, none⟩ = some v :=
  keep1 (keep1 (keep1 (keep1 (keep1 (keep1 hc hne) hne) hne) hne) hne) hne

/-- What AddBig comes to, in the rows' words. -/
theorem addF_rows {xs ys : List Int} (gx : goodB xs = true) (gy : goodB ys = true) :
    addF xs ys = if (addC (pad6 xs) (pad6 ys) 0).2 = 0 then (trim (addC (pad6 xs) (pad6 ys) 0).1, true) else ([], false) := by
  obtain ⟨lx, dx, _⟩ := goodB_digs gx
  obtain ⟨ly, dy, _⟩ := goodB_digs gy
  obtain ⟨h1, h2, h3, h4, h5⟩ := addC_spec (xs := pad6 xs) (ys := pad6 ys) 0 ((pad6_length lx).trans (pad6_length ly).symm) (pad6_digs dx) (pad6_digs dy) (by omega) (by omega)
  rw [pad6_length lx] at h3
  rw [val_snoc6 h3, pad6_val, pad6_val] at h1
  have hv := val_lt6 h2 (by omega)
  have hv0 := val_nonneg h2
  rw [addF, gx, gy]
  simp only [Bool.and_self, if_true]
  by_cases hc : (addC (pad6 xs) (pad6 ys) 0).2 = 0
  · rw [if_pos hc]
    rw [hc] at h1
    rw [tellF_good (by omega), trim_bigL h2, show val xs + val ys = val (addC (pad6 xs) (pad6 ys) 0).1 by omega]
  · rw [if_neg hc]
    rw [tellF_bad (by omega)]

set_option maxHeartbeats 4000000 in
theorem implAdd_good (ao bo : Option Addr) (n m c d : Nat) (xs ys : List Int) (w : World) (hx : xs.length = n) (hy : ys.length = m) (hn : n ≤ 17592186044416) (hm : m ≤ 17592186044416) (hr : Rd w ao xs) (hs : Rd w bo ys) (zs : List Int) (fb : Bool) (p : Nat) (hF : addF xs ys = (zs, fb)) (hp : zs.length = p) (gx : goodB xs = true) (gy : goodB ys = true) :
    Calls Tryd.prog 5 #[.agg #[.slice ao n c], .agg #[.slice bo m d]] w fun e w' => ∃ a' c', e = .returned (.tuple #[.agg #[.slice a' p c'], .bool fb]) ∧ Own w' w.heap.size (.slice a' p c') zs ∧ Below w.heap.size w w' := by
  have hF2 := addF_rows gx gy
  rw [hF] at hF2
  obtain ⟨lx, dx, _⟩ := goodB_digs gx
  obtain ⟨ly, dy, _⟩ := goodB_digs gy
  obtain ⟨a0, a1, a2, a3, a4, a5, hA⟩ := list6 (pad6_length lx)
  obtain ⟨b0, b1, b2, b3, b4, b5, hBB⟩ := list6 (pad6_length ly)
  have hsp := addC_spec (xs := pad6 xs) (ys := pad6 ys) 0 ((pad6_length lx).trans (pad6_length ly).symm) (pad6_digs dx) (pad6_digs dy) (by omega) (by omega)
  obtain ⟨r0, r1, r2, r3, r4, r5, hRR⟩ := list6 (L := (addC (pad6 xs) (pad6 ys) 0).1) (by rw [hsp.2.2.1, pad6_length lx])
  obtain ⟨cy, hcy⟩ : ∃ cy, (addC (pad6 xs) (pad6 ys) 0).2 = cy := ⟨_, rfl⟩
  rw [hcy, hRR] at hF2
  have HA : Hid (pad6 xs = [a0, a1, a2, a3, a4, a5]) := hA
  have HBB : Hid (pad6 ys = [b0, b1, b2, b3, b4, b5]) := hBB
  have HDA : Hid (Digs [a0, a1, a2, a3, a4, a5] ∧ Digs [b0, b1, b2, b3, b4, b5]) := ⟨by rw [← hA]; exact pad6_digs dx, by rw [← hBB]; exact pad6_digs dy⟩
  have HE : Hid (addC [a0, a1, a2, a3, a4, a5] [b0, b1, b2, b3, b4, b5] 0 = ([r0, r1, r2, r3, r4, r5], cy)) := by
    show _ = _
    rw [← hA, ← hBB, ← hRR, ← hcy]
  have HX : Hid (xs.length = n) := hx
  have HY : Hid (ys.length = m) := hy
  have HR : Hid (Rd w ao xs) := hr
  have HS : Hid (Rd w bo ys) := hs
  have HP : Hid (zs.length = p) := hp
  have hn6 : n ≤ 6 := by rw [← hx]; exact lx
  have hm6 : m ≤ 6 := by rw [← hy]; exact ly
  have HB0 : Hid (Below w.heap.size w (((w.alloc (Obj.cells #[Value.slice ao n c] 25)).alloc (Obj.cells #[Value.slice bo m d] 25)).alloc (Obj.cells #[Value.slice none 0 0] 25))) := below_three w _ _ _
  clear hx hy hr hs hp hF hA hBB hsp hRR hcy lx ly dx dy
  by_cases hc0 : cy = 0
  · subst hc0
    simp only [if_true, Prod.mk.injEq] at hF2
    obtain ⟨hz, rfl⟩ := hF2
    have HZ : Hid (zs = trim [r0, r1, r2, r3, r4, r5]) := hz
    clear hz
    go_enter Tryd.func5, Tryd.ntmps5
    go_wp2_with fail
    refine (implGood_c ao n c xs _ HX.out hn (HR.out.later HB0.out)).mono ?_
    rw [gx]
    rintro e w1 ⟨rfl, hb⟩
    have HB1 : Hid (Below w.heap.size w w1) := HB0.out.trans (hb.mono (by simp; omega))
    have x1 : w1.cell? ⟨w.heap.size, 0, none⟩ = some (.slice ao n c) := cell_keep (S := 0) hb (calloc (calloc (by simp)))
    have y1 : w1.cell? ⟨w.heap.size + 1, 0, none⟩ = some (.slice bo m d) := cell_keep (S := 0) hb (calloc (by simp))
    have t1 : w1.cell? ⟨w.heap.size + 1 + 1, 0, none⟩ = some (.slice none 0 0) := cell_keep (S := 0) hb (by rw [World.cell?_alloc_at _ _ _ _ (by simp)]; rfl)
    have f1 : w1.frozen? ⟨w.heap.size + 1 + 1, 0, none⟩ = false := fcell_keep hb (by simp) (fz3 _ _ _ _ _ _ _)
    have l1 : w.heap.size + 1 + 1 < w1.heap.size := World.block_lt_of_cell? _ _ t1
    clear hb gx
    go_wp2_with fail
    refine (implGood_c bo m d ys _ HY.out hm (HS.out.later HB1.out)).mono ?_
    rw [gy]
    rintro e w2 ⟨rfl, hb⟩
    have HB2 : Hid (Below w.heap.size w w2) := HB1.out.trans (hb.mono (HB1.out.size))
    have x2 : w2.cell? ⟨w.heap.size, 0, none⟩ = some (.slice ao n c) := cell_keep (S := 0) hb x1
    have y2 : w2.cell? ⟨w.heap.size + 1, 0, none⟩ = some (.slice bo m d) := cell_keep (S := 0) hb y1
    have t2 : w2.cell? ⟨w.heap.size + 1 + 1, 0, none⟩ = some (.slice none 0 0) := cell_keep (S := 0) hb t1
    have f2 : w2.frozen? ⟨w.heap.size + 1 + 1, 0, none⟩ = false := fcell_keep hb l1 f1
    have l2 : w.heap.size + 1 + 1 < w2.heap.size := World.block_lt_of_cell? _ _ t2
    clear hb gy x1 y1 t1 f1 l1
    go_wp2_with fail
    have tok1 : True := trivial
    go_region_held3 (fun w' => w'.cell? ⟨w.heap.size, 0, none⟩ = some (.slice ao n c) ∧ w'.cell? ⟨w.heap.size + 1, 0, none⟩ = some (.slice bo m d)) (first | go_keep | exact ⟨keep6 x5 (by omega), keep6 y5 (by omega)⟩) (first
      | (go_at_call 29; have _t := tok1; refine (rowOf_d HA.out HX.out hn6 HR.out _ (by repeat (first | exact HB2.out | refine Below.drew ?_ | refine Below.alloc ?_ (by first | omega | (simp; omega)) _))).mono ?_; rintro e w3 ⟨rfl, HB3, hb3⟩; clear tok1 _t; have x3 : w3.cell? ⟨w.heap.size, 0, none⟩ = some (.slice ao n c) := cell_keep (S := 0) hb3 (by first | exact x2 | exact calloc x2); have y3 : w3.cell? ⟨w.heap.size + 1, 0, none⟩ = some (.slice bo m d) := cell_keep (S := 0) hb3 (by first | exact y2 | exact calloc y2); have t3 : w3.cell? ⟨w.heap.size + 1 + 1, 0, none⟩ = some (.slice none 0 0) := cell_keep (S := 0) hb3 (by first | exact t2 | exact calloc t2); have l3 : w.heap.size + 1 + 1 < w3.heap.size := World.block_lt_of_cell? _ _ t3; have f3 : w3.frozen? ⟨w.heap.size + 1 + 1, 0, none⟩ = false := fcell_keep hb3 (by first | exact l2 | (simp; omega)) (by first | exact f2 | exact falloc f2 l2); obtain ⟨hc3, hf3⟩ := bcell hb3; have z3 := hb3.size; (try simp at hc3); (try simp at hf3); (try simp at z3); (try (have zz23 : w2.heap.size < w3.heap.size := by omega)); clear hb3)
      | (go_at_call 29; refine (rowOf_d HBB.out HY.out hm6 HS.out _ (by repeat (first | exact HB3.out | refine Below.drew ?_ | refine Below.alloc ?_ (by first | omega | (simp; omega)) _))).mono ?_; rintro e w4 ⟨rfl, HB4, hb4⟩; have x4 : w4.cell? ⟨w.heap.size, 0, none⟩ = some (.slice ao n c) := cell_keep (S := 0) hb4 (by first | exact x3 | exact calloc x3); have y4 : w4.cell? ⟨w.heap.size + 1, 0, none⟩ = some (.slice bo m d) := cell_keep (S := 0) hb4 (by first | exact y3 | exact calloc y3); have t4 : w4.cell? ⟨w.heap.size + 1 + 1, 0, none⟩ = some (.slice none 0 0) := cell_keep (S := 0) hb4 (by first | exact t3 | exact calloc t3); have l4 : w.heap.size + 1 + 1 < w4.heap.size := World.block_lt_of_cell? _ _ t4; have f4 : w4.frozen? ⟨w.heap.size + 1 + 1, 0, none⟩ = false := fcell_keep hb4 (by first | exact l3 | (simp; omega)) (by first | exact f3 | exact falloc f3 l3); obtain ⟨hc4, hf4⟩ := bcell hb4; have z4 := hb4.size; (try simp at hc4); (try simp at hf4); (try simp at z4); (try (have zz24 : w2.heap.size < w4.heap.size := by omega)); (try (have zz34 : w3.heap.size < w4.heap.size := by omega)); clear hb4)
      | (go_at_call 28; refine (addRows_d (w := w) HDA.out.1 HDA.out.2 HE.out _ (by repeat (first | exact HB4.out | refine Below.drew ?_ | refine Below.alloc ?_ (by first | omega | (simp; omega)) _))).mono ?_; rintro e w5 ⟨rfl, HB5, hb5⟩; have x5 : w5.cell? ⟨w.heap.size, 0, none⟩ = some (.slice ao n c) := cell_keep (S := 0) hb5 (by first | exact x4 | exact calloc x4); have y5 : w5.cell? ⟨w.heap.size + 1, 0, none⟩ = some (.slice bo m d) := cell_keep (S := 0) hb5 (by first | exact y4 | exact calloc y4); have t5 : w5.cell? ⟨w.heap.size + 1 + 1, 0, none⟩ = some (.slice none 0 0) := cell_keep (S := 0) hb5 (by first | exact t4 | exact calloc t4); have l5 : w.heap.size + 1 + 1 < w5.heap.size := World.block_lt_of_cell? _ _ t5; have f5 : w5.frozen? ⟨w.heap.size + 1 + 1, 0, none⟩ = false := fcell_keep hb5 (by first | exact l4 | (simp; omega)) (by first | exact f4 | exact falloc f4 l4); obtain ⟨hc5, hf5⟩ := bcell hb5; have z5 := hb5.size; (try simp at hc5); (try simp at hf5); (try simp at z5); (try (have zz25 : w2.heap.size < w5.heap.size := by omega)); (try (have zz35 : w3.heap.size < w5.heap.size := by omega)); (try (have zz45 : w4.heap.size < w5.heap.size := by omega)); clear hb5))
    all_goals go_wp2_with fail
    all_goals refine (bigFrom_c r0 r1 r2 r3 r4 r5 _ p (by rw [← HZ.out]; exact HP.out)).mono ?_
    all_goals rw [← HZ.out]
    all_goals rintro e w6 ⟨a', c', rfl, ho, hb⟩
    all_goals have t6 : w6.cell? ⟨w.heap.size + 1 + 1, 0, none⟩ = some (.slice none 0 0) := cell_keep (S := 0) hb (by first | with_reducible exact keep6 t5 (by omega) | with_reducible exact calloc t5)
    all_goals have f6 : w6.frozen? ⟨w.heap.size + 1 + 1, 0, none⟩ = false := fcell_keep hb (by simp; omega) (by first | with_reducible exact falloc f5 l5 | (simp only [World.frozen?_setCell]; exact f5))
    all_goals have HBx : Hid (Below w.heap.size w w6) := Below.trans (by first | with_reducible exact below_set6 HB5.out (by omega) | with_reducible exact HB5.out.alloc (by omega) _) (hb.mono (by simp; omega))
    all_goals have HO6 : Hid (Own w6 (w.heap.size + 3) (.slice a' p c') zs) := ho.mono (by simp; omega)
    all_goals clear hb ho
    all_goals go_wp2
    all_goals refine bodyPost_ret (v := .tuple #[.agg #[.slice a' p c'], .bool true]) (by simp [results, Tryd.results5, go_sem, t6]) rfl ⟨a', c', rfl, ?_, HBx.out.setCell (by simp; omega) _⟩
    all_goals exact (own_set_below HO6.out (by omega) _).mono (by omega)
  · rw [if_neg hc0] at hF2
    simp only [Prod.mk.injEq] at hF2
    obtain ⟨rfl, rfl⟩ := hF2
    have hp0 := HP.out
    simp at hp0
    subst hp0
    have hcb : (cy != 0) = true := by simpa using hc0
    clear hc0
    go_enter Tryd.func5, Tryd.ntmps5
    go_wp2_with fail
    refine (implGood_c ao n c xs _ HX.out hn (HR.out.later HB0.out)).mono ?_
    rw [gx]
    rintro e w1 ⟨rfl, hb⟩
    have HB1 : Hid (Below w.heap.size w w1) := HB0.out.trans (hb.mono (by simp; omega))
    have x1 : w1.cell? ⟨w.heap.size, 0, none⟩ = some (.slice ao n c) := cell_keep (S := 0) hb (calloc (calloc (by simp)))
    have y1 : w1.cell? ⟨w.heap.size + 1, 0, none⟩ = some (.slice bo m d) := cell_keep (S := 0) hb (calloc (by simp))
    have t1 : w1.cell? ⟨w.heap.size + 1 + 1, 0, none⟩ = some (.slice none 0 0) := cell_keep (S := 0) hb (by rw [World.cell?_alloc_at _ _ _ _ (by simp)]; rfl)
    have f1 : w1.frozen? ⟨w.heap.size + 1 + 1, 0, none⟩ = false := fcell_keep hb (by simp) (fz3 _ _ _ _ _ _ _)
    have l1 : w.heap.size + 1 + 1 < w1.heap.size := World.block_lt_of_cell? _ _ t1
    clear hb gx
    go_wp2_with fail
    refine (implGood_c bo m d ys _ HY.out hm (HS.out.later HB1.out)).mono ?_
    rw [gy]
    rintro e w2 ⟨rfl, hb⟩
    have HB2 : Hid (Below w.heap.size w w2) := HB1.out.trans (hb.mono (HB1.out.size))
    have x2 : w2.cell? ⟨w.heap.size, 0, none⟩ = some (.slice ao n c) := cell_keep (S := 0) hb x1
    have y2 : w2.cell? ⟨w.heap.size + 1, 0, none⟩ = some (.slice bo m d) := cell_keep (S := 0) hb y1
    have t2 : w2.cell? ⟨w.heap.size + 1 + 1, 0, none⟩ = some (.slice none 0 0) := cell_keep (S := 0) hb t1
    have f2 : w2.frozen? ⟨w.heap.size + 1 + 1, 0, none⟩ = false := fcell_keep hb l1 f1
    have l2 : w.heap.size + 1 + 1 < w2.heap.size := World.block_lt_of_cell? _ _ t2
    clear hb gy x1 y1 t1 f1 l1
    go_wp2_with fail
    have tok1 : True := trivial
    go_region_held3 (fun w' => w'.cell? ⟨w.heap.size, 0, none⟩ = some (.slice ao n c) ∧ w'.cell? ⟨w.heap.size + 1, 0, none⟩ = some (.slice bo m d)) (first | go_keep | exact ⟨keep6 x5 (by omega), keep6 y5 (by omega)⟩) (first
      | (go_at_call 29; have _t := tok1; refine (rowOf_d HA.out HX.out hn6 HR.out _ (by repeat (first | exact HB2.out | refine Below.drew ?_ | refine Below.alloc ?_ (by first | omega | (simp; omega)) _))).mono ?_; rintro e w3 ⟨rfl, HB3, hb3⟩; clear tok1 _t; have x3 : w3.cell? ⟨w.heap.size, 0, none⟩ = some (.slice ao n c) := cell_keep (S := 0) hb3 (by first | exact x2 | exact calloc x2); have y3 : w3.cell? ⟨w.heap.size + 1, 0, none⟩ = some (.slice bo m d) := cell_keep (S := 0) hb3 (by first | exact y2 | exact calloc y2); have t3 : w3.cell? ⟨w.heap.size + 1 + 1, 0, none⟩ = some (.slice none 0 0) := cell_keep (S := 0) hb3 (by first | exact t2 | exact calloc t2); have l3 : w.heap.size + 1 + 1 < w3.heap.size := World.block_lt_of_cell? _ _ t3; have f3 : w3.frozen? ⟨w.heap.size + 1 + 1, 0, none⟩ = false := fcell_keep hb3 (by first | exact l2 | (simp; omega)) (by first | exact f2 | exact falloc f2 l2); obtain ⟨hc3, hf3⟩ := bcell hb3; have z3 := hb3.size; (try simp at hc3); (try simp at hf3); (try simp at z3); (try (have zz23 : w2.heap.size < w3.heap.size := by omega)); clear hb3)
      | (go_at_call 29; refine (rowOf_d HBB.out HY.out hm6 HS.out _ (by repeat (first | exact HB3.out | refine Below.drew ?_ | refine Below.alloc ?_ (by first | omega | (simp; omega)) _))).mono ?_; rintro e w4 ⟨rfl, HB4, hb4⟩; have x4 : w4.cell? ⟨w.heap.size, 0, none⟩ = some (.slice ao n c) := cell_keep (S := 0) hb4 (by first | exact x3 | exact calloc x3); have y4 : w4.cell? ⟨w.heap.size + 1, 0, none⟩ = some (.slice bo m d) := cell_keep (S := 0) hb4 (by first | exact y3 | exact calloc y3); have t4 : w4.cell? ⟨w.heap.size + 1 + 1, 0, none⟩ = some (.slice none 0 0) := cell_keep (S := 0) hb4 (by first | exact t3 | exact calloc t3); have l4 : w.heap.size + 1 + 1 < w4.heap.size := World.block_lt_of_cell? _ _ t4; have f4 : w4.frozen? ⟨w.heap.size + 1 + 1, 0, none⟩ = false := fcell_keep hb4 (by first | exact l3 | (simp; omega)) (by first | exact f3 | exact falloc f3 l3); obtain ⟨hc4, hf4⟩ := bcell hb4; have z4 := hb4.size; (try simp at hc4); (try simp at hf4); (try simp at z4); (try (have zz24 : w2.heap.size < w4.heap.size := by omega)); (try (have zz34 : w3.heap.size < w4.heap.size := by omega)); clear hb4)
      | (go_at_call 28; refine (addRows_d (w := w) HDA.out.1 HDA.out.2 HE.out _ (by repeat (first | exact HB4.out | refine Below.drew ?_ | refine Below.alloc ?_ (by first | omega | (simp; omega)) _))).mono ?_; rintro e w5 ⟨rfl, HB5, hb5⟩; have x5 : w5.cell? ⟨w.heap.size, 0, none⟩ = some (.slice ao n c) := cell_keep (S := 0) hb5 (by first | exact x4 | exact calloc x4); have y5 : w5.cell? ⟨w.heap.size + 1, 0, none⟩ = some (.slice bo m d) := cell_keep (S := 0) hb5 (by first | exact y4 | exact calloc y4); have t5 : w5.cell? ⟨w.heap.size + 1 + 1, 0, none⟩ = some (.slice none 0 0) := cell_keep (S := 0) hb5 (by first | exact t4 | exact calloc t4); have l5 : w.heap.size + 1 + 1 < w5.heap.size := World.block_lt_of_cell? _ _ t5; have f5 : w5.frozen? ⟨w.heap.size + 1 + 1, 0, none⟩ = false := fcell_keep hb5 (by first | exact l4 | (simp; omega)) (by first | exact f4 | exact falloc f4 l4); obtain ⟨hc5, hf5⟩ := bcell hb5; have z5 := hb5.size; (try simp at hc5); (try simp at hf5); (try simp at z5); (try (have zz25 : w2.heap.size < w5.heap.size := by omega)); (try (have zz35 : w3.heap.size < w5.heap.size := by omega)); (try (have zz45 : w4.heap.size < w5.heap.size := by omega)); clear hb5))
    all_goals go_wp2
    all_goals refine bodyPost_ret (v := .tuple #[.agg #[.slice none 0 0], .bool false]) (by simp [results, Tryd.results5, go_sem, calloc (rsame t5), rsame (keep6 t5 (show _ ≠ w4.heap.size by omega)), rsame (keep6 t5 (show _ ≠ w3.heap.size by omega)), rsame (keep6 t5 (show _ ≠ w2.heap.size by omega)), t5]) rfl ⟨none, 0, rfl, World.ownsRow_nil _ _ _ _, ?_⟩
    all_goals first | with_reducible exact (below_set6 HB5.out (by omega)).setCell (by simp; omega) _ | with_reducible exact (HB5.out.setCell (by simp; omega) _).alloc (by simp; omega) _

end Go.Proofs.YtaedplfihjfchaaDoor
