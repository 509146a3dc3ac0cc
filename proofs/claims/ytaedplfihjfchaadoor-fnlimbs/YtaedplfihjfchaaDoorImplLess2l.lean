/- The contract of the program's LessBig. -/
import Derived.Test.YtaedplfihjfchaaDoorImplLessl
import Derived.Deep.DeepCutAuto
import Derived.Deep.Light
namespace Go.Proofs.YtaedplfihjfchaaDoor
set_option linter.unusedVariables false
set_option maxRecDepth 1000000
set_option linter.unusedSimpArgs false
open Go.RowKit
attribute [local go_sem ↓] Go.wp_at_zero Go.wp_at_succ

/-- Six cells of a block. -/
def C6 (w : World) (g : Nat) (a0 a1 a2 a3 a4 a5 : Int) : Prop :=
  w.cell? ⟨g, 0, none⟩ = some (.int .i64 a0) ∧ w.cell? ⟨g, 1, none⟩ = some (.int .i64 a1) ∧ w.cell? ⟨g, 2, none⟩ = some (.int .i64 a2) ∧ w.cell? ⟨g, 3, none⟩ = some (.int .i64 a3) ∧ w.cell? ⟨g, 4, none⟩ = some (.int .i64 a4) ∧ w.cell? ⟨g, 5, none⟩ = some (.int .i64 a5)

theorem C6.keep {w w' : World} {g : Nat} {a0 a1 a2 a3 a4 a5 : Int} (h : C6 w g a0 a1 a2 a3 a4 a5) (hb : Below w.heap.size w w') : C6 w' g a0 a1 a2 a3 a4 a5 :=
  ⟨cell_keep (S := 0) hb h.1, cell_keep (S := 0) hb h.2.1, cell_keep (S := 0) hb h.2.2.1, cell_keep (S := 0) hb h.2.2.2.1, cell_keep (S := 0) hb h.2.2.2.2.1, cell_keep (S := 0) hb h.2.2.2.2.2⟩

/-- Six cells are there. -/
def S6 (w : World) (g : Nat) : Prop :=
  (w.cell? ⟨g, 0, none⟩).isSome = true ∧ (w.cell? ⟨g, 1, none⟩).isSome = true ∧ (w.cell? ⟨g, 2, none⟩).isSome = true ∧ (w.cell? ⟨g, 3, none⟩).isSome = true ∧ (w.cell? ⟨g, 4, none⟩).isSome = true ∧ (w.cell? ⟨g, 5, none⟩).isSome = true

theorem cset_off {w : World} {g h o j : Nat} {u : Value} (hne : o ≠ j) : (w.setCell ⟨h, j, none⟩ u).cell? ⟨g, o, none⟩ = w.cell? ⟨g, o, none⟩ := by
  rw [World.cell?_setCell_other _ _ _ _ (by intro e; simp only [Addr.mk.injEq] at e; omega)]

theorem cset_same {w : World} {g o : Nat} {u : Value} (h : (w.cell? ⟨g, o, none⟩).isSome = true) : (w.setCell ⟨g, o, none⟩ u).cell? ⟨g, o, none⟩ = some u := World.cell?_setCell_same' w _ u h

theorem c6_set_same {w : World} {g : Nat} {a0 a1 a2 a3 a4 a5 : Int} (h : S6 w g) : C6 (((((((w.setCell ⟨g, 0, none⟩ (.int .i64 a0)).setCell ⟨g, 1, none⟩ (.int .i64 a1)).setCell ⟨g, 2, none⟩ (.int .i64 a2)).setCell ⟨g, 3, none⟩ (.int .i64 a3)).setCell ⟨g, 4, none⟩ (.int .i64 a4)).setCell ⟨g, 5, none⟩ (.int .i64 a5))) g a0 a1 a2 a3 a4 a5 := by
  obtain ⟨h0, h1, h2, h3, h4, h5⟩ := h
  refine ⟨?_, ?_, ?_, ?_, ?_, ?_⟩
  · rw [cset_off (by omega), cset_off (by omega), cset_off (by omega), cset_off (by omega), cset_off (by omega), cset_same h0]
  · rw [cset_off (by omega), cset_off (by omega), cset_off (by omega), cset_off (by omega), cset_same (by rw [cset_off (by omega)]; exact h1)]
  · rw [cset_off (by omega), cset_off (by omega), cset_off (by omega), cset_same (by rw [cset_off (by omega), cset_off (by omega)]; exact h2)]
  · rw [cset_off (by omega), cset_off (by omega), cset_same (by rw [cset_off (by omega), cset_off (by omega), cset_off (by omega)]; exact h3)]
  · rw [cset_off (by omega), cset_same (by rw [cset_off (by omega), cset_off (by omega), cset_off (by omega), cset_off (by omega)]; exact h4)]
  · rw [cset_same (by rw [cset_off (by omega), cset_off (by omega), cset_off (by omega), cset_off (by omega), cset_off (by omega)]; exact h5)]

theorem c6_set_ne {w : World} {g h : Nat} {a0 a1 a2 a3 a4 a5 b0 b1 b2 b3 b4 b5 : Int} (hc : C6 w g a0 a1 a2 a3 a4 a5) (hne : g ≠ h) : C6 (((((((w.setCell ⟨h, 0, none⟩ (.int .i64 b0)).setCell ⟨h, 1, none⟩ (.int .i64 b1)).setCell ⟨h, 2, none⟩ (.int .i64 b2)).setCell ⟨h, 3, none⟩ (.int .i64 b3)).setCell ⟨h, 4, none⟩ (.int .i64 b4)).setCell ⟨h, 5, none⟩ (.int .i64 b5))) g a0 a1 a2 a3 a4 a5 :=
  ⟨keep6 hc.1 hne, keep6 hc.2.1 hne, keep6 hc.2.2.1 hne, keep6 hc.2.2.2.1 hne, keep6 hc.2.2.2.2.1 hne, keep6 hc.2.2.2.2.2 hne⟩

theorem s6_set_ne {w : World} {g h : Nat} {b0 b1 b2 b3 b4 b5 : Int} (hc : S6 w g) (hne : g ≠ h) : S6 (((((((w.setCell ⟨h, 0, none⟩ (.int .i64 b0)).setCell ⟨h, 1, none⟩ (.int .i64 b1)).setCell ⟨h, 2, none⟩ (.int .i64 b2)).setCell ⟨h, 3, none⟩ (.int .i64 b3)).setCell ⟨h, 4, none⟩ (.int .i64 b4)).setCell ⟨h, 5, none⟩ (.int .i64 b5))) g := by
  obtain ⟨h0, h1, h2, h3, h4, h5⟩ := hc
  refine ⟨?_, ?_, ?_, ?_, ?_, ?_⟩ <;> (rw [cset_ne hne, cset_ne hne, cset_ne hne, cset_ne hne, cset_ne hne, cset_ne hne]; assumption)

theorem c6_alloc {w : World} {g : Nat} {O : Obj} {a0 a1 a2 a3 a4 a5 : Int} (h : C6 w g a0 a1 a2 a3 a4 a5) : C6 (w.alloc O) g a0 a1 a2 a3 a4 a5 := h.keep ((Below.refl _ _).alloc (Nat.le_refl _) _)

theorem c6_new {w : World} {g : Nat} {t : TypeId} {a0 a1 a2 a3 a4 a5 : Int} (hg : g = w.heap.size) : C6 (w.alloc (.cells #[.int .i64 a0, .int .i64 a1, .int .i64 a2, .int .i64 a3, .int .i64 a4, .int .i64 a5] t)) g a0 a1 a2 a3 a4 a5 := by
  refine ⟨?_, ?_, ?_, ?_, ?_, ?_⟩ <;> (rw [World.cell?_alloc_at _ _ _ _ hg]; rfl)

theorem lessF_rows {xs ys : List Int} (gx : goodB xs = true) (gy : goodB ys = true) (hv : ¬ val xs < val ys) :
    lessF xs ys = (trim (subC (pad6 xs) (pad6 ys) 0).1, true) := by
  obtain ⟨lx, dx, _⟩ := goodB_digs gx
  obtain ⟨ly, dy, _⟩ := goodB_digs gy
  obtain ⟨h1, h2, h3, h4, h5⟩ := subC_spec (xs := pad6 xs) (ys := pad6 ys) 0 ((pad6_length lx).trans (pad6_length ly).symm) (pad6_digs dx) (pad6_digs dy) (by omega) (by omega)
  rw [pad6_length lx] at h3
  rw [val_snoc6 h3, pad6_val, pad6_val] at h1
  have e1 := val_lt6 h2 (by omega)
  have e2 := val_nonneg h2
  have e3 := val_lt6 dx lx
  have e4 := val_nonneg dy
  rw [lessF, gx, gy]
  simp only [Bool.and_self, if_true]
  rw [if_neg hv, tellF_good (by omega), trim_bigL h2, show val xs - val ys = val (subC (pad6 xs) (pad6 ys) 0).1 by omega]

set_option maxHeartbeats 8000000 in
set_option maxRecDepth 1000000 in
theorem implLess_good (ao bo : Option Addr) (n m c d : Nat) (xs ys : List Int) (w : World) (hx : xs.length = n) (hy : ys.length = m) (hn : n ≤ 17592186044416) (hm : m ≤ 17592186044416) (hr : Rd w ao xs) (hs : Rd w bo ys) (zs : List Int) (fb : Bool) (p : Nat) (hF : lessF xs ys = (zs, fb)) (hp : zs.length = p) (gx : goodB xs = true) (gy : goodB ys = true) :
    Calls Tryd.prog 12 #[.agg #[.slice ao n c], .agg #[.slice bo m d]] w fun e w' => ∃ a' c', e = .returned (.tuple #[.agg #[.slice a' p c'], .bool fb]) ∧ Own w' w.heap.size (.slice a' p c') zs ∧ Below w.heap.size w w' := by
  obtain ⟨lx, dx, _⟩ := goodB_digs gx
  obtain ⟨ly, dy, _⟩ := goodB_digs gy
  obtain ⟨a0, a1, a2, a3, a4, a5, hA⟩ := list6 (pad6_length lx)
  obtain ⟨b0, b1, b2, b3, b4, b5, hBB⟩ := list6 (pad6_length ly)
  have hsp := subC_spec (xs := pad6 xs) (ys := pad6 ys) 0 ((pad6_length lx).trans (pad6_length ly).symm) (pad6_digs dx) (pad6_digs dy) (by omega) (by omega)
  obtain ⟨r0, r1, r2, r3, r4, r5, hRR⟩ := list6 (L := (subC (pad6 xs) (pad6 ys) 0).1) (by rw [hsp.2.2.1, pad6_length lx])
  have HA : Hid (pad6 xs = [a0, a1, a2, a3, a4, a5]) := hA
  have HBB : Hid (pad6 ys = [b0, b1, b2, b3, b4, b5]) := hBB
  have HDA : Hid (Digs [a0, a1, a2, a3, a4, a5] ∧ Digs [b0, b1, b2, b3, b4, b5]) := ⟨by rw [← hA]; exact pad6_digs dx, by rw [← hBB]; exact pad6_digs dy⟩
  have HE : Hid ((subC [a0, a1, a2, a3, a4, a5] [b0, b1, b2, b3, b4, b5] 0).1 = [r0, r1, r2, r3, r4, r5]) := by
    show _ = _
    rw [← hA, ← hBB, ← hRR]
  have HC : Hid (cmpI (val [a0, a1, a2, a3, a4, a5]) (val [b0, b1, b2, b3, b4, b5]) = cmpI (val xs) (val ys)) := by
    show _ = _
    rw [← hA, ← hBB, pad6_val, pad6_val]
  have HX : Hid (xs.length = n) := hx
  have HY : Hid (ys.length = m) := hy
  have HR : Hid (Rd w ao xs) := hr
  have HS : Hid (Rd w bo ys) := hs
  have HP : Hid (zs.length = p) := hp
  have HF : Hid (lessF xs ys = (zs, fb)) := hF
  have HFR : Hid (¬ val xs < val ys → lessF xs ys = (trim [r0, r1, r2, r3, r4, r5], true)) := fun hv => by rw [lessF_rows gx gy hv, hRR]
  have HFL : Hid (val xs < val ys → lessF xs ys = ([], false)) := fun hv => by rw [lessF, gx, gy]; simp [hv]
  have hn6 : n ≤ 6 := by rw [← hx]; exact lx
  have hm6 : m ≤ 6 := by rw [← hy]; exact ly
  have HB0 : Hid (Below w.heap.size w (((w.alloc (Obj.cells #[Value.slice ao n c] 25)).alloc (Obj.cells #[Value.slice bo m d] 25)).alloc (Obj.cells #[Value.slice none 0 0] 25))) := below_three w _ _ _
  clear hx hy hr hs hp hF hA hBB hsp hRR lx ly dx dy
  go_enter Tryd.func12, Tryd.ntmps12
  go_wp2_with fail
  refine (implGood_c ao n c xs _ HX.out hn (HR.out.later HB0.out)).mono ?_
  rw [gx]
  rintro e w1 ⟨rfl, hb⟩
  have HB1 : Hid (Below w.heap.size w w1) := HB0.out.trans (hb.mono (by simp; omega))
  have x1 : w1.cell? ⟨w.heap.size, 0, none⟩ = some (.slice ao n c) := cell_keep (S := 0) hb (calloc (calloc (by simp)))
  have y1 : w1.cell? ⟨w.heap.size + 1, 0, none⟩ = some (.slice bo m d) := cell_keep (S := 0) hb (calloc (by simp))
  have t1 : w1.cell? ⟨w.heap.size + 1 + 1, 0, none⟩ = some (.slice none 0 0) := cell_keep (S := 0) hb (by rw [World.cell?_alloc_at _ _ _ _ (by simp)]; rfl)
  have f1 : w1.frozen? ⟨w.heap.size + 1 + 1, 0, none⟩ = false := fcell_keep hb (by simp) (fz3 _ _ _ _ _ _ _)
  have l1 : w.heap.size + 1 + 1 < w1.heap.size := World.block_lt_of_cell? _ _ t1
  clear hb gx
  go_wp2_with fail
  refine (implGood_c bo m d ys _ HY.out hm (HS.out.later HB1.out)).mono ?_
  rw [gy]
  rintro e w2 ⟨rfl, hb⟩
  have HB2 : Hid (Below w.heap.size w w2) := HB1.out.trans (hb.mono (HB1.out.size))
  have x2 : w2.cell? ⟨w.heap.size, 0, none⟩ = some (.slice ao n c) := cell_keep (S := 0) hb x1
  have y2 : w2.cell? ⟨w.heap.size + 1, 0, none⟩ = some (.slice bo m d) := cell_keep (S := 0) hb y1
  have t2 : w2.cell? ⟨w.heap.size + 1 + 1, 0, none⟩ = some (.slice none 0 0) := cell_keep (S := 0) hb t1
  have f2 : w2.frozen? ⟨w.heap.size + 1 + 1, 0, none⟩ = false := fcell_keep hb l1 f1
  have l2 : w.heap.size + 1 + 1 < w2.heap.size := World.block_lt_of_cell? _ _ t2
  clear hb gy x1 y1 t1 f1 l1
  go_upto_region 3 with fail
  go_cut [6, 7] (fun ub uv wx => ∃ (gx gy : Nat), ub = .pointer (some ⟨gx, 0, none⟩) ∧ uv = .pointer (some ⟨gy, 0, none⟩) ∧ C6 wx gx a0 a1 a2 a3 a4 a5 ∧ C6 wx gy b0 b1 b2 b3 b4 b5 ∧ wx.cell? ⟨w.heap.size + 1 + 1, 0, none⟩ = some (.slice none 0 0) ∧ wx.frozen? ⟨w.heap.size + 1 + 1, 0, none⟩ = false ∧ Hid (Below w.heap.size w wx))
  case first =>
    have tok1 : True := trivial
    have la : w.heap.size < w2.heap.size := by omega
    have lb : w.heap.size + 1 < w2.heap.size := by omega
    go_region_held3 (fun w' => w'.cell? ⟨w.heap.size, 0, none⟩ = some (.slice ao n c) ∧ w'.cell? ⟨w.heap.size + 1, 0, none⟩ = some (.slice bo m d)) (first | go_keep | (refine ⟨?_, ?_⟩ <;> (repeat (first | rw [cset_ne (by omega)] | rw [calloc_eq (by first | omega | (simp; omega))])) <;> assumption)) (first
      | (go_at_call 29; have _t := tok1; refine (rowOf_d HA.out HX.out hn6 HR.out _ (by repeat (first | exact HB2.out | refine Below.drew ?_ | refine Below.alloc ?_ (by first | omega | (simp; omega)) _))).mono ?_; rintro e w3 ⟨rfl, HB3, hb3⟩; clear tok1 _t; have x3 : w3.cell? ⟨w.heap.size, 0, none⟩ = some (.slice ao n c) := cell_keep (S := 0) hb3 (by first | exact x2 | exact calloc x2 | exact calloc (calloc x2)); have y3 : w3.cell? ⟨w.heap.size + 1, 0, none⟩ = some (.slice bo m d) := cell_keep (S := 0) hb3 (by first | exact y2 | exact calloc y2 | exact calloc (calloc y2)); have t3 : w3.cell? ⟨w.heap.size + 1 + 1, 0, none⟩ = some (.slice none 0 0) := cell_keep (S := 0) hb3 (by first | exact t2 | exact calloc t2 | exact calloc (calloc t2)); have l3 : w.heap.size + 1 + 1 < w3.heap.size := World.block_lt_of_cell? _ _ t3; have f3 : w3.frozen? ⟨w.heap.size + 1 + 1, 0, none⟩ = false := fcell_keep hb3 (by first | exact l2 | (simp; omega)) (by first | exact f2 | exact falloc f2 l2 | exact falloc (falloc f2 l2) (by simp; omega)); obtain ⟨hc3, hf3⟩ := bcell hb3; have z3 := hb3.size; (try simp at hc3); (try simp at hf3); (try simp at z3); (try (have zz23 : w2.heap.size < w3.heap.size := by omega)); (try (have zy23 : w2.heap.size + 1 < w3.heap.size := by omega)); clear hb3)
      | (go_at_call 29; refine (rowOf_d HBB.out HY.out hm6 HS.out _ (by repeat (first | exact HB3.out | refine Below.drew ?_ | refine Below.alloc ?_ (by first | omega | (simp; omega)) _))).mono ?_; rintro e w4 ⟨rfl, HB4, hb4⟩; have x4 : w4.cell? ⟨w.heap.size, 0, none⟩ = some (.slice ao n c) := cell_keep (S := 0) hb4 (by first | exact x3 | exact calloc x3 | exact calloc (calloc x3)); have y4 : w4.cell? ⟨w.heap.size + 1, 0, none⟩ = some (.slice bo m d) := cell_keep (S := 0) hb4 (by first | exact y3 | exact calloc y3 | exact calloc (calloc y3)); have t4 : w4.cell? ⟨w.heap.size + 1 + 1, 0, none⟩ = some (.slice none 0 0) := cell_keep (S := 0) hb4 (by first | exact t3 | exact calloc t3 | exact calloc (calloc t3)); have l4 : w.heap.size + 1 + 1 < w4.heap.size := World.block_lt_of_cell? _ _ t4; have f4 : w4.frozen? ⟨w.heap.size + 1 + 1, 0, none⟩ = false := fcell_keep hb4 (by first | exact l3 | (simp; omega)) (by first | exact f3 | exact falloc f3 l3 | exact falloc (falloc f3 l3) (by simp; omega)); obtain ⟨hc4, hf4⟩ := bcell hb4; have z4 := hb4.size; (try simp at hc4); (try simp at hf4); (try simp at z4); (try (have zz24 : w2.heap.size < w4.heap.size := by omega)); (try (have zy24 : w2.heap.size + 1 < w4.heap.size := by omega)); (try (have zz34 : w3.heap.size < w4.heap.size := by omega)); (try (have zy34 : w3.heap.size + 1 < w4.heap.size := by omega)); clear hb4))
    all_goals go_wp2_with fail
    all_goals go_meet
    all_goals go_light
    all_goals refine ⟨_, _, rfl, rfl, ?_, ?_, ?_, ?_, ?_⟩
    all_goals try (repeat' (first | (with_reducible refine c6_new ?_; simp; done) | with_reducible refine c6_set_same ?_ | with_reducible refine c6_set_ne ?_ ?_ | with_reducible refine s6_set_ne ?_ ?_ | with_reducible refine c6_alloc ?_))
    all_goals first
      | omega
      | (refine ⟨?_, ?_, ?_, ?_, ?_, ?_⟩ <;> first | (simp [*]; done) | (simp [go_sem, *]; done))
      | with_reducible exact calloc (calloc t4)
      | with_reducible exact calloc (keep6 t4 (by omega))
      | with_reducible exact keep6 (keep6 t4 (by omega)) (by omega)
      | (simp only [World.frozen?_setCell]; exact f4)
      | (refine falloc ?_ ?_ <;> first | (simp only [World.frozen?_setCell]; exact f4) | (simp; omega))
      | (refine falloc (falloc f4 l4) ?_; simp; omega)
      | (show Below _ _ _; with_reducible exact below_set6 (below_set6 HB4.out (by omega)) (by omega))
      | (show Below _ _ _; with_reducible exact (below_set6 HB4.out (by omega)).alloc (by simp; omega) _)
      | (show Below _ _ _; with_reducible exact (HB4.out.alloc (by omega) _).alloc (by simp; omega) _)
  case rest =>
    obtain ⟨ux, uy, rfl, rfl, hcx, hcy, t5, f5, hb⟩ := hcut
    obtain ⟨w5, rfl⟩ : ∃ w5 : World, w5 = wc := ⟨_, rfl⟩
    have HB5 : Hid (Below w.heap.size w w5) := hb
    have HCX : Hid (C6 w5 ux a0 a1 a2 a3 a4 a5) := hcx
    have HCY : Hid (C6 w5 uy b0 b1 b2 b3 b4 b5) := hcy
    obtain ⟨p0, p1, p2, p3, p4, p5⟩ := hcx
    obtain ⟨q0, q1, q2, q3, q4, q5⟩ := hcy
    have l5 : w.heap.size + 1 + 1 < w5.heap.size := World.block_lt_of_cell? _ _ t5
    clear hb x2 y2 t2 f2 l2
    go_wp2_with fail
    refine (compareRows_c a0 a1 a2 a3 a4 a5 b0 b1 b2 b3 b4 b5 _ HDA.out.1 HDA.out.2).mono ?_
    rw [HC.out]
    by_cases hv : val xs < val ys
    · rw [cmpI_lt hv]
      have hf := HF.out
      rw [HFL.out hv] at hf
      simp only [Prod.mk.injEq] at hf
      obtain ⟨rfl, rfl⟩ := hf
      have hp0 := HP.out
      simp at hp0
      subst hp0
      clear hv
      rintro e w6 ⟨rfl, hb⟩
      have HB6 : Hid (Below w.heap.size w w6) := HB5.out.trans (hb.mono HB5.out.size)
      have t6 : w6.cell? ⟨w.heap.size + 1 + 1, 0, none⟩ = some (.slice none 0 0) := cell_keep (S := 0) hb t5
      have f6 : w6.frozen? ⟨w.heap.size + 1 + 1, 0, none⟩ = false := fcell_keep hb l5 f5
      clear hb t5 f5 l5 p0 p1 p2 p3 p4 p5 q0 q1 q2 q3 q4 q5
      go_wp2
      refine bodyPost_ret (v := .tuple #[.agg #[.slice none 0 0], .bool false]) (by simp [results, Tryd.results12, go_sem, t6]) rfl ⟨none, 0, rfl, World.ownsRow_nil _ _ _ _, HB6.out.setCell (by simp; omega) _⟩
    · obtain ⟨cc, hcc⟩ : ∃ cc, cmpI (val xs) (val ys) = cc := ⟨_, rfl⟩
      have hc0 : 0 ≤ cc := by rw [← hcc]; unfold cmpI; rw [if_neg hv]; split <;> omega
      rw [hcc]
      have hf := HF.out
      rw [HFR.out (by omega)] at hf
      simp only [Prod.mk.injEq] at hf
      obtain ⟨hz, rfl⟩ := hf
      have HZ : Hid (trim [r0, r1, r2, r3, r4, r5] = zs) := hz
      clear hv hcc hz
      rintro e w6 ⟨rfl, hb⟩
      have HB6 : Hid (Below w.heap.size w w6) := HB5.out.trans (hb.mono HB5.out.size)
      have t6 : w6.cell? ⟨w.heap.size + 1 + 1, 0, none⟩ = some (.slice none 0 0) := cell_keep (S := 0) hb t5
      have f6 : w6.frozen? ⟨w.heap.size + 1 + 1, 0, none⟩ = false := fcell_keep hb l5 f5
      have l6 : w.heap.size + 1 + 1 < w6.heap.size := World.block_lt_of_cell? _ _ t6
      obtain ⟨p0', p1', p2', p3', p4', p5'⟩ := HCX.out.keep hb
      obtain ⟨q0', q1', q2', q3', q4', q5'⟩ := HCY.out.keep hb
      clear hb t5 f5 l5 p0 p1 p2 p3 p4 p5 q0 q1 q2 q3 q4 q5
      have hcb : (cc == -1) = false := by simp; omega
      go_wp2_with fail
      refine (lessRow_c a0 a1 a2 a3 a4 a5 b0 b1 b2 b3 b4 b5 _ HDA.out.1 HDA.out.2 r0 r1 r2 r3 r4 r5 HE.out).mono ?_
      rintro e w7 ⟨rfl, hb⟩
      have HB7 : Hid (Below w.heap.size w w7) := HB6.out.trans (hb.mono HB6.out.size)
      have t7 : w7.cell? ⟨w.heap.size + 1 + 1, 0, none⟩ = some (.slice none 0 0) := cell_keep (S := 0) hb t6
      have f7 : w7.frozen? ⟨w.heap.size + 1 + 1, 0, none⟩ = false := fcell_keep hb l6 f6
      have l7 : w.heap.size + 1 + 1 < w7.heap.size := World.block_lt_of_cell? _ _ t7
      clear hb t6 f6 l6 p0' p1' p2' p3' p4' p5' q0' q1' q2' q3' q4' q5'
      go_wp2_with fail
      refine (bigFrom_c r0 r1 r2 r3 r4 r5 _ p (by rw [HZ.out]; exact HP.out)).mono ?_
      rw [HZ.out]
      rintro e w8 ⟨a', c', rfl, ho, hb⟩
      have HB8 : Hid (Below w.heap.size w w8) := HB7.out.trans (hb.mono HB7.out.size)
      have t8 : w8.cell? ⟨w.heap.size + 1 + 1, 0, none⟩ = some (.slice none 0 0) := cell_keep (S := 0) hb t7
      have f8 : w8.frozen? ⟨w.heap.size + 1 + 1, 0, none⟩ = false := fcell_keep hb l7 f7
      have HO8 : Hid (Own w8 w7.heap.size (.slice a' p c') zs) := ho
      clear hb ho t7 f7
      go_wp2
      refine bodyPost_ret (v := .tuple #[.agg #[.slice a' p c'], .bool true]) (by simp [results, Tryd.results12, go_sem, t8]) rfl ⟨a', c', rfl, own_set_mono HO8.out (by omega) (by omega), HB8.out.setCell (by simp; omega) _⟩

end Go.Proofs.YtaedplfihjfchaaDoor
