/- The contract of the program's AddBig. -/
import Derived.Test.YtaedplfihjfchaaImplBigh
namespace Go.Proofs.Ytaedplfihjfchaa
set_option linter.unusedVariables false
set_option maxRecDepth 1000000
set_option linter.unusedSimpArgs false
open Go.RowKit
attribute [local go_sem ↓] Go.wp_at_zero Go.wp_at_succ

theorem rowOf_d {ao : Option Addr} {n c : Nat} {xs : List Int} {w : World} {a0 a1 a2 a3 a4 a5 : Int} (h6 : pad6 xs = [a0, a1, a2, a3, a4, a5]) (hx : xs.length = n) (hn : n ≤ 6) (hr : Rd w ao xs) (W : World) (hB : Below w.heap.size w W) :
    Calls Try.prog 24 #[.agg #[.slice ao n c]] W fun e w' => e = .returned (.agg #[.int .i64 a0, .int .i64 a1, .int .i64 a2, .int .i64 a3, .int .i64 a4, .int .i64 a5]) ∧ Hid (Below w.heap.size w w') ∧ Below W.heap.size W w' := by
  refine (rowOf_c ao n c xs W hx hn (hr.later hB)).mono ?_
  rintro e w' ⟨b0, b1, b2, b3, b4, b5, rfl, hh, hb⟩
  have := h6.symm.trans hh
  simp only [List.cons.injEq, and_true] at this
  obtain ⟨rfl, rfl, rfl, rfl, rfl, rfl⟩ := this
  exact ⟨rfl, hB.trans (hb.mono hB.size), hb⟩

theorem addRows_d {a0 a1 a2 a3 a4 a5 b0 b1 b2 b3 b4 b5 r0 r1 r2 r3 r4 r5 cy : Int} {w : World} (da : Digs [a0, a1, a2, a3, a4, a5]) (db : Digs [b0, b1, b2, b3, b4, b5]) (he : addC [a0, a1, a2, a3, a4, a5] [b0, b1, b2, b3, b4, b5] 0 = ([r0, r1, r2, r3, r4, r5], cy)) (W : World) (hB : Below w.heap.size w W) :
    Calls Try.prog 26 #[.agg #[.int .i64 a0, .int .i64 a1, .int .i64 a2, .int .i64 a3, .int .i64 a4, .int .i64 a5], .agg #[.int .i64 b0, .int .i64 b1, .int .i64 b2, .int .i64 b3, .int .i64 b4, .int .i64 b5]] W fun e w' =>
      e = .returned (.tuple #[.agg #[.int .i64 r0, .int .i64 r1, .int .i64 r2, .int .i64 r3, .int .i64 r4, .int .i64 r5], .int .i64 cy]) ∧ Hid (Below w.heap.size w w') ∧ Below W.heap.size W w' := by
  refine (addRows_c a0 a1 a2 a3 a4 a5 b0 b1 b2 b3 b4 b5 W da db).mono ?_
  rintro e w' ⟨s0, s1, s2, s3, s4, s5, cy', rfl, hh, hb⟩
  have := he.symm.trans hh
  simp only [Prod.mk.injEq, List.cons.injEq, and_true] at this
  obtain ⟨⟨rfl, rfl, rfl, rfl, rfl, rfl⟩, rfl⟩ := this
  exact ⟨rfl, hB.trans (hb.mono hB.size), hb⟩

theorem falloc {w : World} {g o : Nat} {b : Bool} {O : Obj} (h : w.frozen? ⟨g, o, none⟩ = b) (hg : g < w.heap.size) : (w.alloc O).frozen? ⟨g, o, none⟩ = b := by
  rw [World.frozen?_alloc_past _ _ _ hg]; exact h

theorem rsame {w : World} {a : Addr} {u v : Value} (h : w.cell? a = some u) : (w.setCell a v).cell? a = some v := World.cell?_setCell_same _ _ _ h

theorem keep1 {w : World} {g h o j : Nat} {v u : Value} (hc : w.cell? ⟨g, o, none⟩ = some v) (hne : g ≠ h) : (w.setCell ⟨h, j, none⟩ u).cell? ⟨g, o, none⟩ = some v := by
  rw [World.cell?_setCell_other _ _ _ _ (by intro e; simp only [Addr.mk.injEq] at e; omega)]; exact hc

theorem keep6 {w : World} {g h o : Nat} {v v0 v1 v2 v3 v4 v5 : Value} (hc : w.cell? ⟨g, o, none⟩ = some v) (hne : g ≠ h) :
    ((((((w.setCell ⟨h, 0, none⟩ v0).setCell ⟨h, 1, none⟩ v1).setCell ⟨h, 2, none⟩ v2).setCell ⟨h, 3, none⟩ v3).setCell ⟨h, 4, none⟩ v4).setCell ⟨h, 5, none⟩ v5).cell? ⟨g, o, none⟩ = some v :=
  keep1 (keep1 (keep1 (keep1 (keep1 (keep1 hc hne) hne) hne) hne) hne) hne

/-- What AddBig comes to, in the rows' words. -/
theorem addF_rows {xs ys : List Int} (gx : goodB xs = true) (gy : goodB ys = true) :
    addF xs ys = if (addC (pad6 xs) (pad6 ys) 0).2 = 0 then (trim (addC (pad6 xs) (pad6 ys) 0).1, true) else ([], false) := by
  obtain ⟨lx, dx, _⟩ := goodB_digs gx
  obtain ⟨ly, dy, _⟩ := goodB_digs gy
  obtain ⟨h1, h2, h3, h4, h5⟩ := addC_spec (xs := pad6 xs) (ys := pad6 ys) 0 ((pad6_length lx).trans (pad6_length ly).symm) (pad6_digs dx) (pad6_digs dy) (by omega) (by omega)
  rw [pad6_length lx] at h3
  rw [val_snoc6 h3, pad6_val, pad6_val] at h1
  have hv := val_lt6 h2 (by omega)
  have hv0 := val_nonneg h2
  rw [addF, gx, gy]
  simp only [Bool.and_self, if_true]
  by_cases hc : (addC (pad6 xs) (pad6 ys) 0).2 = 0
  · rw [if_pos hc]
    rw [hc] at h1
    rw [tellF_good (by omega), trim_bigL h2, show val xs + val ys = val (addC (pad6 xs) (pad6 ys) 0).1 by omega]
  · rw [if_neg hc]
    rw [tellF_bad (by omega)]

end Go.Proofs.Ytaedplfihjfchaa
