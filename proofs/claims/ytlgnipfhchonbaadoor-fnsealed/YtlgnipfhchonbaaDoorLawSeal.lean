/- Sealed numbers in memory; products of sealed numbers, and the laws on OpenNumber and TimesSealed, walked: true at every argument, nothing turned. -/
import Derived.Test.YtlgnipfhchonbaaDoorPwImpl2
import Derived.Deep.RegionHeld3
import Derived.Deep.DrawnRows
namespace Go.Proofs.YtlgnipfhchonbaaDoor
set_option linter.unusedVariables false
set_option linter.unusedSimpArgs false
open Go.RowKit
attribute [local go_sem ↓] Go.wp_at_zero Go.wp_at_succ

/-- A block of two numbers that may be written. -/
def C2 (w : World) (g : Nat) (a b : Int) : Prop :=
  w.cell? ⟨g, 0, none⟩ = some (.int .i64 a) ∧ w.cell? ⟨g, 1, none⟩ = some (.int .i64 b) ∧ w.frozen? ⟨g, 0, none⟩ = false ∧ w.frozen? ⟨g, 1, none⟩ = false

theorem C2.lt {w : World} {g : Nat} {a b : Int} (h : C2 w g a b) : g < w.heap.size := World.block_lt_of_cell? w _ h.1

theorem C2.keep {w w' : World} {g : Nat} {a b : Int} (h : C2 w g a b) (hb : Below w.heap.size w w') : C2 w' g a b :=
  ⟨by rw [hb.cell (p := ⟨g, 0, none⟩) h.lt]; exact h.1, by rw [hb.cell (p := ⟨g, 1, none⟩) h.lt]; exact h.2.1,
   by rw [hb.frozen (p := ⟨g, 0, none⟩) h.lt]; exact h.2.2.1, by rw [hb.frozen (p := ⟨g, 1, none⟩) h.lt]; exact h.2.2.2⟩

theorem C2.alloc {w : World} {g : Nat} {a b : Int} (h : C2 w g a b) (o : Obj) : C2 (w.alloc o) g a b := h.keep ((Below.refl _ _).alloc (Nat.le_refl _) o)

theorem c2_new (w : World) (a b : Int) (t : TypeId) (g : Nat) (hg : g = w.heap.size) : C2 (w.alloc (.cells #[.int .i64 a, .int .i64 b] t)) g a b := by
  subst hg
  refine ⟨?_, ?_, ?_, ?_⟩
  · simp
  · simp
  · rw [World.frozen?_alloc_at _ _ _ _ (by simp)]
  · rw [World.frozen?_alloc_at _ _ _ _ (by simp)]

theorem below_one (w : World) (o : Obj) : Below w.heap.size w (w.alloc o) := (Below.refl _ _).alloc (Nat.le_refl _) o
theorem below_two (w : World) (o o' : Obj) : Below w.heap.size w ((w.alloc o).alloc o') := (below_one w o).alloc (by simp) o'
theorem below_three (w : World) (o o' o'' : Obj) : Below w.heap.size w (((w.alloc o).alloc o').alloc o'') := (below_two w o o').alloc (by simp; omega) o''

theorem toSealed_c (x y : Int) (w : World) : Calls Tryd.prog 36 #[.agg #[.int .i64 x, .int .i64 y]] w fun e w' => e = .returned (.agg #[.int .i64 x, .int .i64 y]) ∧ Below w.heap.size w w' := by
  go_enter Tryd.func36, Tryd.ntmps36
  go_wp2
  refine bodyPost_ret (v := .agg #[.int .i64 x, .int .i64 y]) (by simp [results, Tryd.results36, go_sem]) rfl ⟨rfl, ?_⟩
  exact below_three _ _ _ _

theorem eqSealed_c (x y : Int) (w : World) : Calls Tryd.prog 35 #[.agg #[.int .i64 x, .int .i64 y], .agg #[.int .i64 x, .int .i64 y]] w fun e w' => e = .returned (.bool true) ∧ Below w.heap.size w w' := by
  go_enter Tryd.func35, Tryd.ntmps35
  go_wp2
  go_ret
  exact ⟨rfl, below_two _ _ _⟩

set_option maxHeartbeats 1000000 in
theorem timesBoth_c (x y p q : Int) (w : World) (hx : 0 ≤ x ∧ x < 2999) (hy : 0 ≤ y ∧ y < 2999) (hp : 0 ≤ p ∧ p < 2999) (hq : 0 ≤ q ∧ q < 2999) :
    Calls Tryd.prog 54 #[.agg #[.int .i64 x, .int .i64 y], .agg #[.int .i64 p, .int .i64 q]] w fun e w' => e = .returned (.agg #[.int .i64 (x * p % 2999), .int .i64 (y * q % 2999)]) ∧ Below w.heap.size w w' := by
  have HA : Hid (∀ wx, Calls Tryd.prog 53 #[.int .i64 x, .int .i64 p] wx fun e w' => e = .returned (.int .i64 (x * p % 2999)) ∧ w' = wx) := fun wx => timesRests_c x p wx hx.1 hx.2 hp.1 hp.2
  have HB : Hid (∀ wx, Calls Tryd.prog 53 #[.int .i64 y, .int .i64 q] wx fun e w' => e = .returned (.int .i64 (y * q % 2999)) ∧ w' = wx) := fun wx => timesRests_c y q wx hy.1 hy.2 hq.1 hq.2
  generalize x * p % 2999 = r at *
  generalize y * q % 2999 = s at *
  clear hx hy hp hq
  go_enter Tryd.func54, Tryd.ntmps54
  go_wp2
  go_region_held3 (fun w' => w'.cell? ⟨w.heap.size, 0, none⟩ = some (.int .i64 x) ∧ w'.cell? ⟨w.heap.size, 1, none⟩ = some (.int .i64 y) ∧ w'.cell? ⟨w.heap.size + 1, 0, none⟩ = some (.int .i64 p) ∧ w'.cell? ⟨w.heap.size + 1, 1, none⟩ = some (.int .i64 q)) (first | go_keep) (first
    | (go_at_call 53; refine (HA.out _).mono ?_; rintro e w' ⟨rfl, rfl⟩)
    | (go_at_call 53; refine (HB.out _).mono ?_; rintro e w' ⟨rfl, rfl⟩))
  all_goals go_wp2
  all_goals refine bodyPost_ret (v := .agg #[.int .i64 r, .int .i64 s]) (by simp [results, Tryd.results54, go_sem]) rfl ⟨rfl, ?_⟩
  all_goals exact (below_three _ _ _ _).drew

def timesB (x y p q : Int) : Bool := sealB x y && sealB p q

set_option maxHeartbeats 2000000 in
theorem implTimesSealed_c (x y p q : Int) (w : World) : Calls Tryd.prog 28 #[.agg #[.int .i64 x, .int .i64 y], .agg #[.int .i64 p, .int .i64 q]] w fun e w' => e = .returned (.tuple #[.agg #[.int .i64 (if timesB x y p q = true then x * p % 2999 else 0), .int .i64 (if timesB x y p q = true then y * q % 2999 else 0)], .bool (timesB x y p q)]) ∧ Below w.heap.size w w' := by
  have X0 : Hid (C2 (((w.alloc (Obj.cells #[Value.int .i64 x, Value.int .i64 y] 34)).alloc (Obj.cells #[Value.int .i64 p, Value.int .i64 q] 34)).alloc (Obj.cells #[Value.int .i64 0, Value.int .i64 0] 34)) w.heap.size x y) := ((c2_new _ _ _ _ _ rfl).alloc _).alloc _
  have Y0 : Hid (C2 (((w.alloc (Obj.cells #[Value.int .i64 x, Value.int .i64 y] 34)).alloc (Obj.cells #[Value.int .i64 p, Value.int .i64 q] 34)).alloc (Obj.cells #[Value.int .i64 0, Value.int .i64 0] 34)) (w.heap.size + 1) p q) := (c2_new _ _ _ _ _ (by simp)).alloc _
  have T0 : Hid (C2 (((w.alloc (Obj.cells #[Value.int .i64 x, Value.int .i64 y] 34)).alloc (Obj.cells #[Value.int .i64 p, Value.int .i64 q] 34)).alloc (Obj.cells #[Value.int .i64 0, Value.int .i64 0] 34)) (w.heap.size + 1 + 1) 0 0) := c2_new _ _ _ _ _ (by simp)
  have HB0 : Hid (Below w.heap.size w (((w.alloc (Obj.cells #[Value.int .i64 x, Value.int .i64 y] 34)).alloc (Obj.cells #[Value.int .i64 p, Value.int .i64 q] 34)).alloc (Obj.cells #[Value.int .i64 0, Value.int .i64 0] 34))) := below_three _ _ _ _
  cases gx : sealB x y
  · have hb : timesB x y p q = false := by simp only [timesB, gx, Bool.false_and]
    rw [hb]; clear hb
    simp only [Bool.false_eq_true, if_false]
    go_enter Tryd.func28, Tryd.ntmps28
    go_wp2_with fail
    refine (isSealed_c _ _ _).mono ?_
    rw [gx]; clear gx
    rintro e w1 ⟨rfl, hb⟩
    have X1 : Hid (C2 w1 w.heap.size x y) := X0.out.keep hb; have Y1 : Hid (C2 w1 (w.heap.size + 1) p q) := Y0.out.keep hb; have T1 : Hid (C2 w1 (w.heap.size + 1 + 1) 0 0) := T0.out.keep hb; have HB1 : Hid (Below w.heap.size w w1) := HB0.out.trans (hb.mono (by have := X0.out.lt; omega))
    clear hb X0 Y0 T0 HB0
    obtain ⟨xa, xb, xc, xd⟩ := X1.out; obtain ⟨ya, yb, yc, yd⟩ := Y1.out; obtain ⟨ta, tb, tc, td⟩ := T1.out; have lt := X1.out.lt; have lt2 := T1.out.lt
    go_wp2
    refine bodyPost_ret (v := .tuple #[.agg #[.int .i64 0, .int .i64 0], .bool false]) (by simp [results, Tryd.results28, go_sem, ta, tb]) rfl ⟨rfl, ?_⟩
    exact (HB1.out.setCell (by simp; try omega) _).setCell (by simp; try omega) _
  · cases gy : sealB p q
    · have hb : timesB x y p q = false := by simp only [timesB, gx, gy, Bool.and_false]
      rw [hb]; clear hb
      simp only [Bool.false_eq_true, if_false]
      go_enter Tryd.func28, Tryd.ntmps28
      go_wp2_with fail
      refine (isSealed_c _ _ _).mono ?_
      rw [gx]; clear gx
      rintro e w1 ⟨rfl, hb⟩
      have X1 : Hid (C2 w1 w.heap.size x y) := X0.out.keep hb; have Y1 : Hid (C2 w1 (w.heap.size + 1) p q) := Y0.out.keep hb; have T1 : Hid (C2 w1 (w.heap.size + 1 + 1) 0 0) := T0.out.keep hb; have HB1 : Hid (Below w.heap.size w w1) := HB0.out.trans (hb.mono (by have := X0.out.lt; omega))
      clear hb X0 Y0 T0 HB0
      obtain ⟨xa, xb, xc, xd⟩ := X1.out; obtain ⟨ya, yb, yc, yd⟩ := Y1.out; obtain ⟨ta, tb, tc, td⟩ := T1.out; have lt := X1.out.lt; have lt2 := T1.out.lt
      go_wp2_with fail
      refine (isSealed_c _ _ _).mono ?_
      rw [gy]; clear gy
      rintro e w2 ⟨rfl, hb⟩
      clear xa xb xc xd ya yb yc yd ta tb tc td lt lt2
      have X2 : Hid (C2 w2 w.heap.size x y) := X1.out.keep hb; have Y2 : Hid (C2 w2 (w.heap.size + 1) p q) := Y1.out.keep hb; have T2 : Hid (C2 w2 (w.heap.size + 1 + 1) 0 0) := T1.out.keep hb; have HB2 : Hid (Below w.heap.size w w2) := HB1.out.trans (hb.mono (by have := X1.out.lt; omega))
      clear hb X1 Y1 T1 HB1
      obtain ⟨xa, xb, xc, xd⟩ := X2.out; obtain ⟨ya, yb, yc, yd⟩ := Y2.out; obtain ⟨ta, tb, tc, td⟩ := T2.out; have lt := X2.out.lt; have lt2 := T2.out.lt
      go_wp2
      refine bodyPost_ret (v := .tuple #[.agg #[.int .i64 0, .int .i64 0], .bool false]) (by simp [results, Tryd.results28, go_sem, ta, tb]) rfl ⟨rfl, ?_⟩
      exact (HB2.out.setCell (by simp; try omega) _).setCell (by simp; try omega) _
    · have hb : timesB x y p q = true := by simp only [timesB, gx, gy, Bool.and_self]
      rw [hb]; clear hb
      simp only [if_true]
      have hxy := sealB_in gx
      have hpq := sealB_in gy
      go_enter Tryd.func28, Tryd.ntmps28
      go_wp2_with fail
      refine (isSealed_c _ _ _).mono ?_
      rw [gx]; clear gx
      rintro e w1 ⟨rfl, hb⟩
      have X1 : Hid (C2 w1 w.heap.size x y) := X0.out.keep hb; have Y1 : Hid (C2 w1 (w.heap.size + 1) p q) := Y0.out.keep hb; have T1 : Hid (C2 w1 (w.heap.size + 1 + 1) 0 0) := T0.out.keep hb; have HB1 : Hid (Below w.heap.size w w1) := HB0.out.trans (hb.mono (by have := X0.out.lt; omega))
      clear hb X0 Y0 T0 HB0
      obtain ⟨xa, xb, xc, xd⟩ := X1.out; obtain ⟨ya, yb, yc, yd⟩ := Y1.out; obtain ⟨ta, tb, tc, td⟩ := T1.out; have lt := X1.out.lt; have lt2 := T1.out.lt
      go_wp2_with fail
      refine (isSealed_c _ _ _).mono ?_
      rw [gy]; clear gy
      rintro e w2 ⟨rfl, hb⟩
      clear xa xb xc xd ya yb yc yd ta tb tc td lt lt2
      have X2 : Hid (C2 w2 w.heap.size x y) := X1.out.keep hb; have Y2 : Hid (C2 w2 (w.heap.size + 1) p q) := Y1.out.keep hb; have T2 : Hid (C2 w2 (w.heap.size + 1 + 1) 0 0) := T1.out.keep hb; have HB2 : Hid (Below w.heap.size w w2) := HB1.out.trans (hb.mono (by have := X1.out.lt; omega))
      clear hb X1 Y1 T1 HB1
      obtain ⟨xa, xb, xc, xd⟩ := X2.out; obtain ⟨ya, yb, yc, yd⟩ := Y2.out; obtain ⟨ta, tb, tc, td⟩ := T2.out; have lt := X2.out.lt; have lt2 := T2.out.lt
      go_wp2_with fail
      refine (timesBoth_c x y p q _ (by omega) (by omega) (by omega) (by omega)).mono ?_
      rintro e w3 ⟨rfl, hb⟩
      clear xa xb xc xd ya yb yc yd ta tb tc td lt lt2
      have X3 : Hid (C2 w3 w.heap.size x y) := X2.out.keep hb; have Y3 : Hid (C2 w3 (w.heap.size + 1) p q) := Y2.out.keep hb; have T3 : Hid (C2 w3 (w.heap.size + 1 + 1) 0 0) := T2.out.keep hb; have HB3 : Hid (Below w.heap.size w w3) := HB2.out.trans (hb.mono (by have := X2.out.lt; omega))
      clear hb X2 Y2 T2 HB2
      obtain ⟨xa, xb, xc, xd⟩ := X3.out; obtain ⟨ya, yb, yc, yd⟩ := Y3.out; obtain ⟨ta, tb, tc, td⟩ := T3.out; have lt := X3.out.lt; have lt2 := T3.out.lt
      go_wp2
      refine bodyPost_ret (v := .tuple #[.agg #[.int .i64 (x * p % 2999), .int .i64 (y * q % 2999)], .bool true]) (by simp [results, Tryd.results28, go_sem, ta, tb]) rfl ⟨rfl, ?_⟩
      exact (HB3.out.setCell (by simp; try omega) _).setCell (by simp; try omega) _

set_option maxHeartbeats 2000000 in
theorem specTimesSealed_c (x y p q : Int) (w : World) : Calls Tryd.prog 34 #[.agg #[.int .i64 x, .int .i64 y], .agg #[.int .i64 p, .int .i64 q]] w fun e w' => e = .returned (.tuple #[.agg #[.int .i64 (if timesB x y p q = true then x * p % 2999 else 0), .int .i64 (if timesB x y p q = true then y * q % 2999 else 0)], .bool (timesB x y p q)]) ∧ Below w.heap.size w w' := by
  have X0 : Hid (C2 (((w.alloc (Obj.cells #[Value.int .i64 x, Value.int .i64 y] 34)).alloc (Obj.cells #[Value.int .i64 p, Value.int .i64 q] 34)).alloc (Obj.cells #[Value.int .i64 0, Value.int .i64 0] 34)) w.heap.size x y) := ((c2_new _ _ _ _ _ rfl).alloc _).alloc _
  have Y0 : Hid (C2 (((w.alloc (Obj.cells #[Value.int .i64 x, Value.int .i64 y] 34)).alloc (Obj.cells #[Value.int .i64 p, Value.int .i64 q] 34)).alloc (Obj.cells #[Value.int .i64 0, Value.int .i64 0] 34)) (w.heap.size + 1) p q) := (c2_new _ _ _ _ _ (by simp)).alloc _
  have T0 : Hid (C2 (((w.alloc (Obj.cells #[Value.int .i64 x, Value.int .i64 y] 34)).alloc (Obj.cells #[Value.int .i64 p, Value.int .i64 q] 34)).alloc (Obj.cells #[Value.int .i64 0, Value.int .i64 0] 34)) (w.heap.size + 1 + 1) 0 0) := c2_new _ _ _ _ _ (by simp)
  have HB0 : Hid (Below w.heap.size w (((w.alloc (Obj.cells #[Value.int .i64 x, Value.int .i64 y] 34)).alloc (Obj.cells #[Value.int .i64 p, Value.int .i64 q] 34)).alloc (Obj.cells #[Value.int .i64 0, Value.int .i64 0] 34))) := below_three _ _ _ _
  cases gx : sealB x y
  · have hb : timesB x y p q = false := by simp only [timesB, gx, Bool.false_and]
    rw [hb]; clear hb
    simp only [Bool.false_eq_true, if_false]
    go_enter Tryd.func34, Tryd.ntmps34
    go_wp2_with fail
    refine (l2Sealed_c _ _ _).mono ?_
    rw [gx]; clear gx
    rintro e w1 ⟨rfl, hb⟩
    have X1 : Hid (C2 w1 w.heap.size x y) := X0.out.keep hb; have Y1 : Hid (C2 w1 (w.heap.size + 1) p q) := Y0.out.keep hb; have T1 : Hid (C2 w1 (w.heap.size + 1 + 1) 0 0) := T0.out.keep hb; have HB1 : Hid (Below w.heap.size w w1) := HB0.out.trans (hb.mono (by have := X0.out.lt; omega))
    clear hb X0 Y0 T0 HB0
    obtain ⟨xa, xb, xc, xd⟩ := X1.out; obtain ⟨ya, yb, yc, yd⟩ := Y1.out; obtain ⟨ta, tb, tc, td⟩ := T1.out; have lt := X1.out.lt; have lt2 := T1.out.lt
    go_wp2
    refine bodyPost_ret (v := .tuple #[.agg #[.int .i64 0, .int .i64 0], .bool false]) (by simp [results, Tryd.results34, go_sem, ta, tb]) rfl ⟨rfl, ?_⟩
    exact (HB1.out.setCell (by simp; try omega) _).setCell (by simp; try omega) _
  · cases gy : sealB p q
    · have hb : timesB x y p q = false := by simp only [timesB, gx, gy, Bool.and_false]
      rw [hb]; clear hb
      simp only [Bool.false_eq_true, if_false]
      go_enter Tryd.func34, Tryd.ntmps34
      go_wp2_with fail
      refine (l2Sealed_c _ _ _).mono ?_
      rw [gx]; clear gx
      rintro e w1 ⟨rfl, hb⟩
      have X1 : Hid (C2 w1 w.heap.size x y) := X0.out.keep hb; have Y1 : Hid (C2 w1 (w.heap.size + 1) p q) := Y0.out.keep hb; have T1 : Hid (C2 w1 (w.heap.size + 1 + 1) 0 0) := T0.out.keep hb; have HB1 : Hid (Below w.heap.size w w1) := HB0.out.trans (hb.mono (by have := X0.out.lt; omega))
      clear hb X0 Y0 T0 HB0
      obtain ⟨xa, xb, xc, xd⟩ := X1.out; obtain ⟨ya, yb, yc, yd⟩ := Y1.out; obtain ⟨ta, tb, tc, td⟩ := T1.out; have lt := X1.out.lt; have lt2 := T1.out.lt
      go_wp2_with fail
      refine (l2Sealed_c _ _ _).mono ?_
      rw [gy]; clear gy
      rintro e w2 ⟨rfl, hb⟩
      clear xa xb xc xd ya yb yc yd ta tb tc td lt lt2
      have X2 : Hid (C2 w2 w.heap.size x y) := X1.out.keep hb; have Y2 : Hid (C2 w2 (w.heap.size + 1) p q) := Y1.out.keep hb; have T2 : Hid (C2 w2 (w.heap.size + 1 + 1) 0 0) := T1.out.keep hb; have HB2 : Hid (Below w.heap.size w w2) := HB1.out.trans (hb.mono (by have := X1.out.lt; omega))
      clear hb X1 Y1 T1 HB1
      obtain ⟨xa, xb, xc, xd⟩ := X2.out; obtain ⟨ya, yb, yc, yd⟩ := Y2.out; obtain ⟨ta, tb, tc, td⟩ := T2.out; have lt := X2.out.lt; have lt2 := T2.out.lt
      go_wp2
      refine bodyPost_ret (v := .tuple #[.agg #[.int .i64 0, .int .i64 0], .bool false]) (by simp [results, Tryd.results34, go_sem, ta, tb]) rfl ⟨rfl, ?_⟩
      exact (HB2.out.setCell (by simp; try omega) _).setCell (by simp; try omega) _
    · have hb : timesB x y p q = true := by simp only [timesB, gx, gy, Bool.and_self]
      rw [hb]; clear hb
      simp only [if_true]
      have hxy := sealB_in gx
      have hpq := sealB_in gy
      have h1 := prod_lt (x := x) (y := p) (by omega) (by omega) (by omega) (by omega)
      have h2 := prod_lt (x := y) (y := q) (by omega) (by omega) (by omega) (by omega)
      go_enter Tryd.func34, Tryd.ntmps34
      go_wp2_with fail
      refine (l2Sealed_c _ _ _).mono ?_
      rw [gx]; clear gx
      rintro e w1 ⟨rfl, hb⟩
      have X1 : Hid (C2 w1 w.heap.size x y) := X0.out.keep hb; have Y1 : Hid (C2 w1 (w.heap.size + 1) p q) := Y0.out.keep hb; have T1 : Hid (C2 w1 (w.heap.size + 1 + 1) 0 0) := T0.out.keep hb; have HB1 : Hid (Below w.heap.size w w1) := HB0.out.trans (hb.mono (by have := X0.out.lt; omega))
      clear hb X0 Y0 T0 HB0
      obtain ⟨xa, xb, xc, xd⟩ := X1.out; obtain ⟨ya, yb, yc, yd⟩ := Y1.out; obtain ⟨ta, tb, tc, td⟩ := T1.out; have lt := X1.out.lt; have lt2 := T1.out.lt
      go_wp2_with fail
      refine (l2Sealed_c _ _ _).mono ?_
      rw [gy]; clear gy
      rintro e w2 ⟨rfl, hb⟩
      clear xa xb xc xd ya yb yc yd ta tb tc td lt lt2
      have X2 : Hid (C2 w2 w.heap.size x y) := X1.out.keep hb; have Y2 : Hid (C2 w2 (w.heap.size + 1) p q) := Y1.out.keep hb; have T2 : Hid (C2 w2 (w.heap.size + 1 + 1) 0 0) := T1.out.keep hb; have HB2 : Hid (Below w.heap.size w w2) := HB1.out.trans (hb.mono (by have := X1.out.lt; omega))
      clear hb X1 Y1 T1 HB1
      obtain ⟨xa, xb, xc, xd⟩ := X2.out; obtain ⟨ya, yb, yc, yd⟩ := Y2.out; obtain ⟨ta, tb, tc, td⟩ := T2.out; have lt := X2.out.lt; have lt2 := T2.out.lt
      go_wp2
      refine bodyPost_ret (v := .tuple #[.agg #[.int .i64 (x * p % 2999), .int .i64 (y * q % 2999)], .bool true]) (by simp [results, Tryd.results34, go_sem, ta, tb]) rfl ⟨rfl, ?_⟩
      exact (HB2.out.setCell (by simp; try omega) _).setCell (by simp; try omega) _

end Go.Proofs.YtlgnipfhchonbaaDoor
