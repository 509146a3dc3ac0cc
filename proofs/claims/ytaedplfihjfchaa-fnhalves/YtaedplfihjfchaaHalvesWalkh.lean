/- The walk of the program's HalvesTimes at good numbers of at most three limbs. -/
import Derived.Test.YtaedplfihjfchaaHalvesh
import Derived.Deep.RegionHeld3
import Derived.Deep.DrawnRows
import Derived.Deep.DeepCutAuto
import Derived.Deep.Light
namespace Go.Proofs.Ytaedplfihjfchaa
set_option linter.unusedVariables false
set_option maxRecDepth 1000000
set_option linter.unusedSimpArgs false
open Go.RowKit
attribute [local go_sem ↓] Go.wp_at_zero Go.wp_at_succ

/-- A call from any world behind w answers r, and turns nothing that was there. -/
def Rel (w : World) (f : Nat) (args : Array Value) (r : Value) : Prop :=
  ∀ W, Below w.heap.size w W → Calls Try.prog f args W fun e w' => e = .returned r ∧ Hid (Below w.heap.size w w') ∧ Below W.heap.size W w'


theorem takeH {P : Program} {ops : Array Oper} {Q : Exit → Act → World → Prop} {md : Region.Mode} {S : World → Prop} {i : Nat} {oi : Oper} {v : Value} {d : Option Tmp} {fuel : Nat} {listed : Array Bool} {a : Act} {w : World} (hi : ops[i]? = some oi) (hd : oi.dst = d)
    (hs : Region.noSelect ops = true) (hf : Region.free md ops listed i = true) (hr : (Region.ready md ops listed).contains i = true)
    (hQ : ∀ c a w, Q (.panic c) (a.put d v) w → Q (.panic c) a w) (hy : YieldsIf P ops S oi v a) (hS : S w)
    (h : wpAnyH P md ops Q S fuel (listed.setIfInBounds i true) (a.put d v) w) : wpAnyH P md ops Q S (fuel + 1) listed a w := by
  subst hd
  exact wpAnyH_take hi hs hf hr hQ hy hS h

set_option maxHeartbeats 16000000 in
set_option maxRecDepth 1000000 in
theorem halvesWalk (ao bo : Option Addr) (n k c d9 : Nat) (xs ys : List Int) (w : World) (hx : xs.length = n) (hy : ys.length = k) (hn3 : n ≤ 3) (hk3 : k ≤ 3) (hr : Rd w ao xs) (hs : Rd w bo ys) (gx : goodB xs = true) (gy : goodB ys = true)
    (a0 a1 a2 b0 b1 b2 l0 l1 l2 l3 l4 l5 u0 u1 u2 u3 u4 u5 s0 s1 s2 s3 s4 s5 t0 t1 t2 t3 t4 t5 p0 p1 p2 p3 p4 p5 d0 d1 d2 d3 d4 d5 m0 m1 m2 m3 m4 m5 q0 q1 q2 q3 q4 q5 z0 z1 z2 z3 z4 z5 : Int) (pl : Nat) (hp : (trim [z0, z1, z2, z3, z4, z5]).length = pl)
    (C1 : Hid (Rel w 24 #[.agg #[.slice ao n c]] (.agg #[.int .i64 a0, .int .i64 a1, .int .i64 a2, .int .i64 0, .int .i64 0, .int .i64 0])))
    (C2 : Hid (Rel w 23 #[.agg #[.int .i64 a0, .int .i64 a1, .int .i64 a2, .int .i64 0, .int .i64 0, .int .i64 0]] (.tuple #[.agg #[.int .i64 a0, .int .i64 a1, .int .i64 0, .int .i64 0, .int .i64 0, .int .i64 0], .agg #[.int .i64 a2, .int .i64 0, .int .i64 0, .int .i64 0, .int .i64 0, .int .i64 0]])))
    (C3 : Hid (Rel w 24 #[.agg #[.slice bo k d9]] (.agg #[.int .i64 b0, .int .i64 b1, .int .i64 b2, .int .i64 0, .int .i64 0, .int .i64 0])))
    (C4 : Hid (Rel w 23 #[.agg #[.int .i64 b0, .int .i64 b1, .int .i64 b2, .int .i64 0, .int .i64 0, .int .i64 0]] (.tuple #[.agg #[.int .i64 b0, .int .i64 b1, .int .i64 0, .int .i64 0, .int .i64 0, .int .i64 0], .agg #[.int .i64 b2, .int .i64 0, .int .i64 0, .int .i64 0, .int .i64 0, .int .i64 0]])))
    (C5 : Hid (Rel w 25 #[.agg #[.int .i64 a0, .int .i64 a1, .int .i64 0, .int .i64 0, .int .i64 0, .int .i64 0], .agg #[.int .i64 b0, .int .i64 b1, .int .i64 0, .int .i64 0, .int .i64 0, .int .i64 0]] (.tuple #[.agg #[.int .i64 l0, .int .i64 l1, .int .i64 l2, .int .i64 l3, .int .i64 l4, .int .i64 l5], .agg #[.int .i64 0, .int .i64 0, .int .i64 0, .int .i64 0, .int .i64 0, .int .i64 0]])))
    (C6 : Hid (Rel w 25 #[.agg #[.int .i64 a2, .int .i64 0, .int .i64 0, .int .i64 0, .int .i64 0, .int .i64 0], .agg #[.int .i64 b2, .int .i64 0, .int .i64 0, .int .i64 0, .int .i64 0, .int .i64 0]] (.tuple #[.agg #[.int .i64 u0, .int .i64 u1, .int .i64 u2, .int .i64 u3, .int .i64 u4, .int .i64 u5], .agg #[.int .i64 0, .int .i64 0, .int .i64 0, .int .i64 0, .int .i64 0, .int .i64 0]])))
    (C7 : Hid (Rel w 26 #[.agg #[.int .i64 a0, .int .i64 a1, .int .i64 0, .int .i64 0, .int .i64 0, .int .i64 0], .agg #[.int .i64 a2, .int .i64 0, .int .i64 0, .int .i64 0, .int .i64 0, .int .i64 0]] (.tuple #[.agg #[.int .i64 s0, .int .i64 s1, .int .i64 s2, .int .i64 s3, .int .i64 s4, .int .i64 s5], .int .i64 0])))
    (C8 : Hid (Rel w 26 #[.agg #[.int .i64 b0, .int .i64 b1, .int .i64 0, .int .i64 0, .int .i64 0, .int .i64 0], .agg #[.int .i64 b2, .int .i64 0, .int .i64 0, .int .i64 0, .int .i64 0, .int .i64 0]] (.tuple #[.agg #[.int .i64 t0, .int .i64 t1, .int .i64 t2, .int .i64 t3, .int .i64 t4, .int .i64 t5], .int .i64 0])))
    (C9 : Hid (Rel w 25 #[.agg #[.int .i64 s0, .int .i64 s1, .int .i64 s2, .int .i64 s3, .int .i64 s4, .int .i64 s5], .agg #[.int .i64 t0, .int .i64 t1, .int .i64 t2, .int .i64 t3, .int .i64 t4, .int .i64 t5]] (.tuple #[.agg #[.int .i64 p0, .int .i64 p1, .int .i64 p2, .int .i64 p3, .int .i64 p4, .int .i64 p5], .agg #[.int .i64 0, .int .i64 0, .int .i64 0, .int .i64 0, .int .i64 0, .int .i64 0]])))
    (C10 : Hid (Rel w 27 #[.agg #[.int .i64 p0, .int .i64 p1, .int .i64 p2, .int .i64 p3, .int .i64 p4, .int .i64 p5], .agg #[.int .i64 l0, .int .i64 l1, .int .i64 l2, .int .i64 l3, .int .i64 l4, .int .i64 l5]] (.agg #[.int .i64 d0, .int .i64 d1, .int .i64 d2, .int .i64 d3, .int .i64 d4, .int .i64 d5])))
    (C11 : Hid (Rel w 27 #[.agg #[.int .i64 d0, .int .i64 d1, .int .i64 d2, .int .i64 d3, .int .i64 d4, .int .i64 d5], .agg #[.int .i64 u0, .int .i64 u1, .int .i64 u2, .int .i64 u3, .int .i64 u4, .int .i64 u5]] (.agg #[.int .i64 m0, .int .i64 m1, .int .i64 m2, .int .i64 m3, .int .i64 m4, .int .i64 m5])))
    (C12 : Hid (Rel w 28 #[.agg #[.int .i64 m0, .int .i64 m1, .int .i64 m2, .int .i64 m3, .int .i64 m4, .int .i64 m5], .int .i64 2] (.agg #[.int .i64 0, .int .i64 0, .int .i64 m0, .int .i64 m1, .int .i64 m2, .int .i64 m3])))
    (C13 : Hid (Rel w 26 #[.agg #[.int .i64 l0, .int .i64 l1, .int .i64 l2, .int .i64 l3, .int .i64 l4, .int .i64 l5], .agg #[.int .i64 0, .int .i64 0, .int .i64 m0, .int .i64 m1, .int .i64 m2, .int .i64 m3]] (.tuple #[.agg #[.int .i64 q0, .int .i64 q1, .int .i64 q2, .int .i64 q3, .int .i64 q4, .int .i64 q5], .int .i64 0])))
    (C14 : Hid (Rel w 28 #[.agg #[.int .i64 u0, .int .i64 u1, .int .i64 u2, .int .i64 u3, .int .i64 u4, .int .i64 u5], .int .i64 4] (.agg #[.int .i64 0, .int .i64 0, .int .i64 0, .int .i64 0, .int .i64 u0, .int .i64 u1])))
    (C15 : Hid (Rel w 26 #[.agg #[.int .i64 q0, .int .i64 q1, .int .i64 q2, .int .i64 q3, .int .i64 q4, .int .i64 q5], .agg #[.int .i64 0, .int .i64 0, .int .i64 0, .int .i64 0, .int .i64 u0, .int .i64 u1]] (.tuple #[.agg #[.int .i64 z0, .int .i64 z1, .int .i64 z2, .int .i64 z3, .int .i64 z4, .int .i64 z5], .int .i64 0]))) :
    Calls Try.prog 5 #[.agg #[.slice ao n c], .agg #[.slice bo k d9]] w fun e w' => ∃ a' c', e = .returned (.tuple #[.agg #[.slice a' pl c'], .bool true]) ∧ Own w' w.heap.size (.slice a' pl c') (trim [z0, z1, z2, z3, z4, z5]) ∧ Below w.heap.size w w' := by
  have HX : Hid (xs.length = n) := hx
  have HY : Hid (ys.length = k) := hy
  have HR : Hid (Rd w ao xs) := hr
  have HS : Hid (Rd w bo ys) := hs
  have HP : Hid ((trim [z0, z1, z2, z3, z4, z5]).length = pl) := hp
  have HB0 : Hid (Below w.heap.size w (((w.alloc (Obj.cells #[Value.slice ao n c] 25)).alloc (Obj.cells #[Value.slice bo k d9] 25)).alloc (Obj.cells #[Value.slice none 0 0] 25))) := below_three w _ _ _
  have i3 : ¬ (3 : Int) < (n : Int) := by omega
  have j3 : ¬ (3 : Int) < (k : Int) := by omega
  clear hx hy hr hs hp
  go_enter Try.func5, Try.ntmps5
  go_wp2_with fail
  refine (implGood_c ao n c xs _ HX.out (by omega) (HR.out.later HB0.out)).mono ?_
  rw [gx]
  rintro e w1 ⟨rfl, hb⟩
  have HB1 : Hid (Below w.heap.size w w1) := HB0.out.trans (hb.mono (by simp; omega))
  have x1 : w1.cell? ⟨w.heap.size, 0, none⟩ = some (.slice ao n c) := cell_keep (S := 0) hb (calloc (calloc (by simp)))
  have y1 : w1.cell? ⟨w.heap.size + 1, 0, none⟩ = some (.slice bo k d9) := cell_keep (S := 0) hb (calloc (by simp))
  have t1 : w1.cell? ⟨w.heap.size + 1 + 1, 0, none⟩ = some (.slice none 0 0) := cell_keep (S := 0) hb (by rw [World.cell?_alloc_at _ _ _ _ (by simp)]; rfl)
  have f1 : w1.frozen? ⟨w.heap.size + 1 + 1, 0, none⟩ = false := fcell_keep hb (by simp) (fz3 _ _ _ _ _ _ _)
  have l1 : w.heap.size + 1 + 1 < w1.heap.size := World.block_lt_of_cell? _ _ t1
  clear hb gx
  go_wp2_with fail
  refine (implGood_c bo k d9 ys _ HY.out (by omega) (HS.out.later HB1.out)).mono ?_
  rw [gy]
  rintro e w2 ⟨rfl, hb⟩
  have HB2 : Hid (Below w.heap.size w w2) := HB1.out.trans (hb.mono (HB1.out.size))
  have x2 : w2.cell? ⟨w.heap.size, 0, none⟩ = some (.slice ao n c) := cell_keep (S := 0) hb x1
  have y2 : w2.cell? ⟨w.heap.size + 1, 0, none⟩ = some (.slice bo k d9) := cell_keep (S := 0) hb y1
  have t2 : w2.cell? ⟨w.heap.size + 1 + 1, 0, none⟩ = some (.slice none 0 0) := cell_keep (S := 0) hb t1
  have f2 : w2.frozen? ⟨w.heap.size + 1 + 1, 0, none⟩ = false := fcell_keep hb l1 f1
  have l2 : w.heap.size + 1 + 1 < w2.heap.size := World.block_lt_of_cell? _ _ t2
  clear hb gy x1 y1 t1 f1 l1
  go_wp2_with fail
  refine (C1.out _ (by repeat (first | with_reducible exact HB2.out | refine Below.drew ?_ | refine Below.alloc ?_ (by first | exact HB2.out.size | (have := HB2.out.size; simp; omega)) _))).mono ?_
  rintro e w3 ⟨rfl, HB3, hb⟩
  have x3 : w3.cell? ⟨w.heap.size, 0, none⟩ = some (.slice ao n c) := cell_keep (S := 0) hb (by repeat (first | with_reducible exact x2 | refine calloc ?_))
  have y3 : w3.cell? ⟨w.heap.size + 1, 0, none⟩ = some (.slice bo k d9) := cell_keep (S := 0) hb (by repeat (first | with_reducible exact y2 | refine calloc ?_))
  have t3 : w3.cell? ⟨w.heap.size + 1 + 1, 0, none⟩ = some (.slice none 0 0) := cell_keep (S := 0) hb (by repeat (first | with_reducible exact t2 | refine calloc ?_))
  have l3 : w.heap.size + 1 + 1 < w3.heap.size := World.block_lt_of_cell? _ _ t3
  have f3 : w3.frozen? ⟨w.heap.size + 1 + 1, 0, none⟩ = false := fcell_keep hb (by first | exact l2 | (simp; omega)) (by repeat (first | with_reducible exact f2 | refine falloc ?_ (by first | exact l2 | (simp; omega))))
  clear hb  x2 y2 t2 f2 l2
  try clear ex0 ex1 ex2 ex3 ex4 ex5
  try clear ey0 ey1 ey2 ey3 ey4 ey5
  try clear elx
  try clear ely
  try clear emx
  try clear emy
  try clear lx ly
  have lx : w.heap.size < w3.heap.size := by omega
  have ly : w.heap.size + 1 < w3.heap.size := by omega
  go_wp2_with fail
  refine (C2.out _ (by repeat (first | with_reducible exact HB3.out | refine Below.drew ?_ | refine Below.alloc ?_ (by first | exact HB3.out.size | (have := HB3.out.size; simp; omega)) _))).mono ?_
  rintro e w4 ⟨rfl, HB4, hb⟩
  have x4 : w4.cell? ⟨w.heap.size, 0, none⟩ = some (.slice ao n c) := cell_keep (S := 0) hb (by repeat (first | with_reducible exact x3 | refine calloc ?_))
  have y4 : w4.cell? ⟨w.heap.size + 1, 0, none⟩ = some (.slice bo k d9) := cell_keep (S := 0) hb (by repeat (first | with_reducible exact y3 | refine calloc ?_))
  have t4 : w4.cell? ⟨w.heap.size + 1 + 1, 0, none⟩ = some (.slice none 0 0) := cell_keep (S := 0) hb (by repeat (first | with_reducible exact t3 | refine calloc ?_))
  have l4 : w.heap.size + 1 + 1 < w4.heap.size := World.block_lt_of_cell? _ _ t4
  have f4 : w4.frozen? ⟨w.heap.size + 1 + 1, 0, none⟩ = false := fcell_keep hb (by first | exact l3 | (simp; omega)) (by repeat (first | with_reducible exact f3 | refine falloc ?_ (by first | exact l3 | (simp; omega))))
  clear hb  x3 y3 t3 f3 l3
  try clear ex0 ex1 ex2 ex3 ex4 ex5
  try clear ey0 ey1 ey2 ey3 ey4 ey5
  try clear elx
  try clear ely
  try clear emx
  try clear emy
  try clear lx ly
  have lx : w.heap.size < w4.heap.size := by omega
  have ly : w.heap.size + 1 < w4.heap.size := by omega
  go_wp2_with fail
  refine (C3.out _ (by repeat (first | with_reducible exact HB4.out | refine Below.drew ?_ | refine Below.alloc ?_ (by first | exact HB4.out.size | (have := HB4.out.size; simp; omega)) _))).mono ?_
  rintro e w5 ⟨rfl, HB5, hb⟩
  have LA_5 : Hid (D6 w5 (w4.heap.size) a0 a1 0 0 0 0) := (by show D6 _ _ _ _ _ _ _ _; refine D6.keep ?_ hb; repeat (first | with_reducible exact d6_new (by first | rfl | (simp; done)) | refine D6.drew ?_ | refine D6.alloc ?_ _))
  have UA_5 : Hid (D6 w5 (w4.heap.size + 1) a2 0 0 0 0 0) := (by show D6 _ _ _ _ _ _ _ _; refine D6.keep ?_ hb; repeat (first | with_reducible exact d6_new (by first | rfl | (simp; done)) | refine D6.drew ?_ | refine D6.alloc ?_ _))
  have y5 : w5.cell? ⟨w.heap.size + 1, 0, none⟩ = some (.slice bo k d9) := cell_keep (S := 0) hb (by repeat (first | with_reducible exact y4 | refine calloc ?_))
  have t5 : w5.cell? ⟨w.heap.size + 1 + 1, 0, none⟩ = some (.slice none 0 0) := cell_keep (S := 0) hb (by repeat (first | with_reducible exact t4 | refine calloc ?_))
  have l5 : w.heap.size + 1 + 1 < w5.heap.size := World.block_lt_of_cell? _ _ t5
  have f5 : w5.frozen? ⟨w.heap.size + 1 + 1, 0, none⟩ = false := fcell_keep hb (by first | exact l4 | (simp; omega)) (by repeat (first | with_reducible exact f4 | refine falloc ?_ (by first | exact l4 | (simp; omega))))
  clear hb  y4 t4 f4 l4
  try clear ex0 ex1 ex2 ex3 ex4 ex5
  try clear ey0 ey1 ey2 ey3 ey4 ey5
  try clear elx
  try clear ely
  try clear emx
  try clear emy
  try clear lx ly
  have lx : w.heap.size < w5.heap.size := by omega
  have ly : w.heap.size + 1 < w5.heap.size := by omega
  go_wp2_with fail
  refine (C4.out _ (by repeat (first | with_reducible exact HB5.out | refine Below.drew ?_ | refine Below.alloc ?_ (by first | exact HB5.out.size | (have := HB5.out.size; simp; omega)) _))).mono ?_
  rintro e w6 ⟨rfl, HB6, hb⟩
  have LA_6 : Hid (D6 w6 (w4.heap.size) a0 a1 0 0 0 0) := (by show D6 _ _ _ _ _ _ _ _; refine D6.keep ?_ hb; repeat (first | with_reducible exact LA_5.out | refine D6.drew ?_ | refine D6.alloc ?_ _))
  have UA_6 : Hid (D6 w6 (w4.heap.size + 1) a2 0 0 0 0 0) := (by show D6 _ _ _ _ _ _ _ _; refine D6.keep ?_ hb; repeat (first | with_reducible exact UA_5.out | refine D6.drew ?_ | refine D6.alloc ?_ _))
  have t6 : w6.cell? ⟨w.heap.size + 1 + 1, 0, none⟩ = some (.slice none 0 0) := cell_keep (S := 0) hb (by repeat (first | with_reducible exact t5 | refine calloc ?_))
  have l6 : w.heap.size + 1 + 1 < w6.heap.size := World.block_lt_of_cell? _ _ t6
  have f6 : w6.frozen? ⟨w.heap.size + 1 + 1, 0, none⟩ = false := fcell_keep hb (by first | exact l5 | (simp; omega)) (by repeat (first | with_reducible exact f5 | refine falloc ?_ (by first | exact l5 | (simp; omega))))
  clear hb LA_5 UA_5 t5 f5 l5
  try clear ex0 ex1 ex2 ex3 ex4 ex5
  try clear ey0 ey1 ey2 ey3 ey4 ey5
  try clear elx
  try clear ely
  try clear emx
  try clear emy
  try clear lx ly
  have lx : w.heap.size < w6.heap.size := by omega
  have ly : w.heap.size + 1 < w6.heap.size := by omega
  obtain ⟨ex0, ex1, ex2, ex3, ex4, ex5⟩ := LA_6.out.1
  have elx := LA_6.out.lt
  go_wp2_with fail
  refine (C5.out _ (by repeat (first | with_reducible exact HB6.out | refine Below.drew ?_ | refine Below.alloc ?_ (by first | exact HB6.out.size | (have := HB6.out.size; simp; omega)) _))).mono ?_
  rintro e w7 ⟨rfl, HB7, hb⟩
  have LA_7 : Hid (D6 w7 (w4.heap.size) a0 a1 0 0 0 0) := (by show D6 _ _ _ _ _ _ _ _; refine D6.keep ?_ hb; repeat (first | with_reducible exact LA_6.out | refine D6.drew ?_ | refine D6.alloc ?_ _))
  have UA_7 : Hid (D6 w7 (w4.heap.size + 1) a2 0 0 0 0 0) := (by show D6 _ _ _ _ _ _ _ _; refine D6.keep ?_ hb; repeat (first | with_reducible exact UA_6.out | refine D6.drew ?_ | refine D6.alloc ?_ _))
  have LB_7 : Hid (D6 w7 (w6.heap.size) b0 b1 0 0 0 0) := (by show D6 _ _ _ _ _ _ _ _; refine D6.keep ?_ hb; repeat (first | with_reducible exact d6_new (by first | rfl | (simp; done)) | refine D6.drew ?_ | refine D6.alloc ?_ _))
  have UB_7 : Hid (D6 w7 (w6.heap.size + 1) b2 0 0 0 0 0) := (by show D6 _ _ _ _ _ _ _ _; refine D6.keep ?_ hb; repeat (first | with_reducible exact d6_new (by first | rfl | (simp; done)) | refine D6.drew ?_ | refine D6.alloc ?_ _))
  have t7 : w7.cell? ⟨w.heap.size + 1 + 1, 0, none⟩ = some (.slice none 0 0) := cell_keep (S := 0) hb (by repeat (first | with_reducible exact t6 | refine calloc ?_))
  have l7 : w.heap.size + 1 + 1 < w7.heap.size := World.block_lt_of_cell? _ _ t7
  have f7 : w7.frozen? ⟨w.heap.size + 1 + 1, 0, none⟩ = false := fcell_keep hb (by first | exact l6 | (simp; omega)) (by repeat (first | with_reducible exact f6 | refine falloc ?_ (by first | exact l6 | (simp; omega))))
  clear hb LA_6 UA_6 t6 f6 l6
  try clear ex0 ex1 ex2 ex3 ex4 ex5
  try clear ey0 ey1 ey2 ey3 ey4 ey5
  try clear elx
  try clear ely
  try clear emx
  try clear emy
  try clear lx ly
  have lx : w.heap.size < w7.heap.size := by omega
  have ly : w.heap.size + 1 < w7.heap.size := by omega
  obtain ⟨ex0, ex1, ex2, ex3, ex4, ex5⟩ := UA_7.out.1
  have elx := UA_7.out.lt
  have emx : w4.heap.size < w7.heap.size := by omega
  obtain ⟨ey0, ey1, ey2, ey3, ey4, ey5⟩ := UB_7.out.1
  have ely := UB_7.out.lt
  have emy : w6.heap.size < w7.heap.size := by omega
  have qa := l7
  go_wp2_with fail
  refine (C6.out _ (by repeat (first | with_reducible exact HB7.out | refine Below.drew ?_ | refine Below.alloc ?_ (by first | exact HB7.out.size | (have := HB7.out.size; simp; omega)) _))).mono ?_
  rintro e w8 ⟨rfl, HB8, hb⟩
  have LA_8 : Hid (D6 w8 (w4.heap.size) a0 a1 0 0 0 0) := (by show D6 _ _ _ _ _ _ _ _; refine D6.keep ?_ hb; repeat (first | with_reducible exact LA_7.out | refine D6.drew ?_ | refine D6.alloc ?_ _))
  have UA_8 : Hid (D6 w8 (w4.heap.size + 1) a2 0 0 0 0 0) := (by show D6 _ _ _ _ _ _ _ _; refine D6.keep ?_ hb; repeat (first | with_reducible exact UA_7.out | refine D6.drew ?_ | refine D6.alloc ?_ _))
  have LB_8 : Hid (D6 w8 (w6.heap.size) b0 b1 0 0 0 0) := (by show D6 _ _ _ _ _ _ _ _; refine D6.keep ?_ hb; repeat (first | with_reducible exact LB_7.out | refine D6.drew ?_ | refine D6.alloc ?_ _))
  have UB_8 : Hid (D6 w8 (w6.heap.size + 1) b2 0 0 0 0 0) := (by show D6 _ _ _ _ _ _ _ _; refine D6.keep ?_ hb; repeat (first | with_reducible exact UB_7.out | refine D6.drew ?_ | refine D6.alloc ?_ _))
  have LO_8 : Hid (D6 w8 (w7.heap.size) l0 l1 l2 l3 l4 l5) := (by show D6 _ _ _ _ _ _ _ _; refine D6.keep ?_ hb; repeat (first | with_reducible exact d6_new (by first | rfl | (simp; done)) | refine D6.drew ?_ | refine D6.alloc ?_ _))
  have t8 : w8.cell? ⟨w.heap.size + 1 + 1, 0, none⟩ = some (.slice none 0 0) := cell_keep (S := 0) hb (by repeat (first | with_reducible exact t7 | refine calloc ?_))
  have l8 : w.heap.size + 1 + 1 < w8.heap.size := World.block_lt_of_cell? _ _ t8
  have f8 : w8.frozen? ⟨w.heap.size + 1 + 1, 0, none⟩ = false := fcell_keep hb (by first | exact l7 | (simp; omega)) (by repeat (first | with_reducible exact f7 | refine falloc ?_ (by first | exact l7 | (simp; omega))))
  clear hb LA_7 UA_7 LB_7 UB_7 t7 f7 l7
  try clear ex0 ex1 ex2 ex3 ex4 ex5
  try clear ey0 ey1 ey2 ey3 ey4 ey5
  try clear elx
  try clear ely
  try clear emx
  try clear emy
  try clear lx ly
  have lx : w.heap.size < w8.heap.size := by omega
  have ly : w.heap.size + 1 < w8.heap.size := by omega
  obtain ⟨ex0, ex1, ex2, ex3, ex4, ex5⟩ := LA_8.out.1
  have elx := LA_8.out.lt
  obtain ⟨ey0, ey1, ey2, ey3, ey4, ey5⟩ := UA_8.out.1
  have ely := UA_8.out.lt
  have emy : w4.heap.size < w8.heap.size := by omega
  have qb := l8
  go_wp2_with fail
  refine (C7.out _ (by repeat (first | with_reducible exact HB8.out | refine Below.drew ?_ | refine Below.alloc ?_ (by first | exact HB8.out.size | (have := HB8.out.size; simp; omega)) _))).mono ?_
  rintro e w9 ⟨rfl, HB9, hb⟩
  have LA_9 : Hid (D6 w9 (w4.heap.size) a0 a1 0 0 0 0) := (by show D6 _ _ _ _ _ _ _ _; refine D6.keep ?_ hb; repeat (first | with_reducible exact LA_8.out | refine D6.drew ?_ | refine D6.alloc ?_ _))
  have UA_9 : Hid (D6 w9 (w4.heap.size + 1) a2 0 0 0 0 0) := (by show D6 _ _ _ _ _ _ _ _; refine D6.keep ?_ hb; repeat (first | with_reducible exact UA_8.out | refine D6.drew ?_ | refine D6.alloc ?_ _))
  have LB_9 : Hid (D6 w9 (w6.heap.size) b0 b1 0 0 0 0) := (by show D6 _ _ _ _ _ _ _ _; refine D6.keep ?_ hb; repeat (first | with_reducible exact LB_8.out | refine D6.drew ?_ | refine D6.alloc ?_ _))
  have UB_9 : Hid (D6 w9 (w6.heap.size + 1) b2 0 0 0 0 0) := (by show D6 _ _ _ _ _ _ _ _; refine D6.keep ?_ hb; repeat (first | with_reducible exact UB_8.out | refine D6.drew ?_ | refine D6.alloc ?_ _))
  have LO_9 : Hid (D6 w9 (w7.heap.size) l0 l1 l2 l3 l4 l5) := (by show D6 _ _ _ _ _ _ _ _; refine D6.keep ?_ hb; repeat (first | with_reducible exact LO_8.out | refine D6.drew ?_ | refine D6.alloc ?_ _))
  have UP_9 : Hid (D6 w9 (w8.heap.size) u0 u1 u2 u3 u4 u5) := (by show D6 _ _ _ _ _ _ _ _; refine D6.keep ?_ hb; repeat (first | with_reducible exact d6_new (by first | rfl | (simp; done)) | refine D6.drew ?_ | refine D6.alloc ?_ _))
  have t9 : w9.cell? ⟨w.heap.size + 1 + 1, 0, none⟩ = some (.slice none 0 0) := cell_keep (S := 0) hb (by repeat (first | with_reducible exact t8 | refine calloc ?_))
  have l9 : w.heap.size + 1 + 1 < w9.heap.size := World.block_lt_of_cell? _ _ t9
  have f9 : w9.frozen? ⟨w.heap.size + 1 + 1, 0, none⟩ = false := fcell_keep hb (by first | exact l8 | (simp; omega)) (by repeat (first | with_reducible exact f8 | refine falloc ?_ (by first | exact l8 | (simp; omega))))
  clear hb LA_8 UA_8 LB_8 UB_8 LO_8 t8 f8 l8
  try clear ex0 ex1 ex2 ex3 ex4 ex5
  try clear ey0 ey1 ey2 ey3 ey4 ey5
  try clear elx
  try clear ely
  try clear emx
  try clear emy
  try clear lx ly
  have lx : w.heap.size < w9.heap.size := by omega
  have ly : w.heap.size + 1 < w9.heap.size := by omega
  obtain ⟨ex0, ex1, ex2, ex3, ex4, ex5⟩ := LB_9.out.1
  have elx := LB_9.out.lt
  obtain ⟨ey0, ey1, ey2, ey3, ey4, ey5⟩ := UB_9.out.1
  have ely := UB_9.out.lt
  have emy : w6.heap.size < w9.heap.size := by omega
  go_wp2_with fail
  refine (C8.out _ (by repeat (first | with_reducible exact HB9.out | refine Below.drew ?_ | refine Below.alloc ?_ (by first | exact HB9.out.size | (have := HB9.out.size; simp; omega)) _))).mono ?_
  rintro e w10 ⟨rfl, HB10, hb⟩
  have LA_10 : Hid (D6 w10 (w4.heap.size) a0 a1 0 0 0 0) := (by show D6 _ _ _ _ _ _ _ _; refine D6.keep ?_ hb; repeat (first | with_reducible exact LA_9.out | refine D6.drew ?_ | refine D6.alloc ?_ _))
  have UA_10 : Hid (D6 w10 (w4.heap.size + 1) a2 0 0 0 0 0) := (by show D6 _ _ _ _ _ _ _ _; refine D6.keep ?_ hb; repeat (first | with_reducible exact UA_9.out | refine D6.drew ?_ | refine D6.alloc ?_ _))
  have LB_10 : Hid (D6 w10 (w6.heap.size) b0 b1 0 0 0 0) := (by show D6 _ _ _ _ _ _ _ _; refine D6.keep ?_ hb; repeat (first | with_reducible exact LB_9.out | refine D6.drew ?_ | refine D6.alloc ?_ _))
  have UB_10 : Hid (D6 w10 (w6.heap.size + 1) b2 0 0 0 0 0) := (by show D6 _ _ _ _ _ _ _ _; refine D6.keep ?_ hb; repeat (first | with_reducible exact UB_9.out | refine D6.drew ?_ | refine D6.alloc ?_ _))
  have LO_10 : Hid (D6 w10 (w7.heap.size) l0 l1 l2 l3 l4 l5) := (by show D6 _ _ _ _ _ _ _ _; refine D6.keep ?_ hb; repeat (first | with_reducible exact LO_9.out | refine D6.drew ?_ | refine D6.alloc ?_ _))
  have UP_10 : Hid (D6 w10 (w8.heap.size) u0 u1 u2 u3 u4 u5) := (by show D6 _ _ _ _ _ _ _ _; refine D6.keep ?_ hb; repeat (first | with_reducible exact UP_9.out | refine D6.drew ?_ | refine D6.alloc ?_ _))
  have SA_10 : Hid (D6 w10 (w9.heap.size) s0 s1 s2 s3 s4 s5) := (by show D6 _ _ _ _ _ _ _ _; refine D6.keep ?_ hb; repeat (first | with_reducible exact d6_new (by first | rfl | (simp; done)) | refine D6.drew ?_ | refine D6.alloc ?_ _))
  have t10 : w10.cell? ⟨w.heap.size + 1 + 1, 0, none⟩ = some (.slice none 0 0) := cell_keep (S := 0) hb (by repeat (first | with_reducible exact t9 | refine calloc ?_))
  have l10 : w.heap.size + 1 + 1 < w10.heap.size := World.block_lt_of_cell? _ _ t10
  have f10 : w10.frozen? ⟨w.heap.size + 1 + 1, 0, none⟩ = false := fcell_keep hb (by first | exact l9 | (simp; omega)) (by repeat (first | with_reducible exact f9 | refine falloc ?_ (by first | exact l9 | (simp; omega))))
  clear hb LA_9 UA_9 LB_9 UB_9 LO_9 UP_9 t9 f9 l9
  try clear ex0 ex1 ex2 ex3 ex4 ex5
  try clear ey0 ey1 ey2 ey3 ey4 ey5
  try clear elx
  try clear ely
  try clear emx
  try clear emy
  try clear lx ly
  have lx : w.heap.size < w10.heap.size := by omega
  have ly : w.heap.size + 1 < w10.heap.size := by omega
  obtain ⟨ex0, ex1, ex2, ex3, ex4, ex5⟩ := SA_10.out.1
  have elx := SA_10.out.lt
  go_wp2_with fail
  refine (C9.out _ (by repeat (first | with_reducible exact HB10.out | refine Below.drew ?_ | refine Below.alloc ?_ (by first | exact HB10.out.size | (have := HB10.out.size; simp; omega)) _))).mono ?_
  rintro e w11 ⟨rfl, HB11, hb⟩
  have LA_11 : Hid (D6 w11 (w4.heap.size) a0 a1 0 0 0 0) := (by show D6 _ _ _ _ _ _ _ _; refine D6.keep ?_ hb; repeat (first | with_reducible exact LA_10.out | refine D6.drew ?_ | refine D6.alloc ?_ _))
  have UA_11 : Hid (D6 w11 (w4.heap.size + 1) a2 0 0 0 0 0) := (by show D6 _ _ _ _ _ _ _ _; refine D6.keep ?_ hb; repeat (first | with_reducible exact UA_10.out | refine D6.drew ?_ | refine D6.alloc ?_ _))
  have LB_11 : Hid (D6 w11 (w6.heap.size) b0 b1 0 0 0 0) := (by show D6 _ _ _ _ _ _ _ _; refine D6.keep ?_ hb; repeat (first | with_reducible exact LB_10.out | refine D6.drew ?_ | refine D6.alloc ?_ _))
  have UB_11 : Hid (D6 w11 (w6.heap.size + 1) b2 0 0 0 0 0) := (by show D6 _ _ _ _ _ _ _ _; refine D6.keep ?_ hb; repeat (first | with_reducible exact UB_10.out | refine D6.drew ?_ | refine D6.alloc ?_ _))
  have LO_11 : Hid (D6 w11 (w7.heap.size) l0 l1 l2 l3 l4 l5) := (by show D6 _ _ _ _ _ _ _ _; refine D6.keep ?_ hb; repeat (first | with_reducible exact LO_10.out | refine D6.drew ?_ | refine D6.alloc ?_ _))
  have UP_11 : Hid (D6 w11 (w8.heap.size) u0 u1 u2 u3 u4 u5) := (by show D6 _ _ _ _ _ _ _ _; refine D6.keep ?_ hb; repeat (first | with_reducible exact UP_10.out | refine D6.drew ?_ | refine D6.alloc ?_ _))
  have SA_11 : Hid (D6 w11 (w9.heap.size) s0 s1 s2 s3 s4 s5) := (by show D6 _ _ _ _ _ _ _ _; refine D6.keep ?_ hb; repeat (first | with_reducible exact SA_10.out | refine D6.drew ?_ | refine D6.alloc ?_ _))
  have SB_11 : Hid (D6 w11 (w10.heap.size) t0 t1 t2 t3 t4 t5) := (by show D6 _ _ _ _ _ _ _ _; refine D6.keep ?_ hb; repeat (first | with_reducible exact d6_new (by first | rfl | (simp; done)) | refine D6.drew ?_ | refine D6.alloc ?_ _))
  have t11 : w11.cell? ⟨w.heap.size + 1 + 1, 0, none⟩ = some (.slice none 0 0) := cell_keep (S := 0) hb (by repeat (first | with_reducible exact t10 | refine calloc ?_))
  have l11 : w.heap.size + 1 + 1 < w11.heap.size := World.block_lt_of_cell? _ _ t11
  have f11 : w11.frozen? ⟨w.heap.size + 1 + 1, 0, none⟩ = false := fcell_keep hb (by first | exact l10 | (simp; omega)) (by repeat (first | with_reducible exact f10 | refine falloc ?_ (by first | exact l10 | (simp; omega))))
  clear hb LA_10 UA_10 LB_10 UB_10 LO_10 UP_10 SA_10 t10 f10 l10
  try clear ex0 ex1 ex2 ex3 ex4 ex5
  try clear ey0 ey1 ey2 ey3 ey4 ey5
  try clear elx
  try clear ely
  try clear emx
  try clear emy
  try clear lx ly
  have lx : w.heap.size < w11.heap.size := by omega
  have ly : w.heap.size + 1 < w11.heap.size := by omega
  go_wp2_with fail
  have AL_12 : Hid (D6 ((w11.alloc (Obj.cells #[Value.int .i64 p0, Value.int .i64 p1, Value.int .i64 p2, Value.int .i64 p3, Value.int .i64 p4, Value.int .i64 p5] 39)).alloc (Obj.cells #[Value.int .i64 0, Value.int .i64 0, Value.int .i64 0, Value.int .i64 0, Value.int .i64 0, Value.int .i64 0] 39)) w11.heap.size p0 p1 p2 p3 p4 p5) := D6.alloc (d6_new rfl) _
  have LO_12 : Hid (D6 ((w11.alloc (Obj.cells #[Value.int .i64 p0, Value.int .i64 p1, Value.int .i64 p2, Value.int .i64 p3, Value.int .i64 p4, Value.int .i64 p5] 39)).alloc (Obj.cells #[Value.int .i64 0, Value.int .i64 0, Value.int .i64 0, Value.int .i64 0, Value.int .i64 0, Value.int .i64 0] 39)) w7.heap.size l0 l1 l2 l3 l4 l5) := (LO_11.out.alloc _).alloc _
  have UP_12 : Hid (D6 ((w11.alloc (Obj.cells #[Value.int .i64 p0, Value.int .i64 p1, Value.int .i64 p2, Value.int .i64 p3, Value.int .i64 p4, Value.int .i64 p5] 39)).alloc (Obj.cells #[Value.int .i64 0, Value.int .i64 0, Value.int .i64 0, Value.int .i64 0, Value.int .i64 0, Value.int .i64 0] 39)) w8.heap.size u0 u1 u2 u3 u4 u5) := (UP_11.out.alloc _).alloc _
  have t12 : ((w11.alloc (Obj.cells #[Value.int .i64 p0, Value.int .i64 p1, Value.int .i64 p2, Value.int .i64 p3, Value.int .i64 p4, Value.int .i64 p5] 39)).alloc (Obj.cells #[Value.int .i64 0, Value.int .i64 0, Value.int .i64 0, Value.int .i64 0, Value.int .i64 0, Value.int .i64 0] 39)).cell? ⟨w.heap.size + 1 + 1, 0, none⟩ = some (.slice none 0 0) := calloc (calloc t11)
  have f12 : ((w11.alloc (Obj.cells #[Value.int .i64 p0, Value.int .i64 p1, Value.int .i64 p2, Value.int .i64 p3, Value.int .i64 p4, Value.int .i64 p5] 39)).alloc (Obj.cells #[Value.int .i64 0, Value.int .i64 0, Value.int .i64 0, Value.int .i64 0, Value.int .i64 0, Value.int .i64 0] 39)).frozen? ⟨w.heap.size + 1 + 1, 0, none⟩ = false := falloc (falloc f11 l11) (by simp; omega)
  have HB12 : Hid (Below w.heap.size w ((w11.alloc (Obj.cells #[Value.int .i64 p0, Value.int .i64 p1, Value.int .i64 p2, Value.int .i64 p3, Value.int .i64 p4, Value.int .i64 p5] 39)).alloc (Obj.cells #[Value.int .i64 0, Value.int .i64 0, Value.int .i64 0, Value.int .i64 0, Value.int .i64 0, Value.int .i64 0] 39))) := (HB11.out.alloc HB11.out.size _).alloc (by have := HB11.out.size; simp; omega) _
  have q12 : w.heap.size + 1 + 1 < w7.heap.size ∧ w.heap.size + 1 + 1 < w8.heap.size ∧ w.heap.size + 1 + 1 < w11.heap.size := ⟨qa, qb, l11⟩
  try clear ex0 ex1 ex2 ex3 ex4 ex5
  clear LA_11 UA_11 LB_11 UB_11 LO_11 UP_11 SA_11 SB_11 t11 f11 l11 lx ly
  try clear elx
  clear x4 y5 qa qb HB0 HB1 HB2 HB3 HB4 HB5 HB6 HB7 HB8 HB9 HB10 C1 C2 C3 C4 C5 C6 C7 C8 C9 HX HY HR HS i3 j3 hn3 hk3
  generalize ((w11.alloc (Obj.cells #[Value.int .i64 p0, Value.int .i64 p1, Value.int .i64 p2, Value.int .i64 p3, Value.int .i64 p4, Value.int .i64 p5] 39)).alloc (Obj.cells #[Value.int .i64 0, Value.int .i64 0, Value.int .i64 0, Value.int .i64 0, Value.int .i64 0, Value.int .i64 0] 39)) = w12 at *
  generalize w11.heap.size = ga at *
  generalize w8.heap.size = gu at *
  generalize w7.heap.size = gl at *
  obtain ⟨v1, v2, v3⟩ := q12
  go_upto_region 10 with fail
  go_cut [20] (fun ub wx => ∃ g : Nat, ub = .pointer (some ⟨g, 0, none⟩) ∧ w12.heap.size ≤ g ∧ C6 wx g m0 m1 m2 m3 m4 m5 ∧ (∀ o, wx.frozen? ⟨g, o, none⟩ = false) ∧ Hid (Below w12.heap.size w12 wx))
  case first => as_aux_lemma =>
    have tok1 : True := trivial
    have HC0 : Hid (Below w12.heap.size w12 w12) := Below.refl _ _
    have HD0 : Hid (Below w.heap.size w w12) := HB12
    obtain ⟨ALz0, ALz1, ALz2, ALz3, ALz4, ALz5⟩ := AL_12.out.1
    have ALzl := AL_12.out.lt
    obtain ⟨LOz0, LOz1, LOz2, LOz3, LOz4, LOz5⟩ := LO_12.out.1
    have LOzl := LO_12.out.lt
    obtain ⟨UPz0, UPz1, UPz2, UPz3, UPz4, UPz5⟩ := UP_12.out.1
    have UPzl := UP_12.out.lt
    go_region_held3 (fun w' => w'.cell? ⟨ga, 0, none⟩ = some (.int .i64 p0) ∧ w'.cell? ⟨ga, 1, none⟩ = some (.int .i64 p1) ∧ w'.cell? ⟨ga, 2, none⟩ = some (.int .i64 p2) ∧ w'.cell? ⟨ga, 3, none⟩ = some (.int .i64 p3) ∧ w'.cell? ⟨ga, 4, none⟩ = some (.int .i64 p4) ∧ w'.cell? ⟨ga, 5, none⟩ = some (.int .i64 p5) ∧ w'.cell? ⟨gl, 0, none⟩ = some (.int .i64 l0) ∧ w'.cell? ⟨gl, 1, none⟩ = some (.int .i64 l1) ∧ w'.cell? ⟨gl, 2, none⟩ = some (.int .i64 l2) ∧ w'.cell? ⟨gl, 3, none⟩ = some (.int .i64 l3) ∧ w'.cell? ⟨gl, 4, none⟩ = some (.int .i64 l4) ∧ w'.cell? ⟨gl, 5, none⟩ = some (.int .i64 l5) ∧ w'.cell? ⟨gu, 0, none⟩ = some (.int .i64 u0) ∧ w'.cell? ⟨gu, 1, none⟩ = some (.int .i64 u1) ∧ w'.cell? ⟨gu, 2, none⟩ = some (.int .i64 u2) ∧ w'.cell? ⟨gu, 3, none⟩ = some (.int .i64 u3) ∧ w'.cell? ⟨gu, 4, none⟩ = some (.int .i64 u4) ∧ w'.cell? ⟨gu, 5, none⟩ = some (.int .i64 u5)) (first | go_keep | exact ⟨keep6 ALp20 (by omega), keep6 ALp21 (by omega), keep6 ALp22 (by omega), keep6 ALp23 (by omega), keep6 ALp24 (by omega), keep6 ALp25 (by omega), keep6 LOp20 (by omega), keep6 LOp21 (by omega), keep6 LOp22 (by omega), keep6 LOp23 (by omega), keep6 LOp24 (by omega), keep6 LOp25 (by omega), keep6 UPp20 (by omega), keep6 UPp21 (by omega), keep6 UPp22 (by omega), keep6 UPp23 (by omega), keep6 UPp24 (by omega), keep6 UPp25 (by omega)⟩) (first
      | (go_at_call 27; have _t := tok1; refine (C10.out _ (by repeat (first | with_reducible exact HD0.out | refine Below.drew ?_ | refine Below.alloc ?_ (by first | omega | (simp; done) | (simp; omega)) _))).mono ?_; rintro e wp1 ⟨rfl, HD1, hb⟩; clear tok1 _t; have HC1 : Hid (Below w12.heap.size w12 wp1) := Below.trans (by repeat (first | with_reducible exact HC0.out | refine Below.drew ?_ | refine Below.alloc ?_ (by first | omega | (simp; done) | (simp; omega)) _)) (hb.mono (by first | exact Nat.le_refl _ | omega | (simp; done) | (simp; omega))); have zw1 : w12.heap.size ≤ wp1.heap.size := HC1.out.size; obtain ⟨hc1, hf1⟩ := bcell hb; have zq1 := hb.size; (try simp at hc1); (try simp at hf1); (try simp at zq1); (try (have zzw12_1 : w12.heap.size < wp1.heap.size := by omega)); obtain ⟨ALp10, ALp11, ALp12, ALp13, ALp14, ALp15⟩ := (AL_12.out.keep HC1.out).1; have ALpl1 := (AL_12.out.keep HC1.out).lt; obtain ⟨LOp10, LOp11, LOp12, LOp13, LOp14, LOp15⟩ := (LO_12.out.keep HC1.out).1; have LOpl1 := (LO_12.out.keep HC1.out).lt; obtain ⟨UPp10, UPp11, UPp12, UPp13, UPp14, UPp15⟩ := (UP_12.out.keep HC1.out).1; have UPpl1 := (UP_12.out.keep HC1.out).lt; clear hb)
      | (go_at_call 27; refine (C11.out _ (by repeat (first | with_reducible exact HD1.out | refine Below.drew ?_ | refine Below.alloc ?_ (by first | omega | (simp; done) | (simp; omega)) _))).mono ?_; rintro e wp2 ⟨rfl, HD2, hb⟩; have HC2 : Hid (Below w12.heap.size w12 wp2) := Below.trans (by repeat (first | with_reducible exact HC1.out | refine Below.drew ?_ | refine Below.alloc ?_ (by first | omega | (simp; done) | (simp; omega)) _)) (hb.mono (by first | exact Nat.le_refl _ | omega | (simp; done) | (simp; omega))); have zw2 : w12.heap.size ≤ wp2.heap.size := HC2.out.size; obtain ⟨hc2, hf2⟩ := bcell hb; have zq2 := hb.size; (try simp at hc2); (try simp at hf2); (try simp at zq2); (try (have zzw12_2 : w12.heap.size < wp2.heap.size := by omega)); (try (have zzwp1_2 : wp1.heap.size < wp2.heap.size := by omega)); obtain ⟨ALp20, ALp21, ALp22, ALp23, ALp24, ALp25⟩ := (AL_12.out.keep HC2.out).1; have ALpl2 := (AL_12.out.keep HC2.out).lt; obtain ⟨LOp20, LOp21, LOp22, LOp23, LOp24, LOp25⟩ := (LO_12.out.keep HC2.out).1; have LOpl2 := (LO_12.out.keep HC2.out).lt; obtain ⟨UPp20, UPp21, UPp22, UPp23, UPp24, UPp25⟩ := (UP_12.out.keep HC2.out).1; have UPpl2 := (UP_12.out.keep HC2.out).lt; clear hb))
    all_goals go_wp2_with fail
    all_goals go_meet
    all_goals go_light
    all_goals refine ⟨_, rfl, ?_, ?_, ?_, ?_⟩
    all_goals try (repeat' (first | (with_reducible refine c6_new ?_; simp; done) | with_reducible refine c6_set_same ?_ | with_reducible refine c6_set_ne ?_ ?_ | with_reducible refine s6_set_ne ?_ ?_ | with_reducible refine c6_alloc ?_))
    all_goals first
      | omega
      | (simp; done)
      | (simp; omega)
      | (intro o; simp [go_sem, *]; done)
      | (refine ⟨?_, ?_, ?_, ?_, ?_, ?_⟩ <;> first | (simp [*]; done) | (simp [go_sem, *]; done))
      | (show Below _ _ _; with_reducible exact below_set6 HC2.out (by omega))
      | (show Below _ _ _; with_reducible exact HC2.out.alloc (by omega) _)
  case rest => as_aux_lemma =>
    obtain ⟨g13, rfl, hg13, hn13, hz13, hb⟩ := hcut
    obtain ⟨w13, rfl⟩ : ∃ w13 : World, w13 = wc := ⟨_, rfl⟩
    have hbk : Below w12.heap.size w12 w13 := hb.out
    have HB13 : Hid (Below w.heap.size w w13) := HB12.out.trans (hbk.mono HB12.out.size)
    have s13' : w12.heap.size ≤ w13.heap.size := hbk.size
    have LO_13 : Hid (D6 w13 gl l0 l1 l2 l3 l4 l5) := LO_12.out.keep hbk
    have UP_13 : Hid (D6 w13 gu u0 u1 u2 u3 u4 u5) := UP_12.out.keep hbk
    have MI_13 : Hid (D6 w13 g13 m0 m1 m2 m3 m4 m5) := ⟨hn13, hz13⟩
    have lx12 := World.block_lt_of_cell? _ _ t12
    have t13 : w13.cell? ⟨w.heap.size + 1 + 1, 0, none⟩ = some (.slice none 0 0) := cell_keep (S := 0) hbk t12
    have f13 : w13.frozen? ⟨w.heap.size + 1 + 1, 0, none⟩ = false := fcell_keep hbk lx12 f12
    clear hbk hb hn13 hz13 LO_12 UP_12 AL_12 t12 f12 lx12 C10 C11
    go_upto_region 11 with fail
    go_cut [21, 22] (fun ub uv wx => ∃ g : Nat, ub = .pointer (some ⟨g, 0, none⟩) ∧ uv = .int .i64 0 ∧ w13.heap.size ≤ g ∧ C6 wx g q0 q1 q2 q3 q4 q5 ∧ (∀ o, wx.frozen? ⟨g, o, none⟩ = false) ∧ Hid (Below w13.heap.size w13 wx))
    case first => as_aux_lemma =>
      have tok1 : True := trivial
      have HC0 : Hid (Below w13.heap.size w13 w13) := Below.refl _ _
      have HD0 : Hid (Below w.heap.size w w13) := HB13
      obtain ⟨LOz0, LOz1, LOz2, LOz3, LOz4, LOz5⟩ := LO_13.out.1
      have LOzl := LO_13.out.lt
      obtain ⟨MIz0, MIz1, MIz2, MIz3, MIz4, MIz5⟩ := MI_13.out.1
      have MIzl := MI_13.out.lt
      go_region_held3 (fun w' => w'.cell? ⟨gl, 0, none⟩ = some (.int .i64 l0) ∧ w'.cell? ⟨gl, 1, none⟩ = some (.int .i64 l1) ∧ w'.cell? ⟨gl, 2, none⟩ = some (.int .i64 l2) ∧ w'.cell? ⟨gl, 3, none⟩ = some (.int .i64 l3) ∧ w'.cell? ⟨gl, 4, none⟩ = some (.int .i64 l4) ∧ w'.cell? ⟨gl, 5, none⟩ = some (.int .i64 l5) ∧ w'.cell? ⟨g13, 0, none⟩ = some (.int .i64 m0) ∧ w'.cell? ⟨g13, 1, none⟩ = some (.int .i64 m1) ∧ w'.cell? ⟨g13, 2, none⟩ = some (.int .i64 m2) ∧ w'.cell? ⟨g13, 3, none⟩ = some (.int .i64 m3) ∧ w'.cell? ⟨g13, 4, none⟩ = some (.int .i64 m4) ∧ w'.cell? ⟨g13, 5, none⟩ = some (.int .i64 m5)) (first | go_keep | exact ⟨keep6 LOp20 (by omega), keep6 LOp21 (by omega), keep6 LOp22 (by omega), keep6 LOp23 (by omega), keep6 LOp24 (by omega), keep6 LOp25 (by omega), keep6 MIp20 (by omega), keep6 MIp21 (by omega), keep6 MIp22 (by omega), keep6 MIp23 (by omega), keep6 MIp24 (by omega), keep6 MIp25 (by omega)⟩) (first
        | (go_at_call 28; have _t := tok1; refine (C12.out _ (by repeat (first | with_reducible exact HD0.out | refine Below.drew ?_ | refine Below.alloc ?_ (by first | omega | (simp; done) | (simp; omega)) _))).mono ?_; rintro e wp1 ⟨rfl, HD1, hb⟩; clear tok1 _t; have HC1 : Hid (Below w13.heap.size w13 wp1) := Below.trans (by repeat (first | with_reducible exact HC0.out | refine Below.drew ?_ | refine Below.alloc ?_ (by first | omega | (simp; done) | (simp; omega)) _)) (hb.mono (by first | exact Nat.le_refl _ | omega | (simp; done) | (simp; omega))); have zw1 : w13.heap.size ≤ wp1.heap.size := HC1.out.size; obtain ⟨hc1, hf1⟩ := bcell hb; have zq1 := hb.size; (try simp at hc1); (try simp at hf1); (try simp at zq1); (try (have zzw13_1 : w13.heap.size < wp1.heap.size := by omega)); obtain ⟨LOp10, LOp11, LOp12, LOp13, LOp14, LOp15⟩ := (LO_13.out.keep HC1.out).1; have LOpl1 := (LO_13.out.keep HC1.out).lt; obtain ⟨MIp10, MIp11, MIp12, MIp13, MIp14, MIp15⟩ := (MI_13.out.keep HC1.out).1; have MIpl1 := (MI_13.out.keep HC1.out).lt; clear hb)
        | (go_at_call 26; refine (C13.out _ (by repeat (first | with_reducible exact HD1.out | refine Below.drew ?_ | refine Below.alloc ?_ (by first | omega | (simp; done) | (simp; omega)) _))).mono ?_; rintro e wp2 ⟨rfl, HD2, hb⟩; have HC2 : Hid (Below w13.heap.size w13 wp2) := Below.trans (by repeat (first | with_reducible exact HC1.out | refine Below.drew ?_ | refine Below.alloc ?_ (by first | omega | (simp; done) | (simp; omega)) _)) (hb.mono (by first | exact Nat.le_refl _ | omega | (simp; done) | (simp; omega))); have zw2 : w13.heap.size ≤ wp2.heap.size := HC2.out.size; obtain ⟨hc2, hf2⟩ := bcell hb; have zq2 := hb.size; (try simp at hc2); (try simp at hf2); (try simp at zq2); (try (have zzw13_2 : w13.heap.size < wp2.heap.size := by omega)); (try (have zzwp1_2 : wp1.heap.size < wp2.heap.size := by omega)); obtain ⟨LOp20, LOp21, LOp22, LOp23, LOp24, LOp25⟩ := (LO_13.out.keep HC2.out).1; have LOpl2 := (LO_13.out.keep HC2.out).lt; obtain ⟨MIp20, MIp21, MIp22, MIp23, MIp24, MIp25⟩ := (MI_13.out.keep HC2.out).1; have MIpl2 := (MI_13.out.keep HC2.out).lt; clear hb))
      all_goals go_wp2_with fail
      all_goals go_meet
      all_goals go_light
      all_goals refine ⟨_, rfl, rfl, ?_, ?_, ?_, ?_⟩
      all_goals try (repeat' (first | (with_reducible refine c6_new ?_; simp; done) | with_reducible refine c6_set_same ?_ | with_reducible refine c6_set_ne ?_ ?_ | with_reducible refine s6_set_ne ?_ ?_ | with_reducible refine c6_alloc ?_))
      all_goals first
        | omega
        | (simp; done)
        | (simp; omega)
        | (intro o; simp [go_sem, *]; done)
        | (refine ⟨?_, ?_, ?_, ?_, ?_, ?_⟩ <;> first | (simp [*]; done) | (simp [go_sem, *]; done))
        | (show Below _ _ _; with_reducible exact below_set6 HC2.out (by omega))
        | (show Below _ _ _; with_reducible exact HC2.out.alloc (by omega) _)
    case rest => as_aux_lemma =>
      obtain ⟨g14, rfl, rfl, hg14, hn14, hz14, hb⟩ := hcut
      obtain ⟨w14, rfl⟩ : ∃ w14 : World, w14 = wc := ⟨_, rfl⟩
      have hbk : Below w13.heap.size w13 w14 := hb.out
      have HB14 : Hid (Below w.heap.size w w14) := HB13.out.trans (hbk.mono HB13.out.size)
      have s14' : w13.heap.size ≤ w14.heap.size := hbk.size
      have UP_14 : Hid (D6 w14 gu u0 u1 u2 u3 u4 u5) := UP_13.out.keep hbk
      have PR_14 : Hid (D6 w14 g14 q0 q1 q2 q3 q4 q5) := ⟨hn14, hz14⟩
      have lx13 : w.heap.size + 1 + 1 < w13.heap.size := World.block_lt_of_cell? _ _ t13
      have t14 : w14.cell? ⟨w.heap.size + 1 + 1, 0, none⟩ = some (.slice none 0 0) := cell_keep (S := 0) hbk t13
      have f14 : w14.frozen? ⟨w.heap.size + 1 + 1, 0, none⟩ = false := fcell_keep hbk lx13 f13
      have g14w : w.heap.size + 1 + 1 < g14 := by omega
      have gu14 : gu < g14 := by have := UP_13.out.lt; omega
      clear hbk hb hn14 hz14 LO_13 UP_13 MI_13 t13 f13 lx13 C12 C13
      go_upto_region 12 with fail
      go_cut [21] (fun ub wx => ub = .pointer (some ⟨g14, 0, none⟩) ∧ C6 wx g14 z0 z1 z2 z3 z4 z5 ∧ wx.cell? ⟨w.heap.size + 1 + 1, 0, none⟩ = some (.slice none 0 0) ∧ wx.frozen? ⟨w.heap.size + 1 + 1, 0, none⟩ = false ∧ Hid (Below w.heap.size w wx))
      case first => as_aux_lemma =>
        have hup := UP_14.out.1
        obtain ⟨pr0, pr1, pr2, pr3, pr4, pr5⟩ := PR_14.out.1
        have lt14 : w.heap.size + 1 + 1 < w14.heap.size := World.block_lt_of_cell? _ _ t14
        have lg14 := PR_14.out.lt
        refine wp_region_held_drew (S := (fun w' => w'.cell? ⟨gu, 0, none⟩ = some (.int .i64 u0) ∧ w'.cell? ⟨gu, 1, none⟩ = some (.int .i64 u1) ∧ w'.cell? ⟨gu, 2, none⟩ = some (.int .i64 u2) ∧ w'.cell? ⟨gu, 3, none⟩ = some (.int .i64 u3) ∧ w'.cell? ⟨gu, 4, none⟩ = some (.int .i64 u4) ∧ w'.cell? ⟨gu, 5, none⟩ = some (.int .i64 u5))) (by kernel_rfl) ?_ (fun hHeld => ?_)
        · exact hup
        refine takeH (i := 1) (oi := _) (v := ?_) (d := some 100) rfl (by kernel_rfl) (by kernel_rfl) (by kernel_rfl) (by kernel_rfl) (fun _ _ _ h => h) (Or.inl ⟨by rfl, ?_⟩) (by assumption) ?_
        rotate_left
        · (intro w hSw; (try dsimp only at hSw); go_simp <;> with_reducible rfl)
        try simp only [Act.put, List.setIfInBounds_toArray, List.set_cons_zero, List.set_cons_succ]
        refine wpAnyH_ready (rs := [0, 2]) (by kernel_rfl) (by simp) ?_
        refine AllReadyH.cons (o := _) rfl (fun K hK => ?_) (AllReadyH.cons (o := _) rfl (fun K hK => ?_) AllReadyH.nil)
        · go_simp
          refine hK.out _ _ ?_ (fun hHeld => ?_)
          · exact hup
          clear hK K
          try simp only [Act.put, List.setIfInBounds_toArray, List.set_cons_zero, List.set_cons_succ]
          refine wpAnyH_ready (rs := [2]) (by kernel_rfl) (by simp) ?_
          refine AllReadyH.cons (o := _) rfl (fun K hK => ?_) AllReadyH.nil
          go_simp
          go_at_call 28
          refine (C14.out _ (by repeat (first | with_reducible exact HB14.out | refine Below.drew ?_))).mono ?_
          rintro e w15 ⟨rfl, HB15, hb0⟩
          have hb : Below w14.heap.size w14 w15 := Below.trans (by first | exact Below.refl _ _ | exact (Below.refl _ _).drew) (hb0.mono (by first | exact Nat.le_refl _ | (simp; done)))
          have hup15 : C6 w15 gu u0 u1 u2 u3 u4 u5 := C6.keep hup hb
          have PR15 : Hid (D6 w15 g14 q0 q1 q2 q3 q4 q5) := D6.keep PR_14.out hb
          have t15 : w15.cell? ⟨w.heap.size + 1 + 1, 0, none⟩ = some (.slice none 0 0) := cell_keep (S := 0) hb t14
          have lt15 : w.heap.size + 1 + 1 < w15.heap.size := World.block_lt_of_cell? _ _ t15
          have f15 : w15.frozen? ⟨w.heap.size + 1 + 1, 0, none⟩ = false := fcell_keep hb lt14 f14
          clear hb hb0
          refine hK.out _ _ ?_ (fun hHeld => ?_)
          · exact hup15
          clear hK K
          try simp only [Act.put, List.setIfInBounds_toArray, List.set_cons_zero, List.set_cons_succ]
          refine wpAnyH_ready (rs := [3]) (by kernel_rfl) (by simp) ?_
          refine AllReadyH.cons (o := _) rfl (fun K hK => ?_) AllReadyH.nil
          go_simp
          go_at_call 26
          refine (C15.out _ (by repeat (first | with_reducible exact HB15.out | refine Below.drew ?_))).mono ?_
          rintro e w16 ⟨rfl, HB16, hb0⟩
          have hb : Below w15.heap.size w15 w16 := Below.trans (by first | exact Below.refl _ _ | exact (Below.refl _ _).drew) (hb0.mono (by first | exact Nat.le_refl _ | (simp; done)))
          have hup16 : C6 w16 gu u0 u1 u2 u3 u4 u5 := C6.keep hup15 hb
          have PR16 : Hid (D6 w16 g14 q0 q1 q2 q3 q4 q5) := D6.keep PR15.out hb
          have t16 : w16.cell? ⟨w.heap.size + 1 + 1, 0, none⟩ = some (.slice none 0 0) := cell_keep (S := 0) hb t15
          have lt16 : w.heap.size + 1 + 1 < w16.heap.size := World.block_lt_of_cell? _ _ t16
          have f16 : w16.frozen? ⟨w.heap.size + 1 + 1, 0, none⟩ = false := fcell_keep hb lt15 f15
          clear hb hb0
          refine hK.out _ _ ?_ (fun hHeld => ?_)
          · exact hup16
          clear hK K
          try simp only [Act.put, List.setIfInBounds_toArray, List.set_cons_zero, List.set_cons_succ]
          refine takeH (i := 4) (oi := _) (v := ?_) (d := some 98) rfl (by kernel_rfl) (by kernel_rfl) (by kernel_rfl) (by kernel_rfl) (fun _ _ _ h => h) (Or.inl ⟨by rfl, ?_⟩) (by assumption) ?_
          rotate_left
          · (intro w hSw; (try dsimp only at hSw); go_simp <;> with_reducible rfl)
          try simp only [Act.put, List.setIfInBounds_toArray, List.set_cons_zero, List.set_cons_succ]
          refine takeH (i := 5) (oi := _) (v := ?_) (d := some 103) rfl (by kernel_rfl) (by kernel_rfl) (by kernel_rfl) (by kernel_rfl) (fun _ _ _ h => h) (Or.inl ⟨by rfl, ?_⟩) (by assumption) ?_
          rotate_left
          · (intro w hSw; (try dsimp only at hSw); go_simp <;> with_reducible rfl)
          try simp only [Act.put, List.setIfInBounds_toArray, List.set_cons_zero, List.set_cons_succ]
          refine takeH (i := 6) (oi := _) (v := ?_) (d := some 104) rfl (by kernel_rfl) (by kernel_rfl) (by kernel_rfl) (by kernel_rfl) (fun _ _ _ h => h) (Or.inl ⟨by rfl, ?_⟩) (by assumption) ?_
          rotate_left
          · (intro w hSw; (try dsimp only at hSw); go_simp <;> with_reducible rfl)
          try simp only [Act.put, List.setIfInBounds_toArray, List.set_cons_zero, List.set_cons_succ]
          have hup17 : C6 ((((((w16.setCell ⟨g14, 0, none⟩ (.int .i64 z0)).setCell ⟨g14, 1, none⟩ (.int .i64 z1)).setCell ⟨g14, 2, none⟩ (.int .i64 z2)).setCell ⟨g14, 3, none⟩ (.int .i64 z3)).setCell ⟨g14, 4, none⟩ (.int .i64 z4)).setCell ⟨g14, 5, none⟩ (.int .i64 z5)) gu u0 u1 u2 u3 u4 u5 := c6_set_ne hup16 (by omega)
          have hpr17 : C6 ((((((w16.setCell ⟨g14, 0, none⟩ (.int .i64 z0)).setCell ⟨g14, 1, none⟩ (.int .i64 z1)).setCell ⟨g14, 2, none⟩ (.int .i64 z2)).setCell ⟨g14, 3, none⟩ (.int .i64 z3)).setCell ⟨g14, 4, none⟩ (.int .i64 z4)).setCell ⟨g14, 5, none⟩ (.int .i64 z5)) g14 z0 z1 z2 z3 z4 z5 := c6_set_same (c6_s6 PR16.out.1)
          have t17 : ((((((w16.setCell ⟨g14, 0, none⟩ (.int .i64 z0)).setCell ⟨g14, 1, none⟩ (.int .i64 z1)).setCell ⟨g14, 2, none⟩ (.int .i64 z2)).setCell ⟨g14, 3, none⟩ (.int .i64 z3)).setCell ⟨g14, 4, none⟩ (.int .i64 z4)).setCell ⟨g14, 5, none⟩ (.int .i64 z5)).cell? ⟨w.heap.size + 1 + 1, 0, none⟩ = some (.slice none 0 0) := keep6 t16 (by omega)
          have f17 : ((((((w16.setCell ⟨g14, 0, none⟩ (.int .i64 z0)).setCell ⟨g14, 1, none⟩ (.int .i64 z1)).setCell ⟨g14, 2, none⟩ (.int .i64 z2)).setCell ⟨g14, 3, none⟩ (.int .i64 z3)).setCell ⟨g14, 4, none⟩ (.int .i64 z4)).setCell ⟨g14, 5, none⟩ (.int .i64 z5)).frozen? ⟨w.heap.size + 1 + 1, 0, none⟩ = false := by simp only [World.frozen?_setCell]; exact f16
          have HB17 : Hid (Below w.heap.size w ((((((w16.setCell ⟨g14, 0, none⟩ (.int .i64 z0)).setCell ⟨g14, 1, none⟩ (.int .i64 z1)).setCell ⟨g14, 2, none⟩ (.int .i64 z2)).setCell ⟨g14, 3, none⟩ (.int .i64 z3)).setCell ⟨g14, 4, none⟩ (.int .i64 z4)).setCell ⟨g14, 5, none⟩ (.int .i64 z5))) := below_set6 HB16.out (by omega)
          obtain ⟨zp0, zp1, zp2, zp3, zp4, zp5⟩ := PR16.out.1
          have zf := PR16.out.2
          have zf0 := zf 0
          have zf1 := zf 1
          have zf2 := zf 2
          have zf3 := zf 3
          have zf4 := zf 4
          have zf5 := zf 5
          clear zf
          refine wpAnyH_ready (rs := [7]) (by kernel_rfl) (by simp) ?_
          refine AllReadyH.cons (o := _) rfl (fun K hK => ?_) AllReadyH.nil
          go_simp
          refine hK.out _ _ ?_ (fun hHeld => ?_)
          · exact hup17
          clear hK K
          try simp only [Act.put, List.setIfInBounds_toArray, List.set_cons_zero, List.set_cons_succ]
          refine wpAnyH_done (by kernel_rfl) ?_ _
          go_wp2_with fail
          go_meet
          exact ⟨rfl, hpr17, t17, f17, HB17⟩
        · go_simp
          go_at_call 28
          refine (C14.out _ (by repeat (first | with_reducible exact HB14.out | refine Below.drew ?_))).mono ?_
          rintro e w15 ⟨rfl, HB15, hb0⟩
          have hb : Below w14.heap.size w14 w15 := Below.trans (by first | exact Below.refl _ _ | exact (Below.refl _ _).drew) (hb0.mono (by first | exact Nat.le_refl _ | (simp; done)))
          have hup15 : C6 w15 gu u0 u1 u2 u3 u4 u5 := C6.keep hup hb
          have PR15 : Hid (D6 w15 g14 q0 q1 q2 q3 q4 q5) := D6.keep PR_14.out hb
          have t15 : w15.cell? ⟨w.heap.size + 1 + 1, 0, none⟩ = some (.slice none 0 0) := cell_keep (S := 0) hb t14
          have lt15 : w.heap.size + 1 + 1 < w15.heap.size := World.block_lt_of_cell? _ _ t15
          have f15 : w15.frozen? ⟨w.heap.size + 1 + 1, 0, none⟩ = false := fcell_keep hb lt14 f14
          clear hb hb0
          refine hK.out _ _ ?_ (fun hHeld => ?_)
          · exact hup15
          clear hK K
          try simp only [Act.put, List.setIfInBounds_toArray, List.set_cons_zero, List.set_cons_succ]
          obtain ⟨pq0, pq1, pq2, pq3, pq4, pq5⟩ := PR15.out.1
          refine wpAnyH_ready (rs := [0]) (by kernel_rfl) (by simp) ?_
          refine AllReadyH.cons (o := _) rfl (fun K hK => ?_) AllReadyH.nil
          go_simp
          refine hK.out _ _ ?_ (fun hHeld => ?_)
          · exact hup15
          clear hK K
          try simp only [Act.put, List.setIfInBounds_toArray, List.set_cons_zero, List.set_cons_succ]
          refine wpAnyH_ready (rs := [3]) (by kernel_rfl) (by simp) ?_
          refine AllReadyH.cons (o := _) rfl (fun K hK => ?_) AllReadyH.nil
          go_simp
          go_at_call 26
          refine (C15.out _ (by repeat (first | with_reducible exact HB15.out | refine Below.drew ?_))).mono ?_
          rintro e w16 ⟨rfl, HB16, hb0⟩
          have hb : Below w15.heap.size w15 w16 := Below.trans (by first | exact Below.refl _ _ | exact (Below.refl _ _).drew) (hb0.mono (by first | exact Nat.le_refl _ | (simp; done)))
          have hup16 : C6 w16 gu u0 u1 u2 u3 u4 u5 := C6.keep hup15 hb
          have PR16 : Hid (D6 w16 g14 q0 q1 q2 q3 q4 q5) := D6.keep PR15.out hb
          have t16 : w16.cell? ⟨w.heap.size + 1 + 1, 0, none⟩ = some (.slice none 0 0) := cell_keep (S := 0) hb t15
          have lt16 : w.heap.size + 1 + 1 < w16.heap.size := World.block_lt_of_cell? _ _ t16
          have f16 : w16.frozen? ⟨w.heap.size + 1 + 1, 0, none⟩ = false := fcell_keep hb lt15 f15
          clear hb hb0
          refine hK.out _ _ ?_ (fun hHeld => ?_)
          · exact hup16
          clear hK K
          try simp only [Act.put, List.setIfInBounds_toArray, List.set_cons_zero, List.set_cons_succ]
          refine takeH (i := 4) (oi := _) (v := ?_) (d := some 98) rfl (by kernel_rfl) (by kernel_rfl) (by kernel_rfl) (by kernel_rfl) (fun _ _ _ h => h) (Or.inl ⟨by rfl, ?_⟩) (by assumption) ?_
          rotate_left
          · (intro w hSw; (try dsimp only at hSw); go_simp <;> with_reducible rfl)
          try simp only [Act.put, List.setIfInBounds_toArray, List.set_cons_zero, List.set_cons_succ]
          refine takeH (i := 5) (oi := _) (v := ?_) (d := some 103) rfl (by kernel_rfl) (by kernel_rfl) (by kernel_rfl) (by kernel_rfl) (fun _ _ _ h => h) (Or.inl ⟨by rfl, ?_⟩) (by assumption) ?_
          rotate_left
          · (intro w hSw; (try dsimp only at hSw); go_simp <;> with_reducible rfl)
          try simp only [Act.put, List.setIfInBounds_toArray, List.set_cons_zero, List.set_cons_succ]
          refine takeH (i := 6) (oi := _) (v := ?_) (d := some 104) rfl (by kernel_rfl) (by kernel_rfl) (by kernel_rfl) (by kernel_rfl) (fun _ _ _ h => h) (Or.inl ⟨by rfl, ?_⟩) (by assumption) ?_
          rotate_left
          · (intro w hSw; (try dsimp only at hSw); go_simp <;> with_reducible rfl)
          try simp only [Act.put, List.setIfInBounds_toArray, List.set_cons_zero, List.set_cons_succ]
          have hup17 : C6 ((((((w16.setCell ⟨g14, 0, none⟩ (.int .i64 z0)).setCell ⟨g14, 1, none⟩ (.int .i64 z1)).setCell ⟨g14, 2, none⟩ (.int .i64 z2)).setCell ⟨g14, 3, none⟩ (.int .i64 z3)).setCell ⟨g14, 4, none⟩ (.int .i64 z4)).setCell ⟨g14, 5, none⟩ (.int .i64 z5)) gu u0 u1 u2 u3 u4 u5 := c6_set_ne hup16 (by omega)
          have hpr17 : C6 ((((((w16.setCell ⟨g14, 0, none⟩ (.int .i64 z0)).setCell ⟨g14, 1, none⟩ (.int .i64 z1)).setCell ⟨g14, 2, none⟩ (.int .i64 z2)).setCell ⟨g14, 3, none⟩ (.int .i64 z3)).setCell ⟨g14, 4, none⟩ (.int .i64 z4)).setCell ⟨g14, 5, none⟩ (.int .i64 z5)) g14 z0 z1 z2 z3 z4 z5 := c6_set_same (c6_s6 PR16.out.1)
          have t17 : ((((((w16.setCell ⟨g14, 0, none⟩ (.int .i64 z0)).setCell ⟨g14, 1, none⟩ (.int .i64 z1)).setCell ⟨g14, 2, none⟩ (.int .i64 z2)).setCell ⟨g14, 3, none⟩ (.int .i64 z3)).setCell ⟨g14, 4, none⟩ (.int .i64 z4)).setCell ⟨g14, 5, none⟩ (.int .i64 z5)).cell? ⟨w.heap.size + 1 + 1, 0, none⟩ = some (.slice none 0 0) := keep6 t16 (by omega)
          have f17 : ((((((w16.setCell ⟨g14, 0, none⟩ (.int .i64 z0)).setCell ⟨g14, 1, none⟩ (.int .i64 z1)).setCell ⟨g14, 2, none⟩ (.int .i64 z2)).setCell ⟨g14, 3, none⟩ (.int .i64 z3)).setCell ⟨g14, 4, none⟩ (.int .i64 z4)).setCell ⟨g14, 5, none⟩ (.int .i64 z5)).frozen? ⟨w.heap.size + 1 + 1, 0, none⟩ = false := by simp only [World.frozen?_setCell]; exact f16
          have HB17 : Hid (Below w.heap.size w ((((((w16.setCell ⟨g14, 0, none⟩ (.int .i64 z0)).setCell ⟨g14, 1, none⟩ (.int .i64 z1)).setCell ⟨g14, 2, none⟩ (.int .i64 z2)).setCell ⟨g14, 3, none⟩ (.int .i64 z3)).setCell ⟨g14, 4, none⟩ (.int .i64 z4)).setCell ⟨g14, 5, none⟩ (.int .i64 z5))) := below_set6 HB16.out (by omega)
          obtain ⟨zp0, zp1, zp2, zp3, zp4, zp5⟩ := PR16.out.1
          have zf := PR16.out.2
          have zf0 := zf 0
          have zf1 := zf 1
          have zf2 := zf 2
          have zf3 := zf 3
          have zf4 := zf 4
          have zf5 := zf 5
          clear zf
          refine wpAnyH_ready (rs := [7]) (by kernel_rfl) (by simp) ?_
          refine AllReadyH.cons (o := _) rfl (fun K hK => ?_) AllReadyH.nil
          go_simp
          refine hK.out _ _ ?_ (fun hHeld => ?_)
          · exact hup17
          clear hK K
          try simp only [Act.put, List.setIfInBounds_toArray, List.set_cons_zero, List.set_cons_succ]
          refine wpAnyH_done (by kernel_rfl) ?_ _
          go_wp2_with fail
          go_meet
          exact ⟨rfl, hpr17, t17, f17, HB17⟩
      case rest => as_aux_lemma =>
        obtain ⟨rfl, hpr, t17, f17, hb⟩ := hcut
        obtain ⟨w17, rfl⟩ : ∃ w17 : World, w17 = wc := ⟨_, rfl⟩
        have HB17 : Hid (Below w.heap.size w w17) := hb
        obtain ⟨p0', p1', p2', p3', p4', p5'⟩ := hpr
        have l17 : w.heap.size + 1 + 1 < w17.heap.size := World.block_lt_of_cell? _ _ t17
        clear hb UP_14 PR_14 t14 f14 C14 C15
        go_wp2_with fail
        refine (bigFrom_c z0 z1 z2 z3 z4 z5 _ pl HP.out).mono ?_
        rintro e w18 ⟨a', c', rfl, ho, hb⟩
        have HB18 : Hid (Below w.heap.size w w18) := HB17.out.trans (hb.mono HB17.out.size)
        have t18 : w18.cell? ⟨w.heap.size + 1 + 1, 0, none⟩ = some (.slice none 0 0) := cell_keep (S := 0) hb t17
        have f18 : w18.frozen? ⟨w.heap.size + 1 + 1, 0, none⟩ = false := fcell_keep hb l17 f17
        have HO18 : Hid (Own w18 w17.heap.size (.slice a' pl c') (trim [z0, z1, z2, z3, z4, z5])) := ho
        clear hb ho t17 f17 p0' p1' p2' p3' p4' p5'
        go_wp2
        refine bodyPost_ret (v := .tuple #[.agg #[.slice a' pl c'], .bool true]) (by simp [results, Try.results5, go_sem, t18]) rfl ⟨a', c', rfl, own_set_mono HO18.out (by omega) (by omega), HB18.out.setCell (by simp; omega) _⟩

end Go.Proofs.Ytaedplfihjfchaa
