/- The contract of the program's HalvesTimes, out of its walk. -/
import Derived.Test.YtaedplfihjfchaaHalvesWalkh
namespace Go.Proofs.Ytaedplfihjfchaa
set_option linter.unusedVariables false
set_option maxRecDepth 1000000
set_option linter.unusedSimpArgs false
open Go.RowKit

def halfF (xs ys : List Int) : List Int × Bool := if goodB xs && goodB ys then (if 3 < xs.length ∨ 3 < ys.length then ([], false) else tellF (val xs * val ys)) else ([], false)

theorem halfF_short {xs ys zs : List Int} {fb : Bool} (h : halfF xs ys = (zs, fb)) : zs.length ≤ 6 := by
  unfold halfF at h
  split at h
  · rename_i hg
    split at h
    · simp only [Prod.mk.injEq] at h; rw [← h.1]; simp
    · exact timesF_short (xs := xs) (ys := ys) (by rw [timesF, hg, if_pos rfl]; exact h)
  · simp only [Prod.mk.injEq] at h; rw [← h.1]; simp

theorem pad3 {xs : List Int} (h : xs.length ≤ 3) : ∃ a0 a1 a2 : Int, pad6 xs = [a0, a1, a2, 0, 0, 0] := by
  match xs, h with
  | [], _ => exact ⟨0, 0, 0, rfl⟩
  | [a], _ => exact ⟨a, 0, 0, rfl⟩
  | [a, b], _ => exact ⟨a, b, 0, rfl⟩
  | [a, b, c], _ => exact ⟨a, b, c, rfl⟩
  | a :: b :: c :: d :: l, h => simp at h

theorem half_mid (A B C D : Int) : (A + B) * (C + D) - A * C - B * D = A * D + B * C := by
  rw [Int.add_mul, Int.mul_add, Int.mul_add]; omega
theorem half_all (A B C D : Int) : (A + 4294967296 * B) * (C + 4294967296 * D) = A * C + 4294967296 * (A * D + B * C) + 18446744073709551616 * (B * D) := by
  rw [Int.add_mul, Int.mul_add, Int.mul_add, Int.mul_left_comm A, Int.mul_assoc, Int.mul_assoc, Int.mul_left_comm B]; omega
theorem bd2 {a b A B : Int} (a0 : 0 ≤ a) (a1 : a ≤ A) (b0 : 0 ≤ b) (b1 : b ≤ B) : 0 ≤ a * b ∧ a * b ≤ A * B := ⟨Int.mul_nonneg a0 b0, Int.mul_le_mul a1 b1 b0 (by omega)⟩

set_option maxHeartbeats 2000000 in
set_option maxRecDepth 1000000 in
theorem implHalf_good (ao bo : Option Addr) (n m c d : Nat) (xs ys : List Int) (w : World) (hx : xs.length = n) (hy : ys.length = m) (hn : n ≤ 17592186044416) (hm : m ≤ 17592186044416) (hr : Rd w ao xs) (hs : Rd w bo ys) (zs : List Int) (fb : Bool) (p : Nat) (hF : halfF xs ys = (zs, fb)) (hp : zs.length = p) (gx : goodB xs = true) (gy : goodB ys = true) :
    Calls Try.prog 5 #[.agg #[.slice ao n c], .agg #[.slice bo m d]] w fun e w' => ∃ a' c', e = .returned (.tuple #[.agg #[.slice a' p c'], .bool fb]) ∧ Own w' w.heap.size (.slice a' p c') zs ∧ Below w.heap.size w w' := by
  rw [halfF, gx, gy] at hF
  simp only [Bool.and_self, if_true] at hF
  by_cases h3 : 3 < n
  · rw [if_pos (Or.inl (by rw [hx]; exact h3))] at hF
    have h3' : (3 : Int) < (n : Int) := by omega
    simp only [Prod.mk.injEq] at hF
    obtain ⟨rfl, rfl⟩ := hF
    simp at hp
    subst hp
    have HX : Hid (xs.length = n) := hx
    have HY : Hid (ys.length = m) := hy
    have HR : Hid (Rd w ao xs) := hr
    have HS : Hid (Rd w bo ys) := hs
    have HB0 : Hid (Below w.heap.size w (((w.alloc (Obj.cells #[Value.slice ao n c] 25)).alloc (Obj.cells #[Value.slice bo m d] 25)).alloc (Obj.cells #[Value.slice none 0 0] 25))) := below_three w _ _ _
    clear hx hy hr hs
    go_enter Try.func5, Try.ntmps5
    go_wp2_with fail
    refine (implGood_c ao n c xs _ HX.out hn (HR.out.later HB0.out)).mono ?_
    rw [gx]
    rintro e w1 ⟨rfl, hb⟩
    have HB1 : Hid (Below w.heap.size w w1) := HB0.out.trans (hb.mono (by simp; omega))
    have x1 : w1.cell? ⟨w.heap.size, 0, none⟩ = some (.slice ao n c) := cell_keep (S := 0) hb (calloc (calloc (by simp)))
    have y1 : w1.cell? ⟨w.heap.size + 1, 0, none⟩ = some (.slice bo m d) := cell_keep (S := 0) hb (calloc (by simp))
    have t1 : w1.cell? ⟨w.heap.size + 1 + 1, 0, none⟩ = some (.slice none 0 0) := cell_keep (S := 0) hb (by rw [World.cell?_alloc_at _ _ _ _ (by simp)]; rfl)
    have f1 : w1.frozen? ⟨w.heap.size + 1 + 1, 0, none⟩ = false := fcell_keep hb (by simp) (fz3 _ _ _ _ _ _ _)
    have l1 : w.heap.size + 1 + 1 < w1.heap.size := World.block_lt_of_cell? _ _ t1
    clear hb gx
    go_wp2_with fail
    refine (implGood_c bo m d ys _ HY.out hm (HS.out.later HB1.out)).mono ?_
    rw [gy]
    rintro e w2 ⟨rfl, hb⟩
    have HB2 : Hid (Below w.heap.size w w2) := HB1.out.trans (hb.mono (HB1.out.size))
    have x2 : w2.cell? ⟨w.heap.size, 0, none⟩ = some (.slice ao n c) := cell_keep (S := 0) hb x1
    have y2 : w2.cell? ⟨w.heap.size + 1, 0, none⟩ = some (.slice bo m d) := cell_keep (S := 0) hb y1
    have t2 : w2.cell? ⟨w.heap.size + 1 + 1, 0, none⟩ = some (.slice none 0 0) := cell_keep (S := 0) hb t1
    have f2 : w2.frozen? ⟨w.heap.size + 1 + 1, 0, none⟩ = false := fcell_keep hb l1 f1
    clear hb gy x1 y1 t1 f1 l1
    go_wp2
    refine bodyPost_ret (v := .tuple #[.agg #[.slice none 0 0], .bool false]) (by simp [results, Try.results5, go_sem, t2]) rfl ⟨none, 0, rfl, World.ownsRow_nil _ _ _ _, ?_⟩
    exact HB2.out.setCell (by simp; omega) _
  by_cases h4 : 3 < m
  · rw [if_pos (Or.inr (by rw [hy]; exact h4))] at hF
    have h3' : ¬ (3 : Int) < (n : Int) := by omega
    have h4' : (3 : Int) < (m : Int) := by omega
    simp only [Prod.mk.injEq] at hF
    obtain ⟨rfl, rfl⟩ := hF
    simp at hp
    subst hp
    have HX : Hid (xs.length = n) := hx
    have HY : Hid (ys.length = m) := hy
    have HR : Hid (Rd w ao xs) := hr
    have HS : Hid (Rd w bo ys) := hs
    have HB0 : Hid (Below w.heap.size w (((w.alloc (Obj.cells #[Value.slice ao n c] 25)).alloc (Obj.cells #[Value.slice bo m d] 25)).alloc (Obj.cells #[Value.slice none 0 0] 25))) := below_three w _ _ _
    clear hx hy hr hs
    go_enter Try.func5, Try.ntmps5
    go_wp2_with fail
    refine (implGood_c ao n c xs _ HX.out hn (HR.out.later HB0.out)).mono ?_
    rw [gx]
    rintro e w1 ⟨rfl, hb⟩
    have HB1 : Hid (Below w.heap.size w w1) := HB0.out.trans (hb.mono (by simp; omega))
    have x1 : w1.cell? ⟨w.heap.size, 0, none⟩ = some (.slice ao n c) := cell_keep (S := 0) hb (calloc (calloc (by simp)))
    have y1 : w1.cell? ⟨w.heap.size + 1, 0, none⟩ = some (.slice bo m d) := cell_keep (S := 0) hb (calloc (by simp))
    have t1 : w1.cell? ⟨w.heap.size + 1 + 1, 0, none⟩ = some (.slice none 0 0) := cell_keep (S := 0) hb (by rw [World.cell?_alloc_at _ _ _ _ (by simp)]; rfl)
    have f1 : w1.frozen? ⟨w.heap.size + 1 + 1, 0, none⟩ = false := fcell_keep hb (by simp) (fz3 _ _ _ _ _ _ _)
    have l1 : w.heap.size + 1 + 1 < w1.heap.size := World.block_lt_of_cell? _ _ t1
    clear hb gx
    go_wp2_with fail
    refine (implGood_c bo m d ys _ HY.out hm (HS.out.later HB1.out)).mono ?_
    rw [gy]
    rintro e w2 ⟨rfl, hb⟩
    have HB2 : Hid (Below w.heap.size w w2) := HB1.out.trans (hb.mono (HB1.out.size))
    have x2 : w2.cell? ⟨w.heap.size, 0, none⟩ = some (.slice ao n c) := cell_keep (S := 0) hb x1
    have y2 : w2.cell? ⟨w.heap.size + 1, 0, none⟩ = some (.slice bo m d) := cell_keep (S := 0) hb y1
    have t2 : w2.cell? ⟨w.heap.size + 1 + 1, 0, none⟩ = some (.slice none 0 0) := cell_keep (S := 0) hb t1
    have f2 : w2.frozen? ⟨w.heap.size + 1 + 1, 0, none⟩ = false := fcell_keep hb l1 f1
    clear hb gy x1 y1 t1 f1 l1
    go_wp2
    refine bodyPost_ret (v := .tuple #[.agg #[.slice none 0 0], .bool false]) (by simp [results, Try.results5, go_sem, t2]) rfl ⟨none, 0, rfl, World.ownsRow_nil _ _ _ _, ?_⟩
    exact HB2.out.setCell (by simp; omega) _
  rw [if_neg (by rw [hx, hy]; omega)] at hF
  have dx := (goodB_digs gx).2.1
  have dy := (goodB_digs gy).2.1
  obtain ⟨a0, a1, a2, hA⟩ := pad3 (xs := xs) (by omega)
  obtain ⟨b0, b1, b2, hB⟩ := pad3 (xs := ys) (by omega)
  have dA : Digs [a0, a1, a2, 0, 0, 0] := by rw [← hA]; exact pad6_digs dx
  have dB : Digs [b0, b1, b2, 0, 0, 0] := by rw [← hB]; exact pad6_digs dy
  have vA : val [a0, a1, a2, 0, 0, 0] = val xs := by rw [← hA, pad6_val]
  have vB : val [b0, b1, b2, 0, 0, 0] = val ys := by rw [← hB, pad6_val]
  have eA := digs6.1 dA
  have eB := digs6.1 dB
  rw [val6] at vA vB
  obtain ⟨A, hLA⟩ : ∃ A, a0 + 65536 * a1 = A := ⟨_, rfl⟩
  obtain ⟨C, hLB⟩ : ∃ C, b0 + 65536 * b1 = C := ⟨_, rfl⟩
  have dLA : Digs [a0, a1, 0, 0, 0, 0] := digs6.2 ⟨eA.1, eA.2.1, by omega, by omega, by omega, by omega⟩
  have dUA : Digs [a2, 0, 0, 0, 0, 0] := digs6.2 ⟨eA.2.2.1, by omega, by omega, by omega, by omega, by omega⟩
  have dLB : Digs [b0, b1, 0, 0, 0, 0] := digs6.2 ⟨eB.1, eB.2.1, by omega, by omega, by omega, by omega⟩
  have dUB : Digs [b2, 0, 0, 0, 0, 0] := digs6.2 ⟨eB.2.2.1, by omega, by omega, by omega, by omega, by omega⟩
  have vLA : val [a0, a1, 0, 0, 0, 0] = A := by rw [val6]; omega
  have vUA : val [a2, 0, 0, 0, 0, 0] = a2 := by rw [val6]; omega
  have vLB : val [b0, b1, 0, 0, 0, 0] = C := by rw [val6]; omega
  have vUB : val [b2, 0, 0, 0, 0, 0] = b2 := by rw [val6]; omega
  have p1 := bd2 (a := A) (b := C) (A := 4294967295) (B := 4294967295) (by omega) (by omega) (by omega) (by omega)
  have p2 := bd2 (a := a2) (b := b2) (A := 65535) (B := 65535) (by omega) (by omega) (by omega) (by omega)
  have p3 := bd2 (a := A) (b := b2) (A := 4294967295) (B := 65535) (by omega) (by omega) (by omega) (by omega)
  have p4 := bd2 (a := a2) (b := C) (A := 65535) (B := 4294967295) (by omega) (by omega) (by omega) (by omega)
  have hmid := half_mid A a2 C b2
  have hall := half_all A a2 C b2
  rw [show A + 4294967296 * a2 = val xs by omega, show C + 4294967296 * b2 = val ys by omega] at hall
  generalize hac : A * C = AC at *
  generalize hbd : a2 * b2 = BD at *
  generalize had : A * b2 = AD at *
  generalize hbc : a2 * C = BC at *
  generalize hst : (A + a2) * (C + b2) = ST at *
  obtain ⟨l0, l1, l2, l3, l4, l5, dl, vl⟩ := exists6 (N := AC) (by omega) (by omega)
  obtain ⟨u0, u1, u2, u3, u4, u5, du, vu⟩ := exists6 (N := BD) (by omega) (by omega)
  obtain ⟨s0, s1, s2, s3, s4, s5, ds, vs⟩ := exists6 (N := A + a2) (by omega) (by omega)
  obtain ⟨t0, t1, t2, t3, t4, t5, dt, vt⟩ := exists6 (N := C + b2) (by omega) (by omega)
  obtain ⟨p0, p1, p2, p3, p4, p5, dp, vp⟩ := exists6 (N := ST) (by omega) (by omega)
  obtain ⟨d0, d1, d2, d3, d4, d5, dd, vd⟩ := exists6 (N := ST - AC) (by omega) (by omega)
  obtain ⟨m0, m1, m2, m3, m4, m5, dm, vm⟩ := exists6 (N := ST - AC - BD) (by omega) (by omega)
  obtain ⟨q0, q1, q2, q3, q4, q5, dq, vq⟩ := exists6 (N := AC + 4294967296 * (AD + BC)) (by omega) (by omega)
  obtain ⟨z0, z1, z2, z3, z4, z5, dz, vz⟩ := exists6 (N := val xs * val ys) (by omega) (by omega)
  have em := digs6.1 dm
  have eu := digs6.1 du
  have vm' := vm
  have vu' := vu
  rw [val6] at vm' vu'
  have vM : val [0, 0, m0, m1, m2, m3] = 4294967296 * (AD + BC) := by rw [val6]; omega
  have vU : val [0, 0, 0, 0, u0, u1] = 18446744073709551616 * BD := by rw [val6]; omega
  have dM : Digs [0, 0, m0, m1, m2, m3] := digs6.2 ⟨by omega, by omega, em.1, em.2.1, em.2.2.1, em.2.2.2.1⟩
  have dU : Digs [0, 0, 0, 0, u0, u1] := digs6.2 ⟨by omega, by omega, by omega, by omega, eu.1, eu.2.1⟩
  have hzs : trim [z0, z1, z2, z3, z4, z5] = zs ∧ true = fb := by
    rw [tellF_good (by omega)] at hF
    simp only [Prod.mk.injEq] at hF
    rw [trim_bigL dz, vz]
    exact hF
  obtain ⟨hz1, rfl⟩ := hzs
  rw [← hz1] at hp ⊢
  refine halvesWalk ao bo n m c d xs ys w hx hy (by omega) (by omega) hr hs gx gy a0 a1 a2 b0 b1 b2 l0 l1 l2 l3 l4 l5 u0 u1 u2 u3 u4 u5 s0 s1 s2 s3 s4 s5 t0 t1 t2 t3 t4 t5 p0 p1 p2 p3 p4 p5 d0 d1 d2 d3 d4 d5 m0 m1 m2 m3 m4 m5 q0 q1 q2 q3 q4 q5 z0 z1 z2 z3 z4 z5 p hp ?_ ?_ ?_ ?_ ?_ ?_ ?_ ?_ ?_ ?_ ?_ ?_ ?_ ?_ ?_
  · intro W h
    exact rowOf_d hA hx (by omega) hr W h
  · intro W h
    exact cutRow_d h
  · intro W h
    exact rowOf_d hB hy (by omega) hs W h
  · intro W h
    exact cutRow_d h
  · intro W h
    exact mulRow_d dLA dLB dl (by rw [vl, vLA, vLB, hac]) h
  · intro W h
    exact mulRow_d dUA dUB du (by rw [vu, vUA, vUB, hbd]) h
  · intro W h
    exact sumRow_d dLA dUA ds (by rw [vs, vLA, vUA]) h
  · intro W h
    exact sumRow_d dLB dUB dt (by rw [vt, vLB, vUB]) h
  · intro W h
    exact mulRow_d ds dt dp (by rw [vp, vs, vt, hst]) h
  · intro W h
    exact subRow_d dp dl dd (by rw [vd, vp, vl]) h
  · intro W h
    exact subRow_d dd du dm (by rw [vm, vd, vu]) h
  · intro W h
    exact limbsUp2_d h
  · intro W h
    exact sumRow_d dl dM dq (by rw [vq, vl, vM]) h
  · intro W h
    exact limbsUp4_d h
  · intro W h
    exact sumRow_d dq dU dz (by rw [vz, vq, vU]; omega) h

end Go.Proofs.Ytaedplfihjfchaa
