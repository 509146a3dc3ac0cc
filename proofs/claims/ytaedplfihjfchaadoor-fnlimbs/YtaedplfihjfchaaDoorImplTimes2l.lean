/- The contract of the program's TimesBig. -/
import Derived.Test.YtaedplfihjfchaaDoorImplTimesl
namespace Go.Proofs.YtaedplfihjfchaaDoor
set_option linter.unusedVariables false
set_option maxRecDepth 1000000
set_option linter.unusedSimpArgs false
open Go.RowKit
attribute [local go_sem ↓] Go.wp_at_zero Go.wp_at_succ

theorem digs_uniq : ∀ {xs ys : List Int}, xs.length = ys.length → Digs xs → Digs ys → val xs = val ys → xs = ys
  | [], [], _, _, _, _ => rfl
  | [], y :: ys, h, _, _, _ => by simp at h
  | x :: xs, [], h, _, _, _ => by simp at h
  | x :: xs, y :: ys, h, hx, hy, hv => by
    have h1 := hx.head
    have h2 := hy.head
    simp only [val] at hv
    rw [show x = y by omega, digs_uniq (by simpa using h) hx.tail hy.tail (by omega)]

theorem timesRows_d {a0 a1 a2 a3 a4 a5 b0 b1 b2 b3 b4 b5 r0 r1 r2 r3 r4 r5 s0 s1 s2 s3 s4 s5 : Int} {w : World} (da : Digs [a0, a1, a2, a3, a4, a5]) (db : Digs [b0, b1, b2, b3, b4, b5]) (dr : Digs [r0, r1, r2, r3, r4, r5, s0, s1, s2, s3, s4, s5]) (hv : val [r0, r1, r2, r3, r4, r5, s0, s1, s2, s3, s4, s5] = val [a0, a1, a2, a3, a4, a5] * val [b0, b1, b2, b3, b4, b5]) (W : World) (hB : Below w.heap.size w W) :
    Calls Tryd.prog 40 #[.agg #[.int .i64 a0, .int .i64 a1, .int .i64 a2, .int .i64 a3, .int .i64 a4, .int .i64 a5], .agg #[.int .i64 b0, .int .i64 b1, .int .i64 b2, .int .i64 b3, .int .i64 b4, .int .i64 b5]] W fun e w' => e = .returned (.tuple #[.agg #[.int .i64 r0, .int .i64 r1, .int .i64 r2, .int .i64 r3, .int .i64 r4, .int .i64 r5], .agg #[.int .i64 s0, .int .i64 s1, .int .i64 s2, .int .i64 s3, .int .i64 s4, .int .i64 s5]]) ∧ Hid (Below w.heap.size w w') ∧ Below W.heap.size W w' := by
  refine (timesRows_c a0 a1 a2 a3 a4 a5 b0 b1 b2 b3 b4 b5 W da db).mono ?_
  rintro e w' ⟨p0, p1, p2, p3, p4, p5, q0, q1, q2, q3, q4, q5, rfl, hh, hb⟩
  have := digs_uniq (by simp) dr hh.out.1 (hv.trans hh.out.2.symm)
  simp only [List.cons.injEq, and_true] at this
  obtain ⟨rfl, rfl, rfl, rfl, rfl, rfl, rfl, rfl, rfl, rfl, rfl, rfl⟩ := this
  exact ⟨rfl, hB.trans (hb.mono hB.size), hb⟩

theorem exists12 {N : Int} (h0 : 0 ≤ N) (h1 : N < 79228162514264337593543950336 * 79228162514264337593543950336) : ∃ r0 r1 r2 r3 r4 r5 s0 s1 s2 s3 s4 s5 : Int, Digs [r0, r1, r2, r3, r4, r5, s0, s1, s2, s3, s4, s5] ∧ val [r0, r1, r2, r3, r4, r5, s0, s1, s2, s3, s4, s5] = N := by
  have hs : (bigL N).length ≤ 12 := digits_short N.toNat N 12 (by
    have e : (65536 : Int) ^ 12 = 79228162514264337593543950336 * 79228162514264337593543950336 := by decide
    rw [e]; exact h1)
  obtain ⟨r0, r1, r2, r3, r4, r5, s0, s1, s2, s3, s4, s5, h⟩ := list12 (L := bigL N ++ List.replicate (12 - (bigL N).length) 0) (by simp; omega)
  refine ⟨r0, r1, r2, r3, r4, r5, s0, s1, s2, s3, s4, s5, ?_, ?_⟩
  · rw [← h]; exact (bigL_spec h0).1.append (digs_replicate _)
  · rw [← h, val_append_zeros, (bigL_spec h0).2.1]

theorem val12 (r0 r1 r2 r3 r4 r5 s0 s1 s2 s3 s4 s5 : Int) : val [r0, r1, r2, r3, r4, r5, s0, s1, s2, s3, s4, s5] = val [r0, r1, r2, r3, r4, r5] + 79228162514264337593543950336 * val [s0, s1, s2, s3, s4, s5] := by
  simp [val]; omega

theorem timesF_rows {xs ys : List Int} {r0 r1 r2 r3 r4 r5 s0 s1 s2 s3 s4 s5 : Int} (gx : goodB xs = true) (gy : goodB ys = true) (dr : Digs [r0, r1, r2, r3, r4, r5, s0, s1, s2, s3, s4, s5]) (hv : val [r0, r1, r2, r3, r4, r5, s0, s1, s2, s3, s4, s5] = val xs * val ys) :
    timesF xs ys = if [s0, s1, s2, s3, s4, s5] = [0, 0, 0, 0, 0, 0] then (trim [r0, r1, r2, r3, r4, r5], true) else ([], false) := by
  have dR : Digs [r0, r1, r2, r3, r4, r5] := dr.take 6
  have dS : Digs [s0, s1, s2, s3, s4, s5] := dr.drop 6
  rw [val12] at hv
  have e1 := val_lt6 dR (by simp)
  have e2 := val_nonneg dR
  have e3 := val_nonneg dS
  rw [timesF, gx, gy]
  simp only [Bool.and_self, if_true]
  by_cases hz : [s0, s1, s2, s3, s4, s5] = [0, 0, 0, 0, 0, 0]
  · rw [if_pos hz]
    rw [hz] at hv
    have hv0 : val [0, 0, 0, 0, 0, 0] = 0 := by simp [val]
    rw [hv0] at hv
    rw [tellF_good (by omega), trim_bigL dR, show val xs * val ys = val [r0, r1, r2, r3, r4, r5] by omega]
  · rw [if_neg hz]
    have hne : val [s0, s1, s2, s3, s4, s5] ≠ 0 := fun h0 => hz (digs_uniq (by simp) dS (digs_replicate 6) (h0.trans (by simp [val])))
    rw [tellF_bad (by omega)]

set_option maxHeartbeats 16000000 in
set_option maxRecDepth 1000000 in
theorem implTimes_good (ao bo : Option Addr) (n m c d : Nat) (xs ys : List Int) (w : World) (hx : xs.length = n) (hy : ys.length = m) (hn : n ≤ 17592186044416) (hm : m ≤ 17592186044416) (hr : Rd w ao xs) (hs : Rd w bo ys) (zs : List Int) (fb : Bool) (p : Nat) (hF : timesF xs ys = (zs, fb)) (hp : zs.length = p) (gx : goodB xs = true) (gy : goodB ys = true) :
    Calls Tryd.prog 13 #[.agg #[.slice ao n c], .agg #[.slice bo m d]] w fun e w' => ∃ a' c', e = .returned (.tuple #[.agg #[.slice a' p c'], .bool fb]) ∧ Own w' w.heap.size (.slice a' p c') zs ∧ Below w.heap.size w w' := by
  obtain ⟨lx, dx, _⟩ := goodB_digs gx
  obtain ⟨ly, dy, _⟩ := goodB_digs gy
  obtain ⟨a0, a1, a2, a3, a4, a5, hA⟩ := list6 (pad6_length lx)
  obtain ⟨b0, b1, b2, b3, b4, b5, hBB⟩ := list6 (pad6_length ly)
  obtain ⟨r0, r1, r2, r3, r4, r5, s0, s1, s2, s3, s4, s5, dr, hvr⟩ := exists12 (val_mul_nonneg dx dy) (val_mul_lt dx dy lx ly)
  have hF2 := timesF_rows gx gy dr hvr
  rw [hF] at hF2
  have HA : Hid (pad6 xs = [a0, a1, a2, a3, a4, a5]) := hA
  have HBB : Hid (pad6 ys = [b0, b1, b2, b3, b4, b5]) := hBB
  have HDA : Hid (Digs [a0, a1, a2, a3, a4, a5] ∧ Digs [b0, b1, b2, b3, b4, b5]) := ⟨by rw [← hA]; exact pad6_digs dx, by rw [← hBB]; exact pad6_digs dy⟩
  have HE : Hid (Digs [r0, r1, r2, r3, r4, r5, s0, s1, s2, s3, s4, s5] ∧ val [r0, r1, r2, r3, r4, r5, s0, s1, s2, s3, s4, s5] = val [a0, a1, a2, a3, a4, a5] * val [b0, b1, b2, b3, b4, b5]) := by
    refine ⟨dr, ?_⟩
    rw [hvr, ← hA, ← hBB, pad6_val, pad6_val]
  have HX : Hid (xs.length = n) := hx
  have HY : Hid (ys.length = m) := hy
  have HR : Hid (Rd w ao xs) := hr
  have HS : Hid (Rd w bo ys) := hs
  have HP : Hid (zs.length = p) := hp
  have HF : Hid ((zs, fb) = if [s0, s1, s2, s3, s4, s5] = [0, 0, 0, 0, 0, 0] then (trim [r0, r1, r2, r3, r4, r5], true) else ([], false)) := hF2
  have hn6 : n ≤ 6 := by rw [← hx]; exact lx
  have hm6 : m ≤ 6 := by rw [← hy]; exact ly
  have HB0 : Hid (Below w.heap.size w (((w.alloc (Obj.cells #[Value.slice ao n c] 25)).alloc (Obj.cells #[Value.slice bo m d] 25)).alloc (Obj.cells #[Value.slice none 0 0] 25))) := below_three w _ _ _
  clear hx hy hr hs hp hF hF2 hA hBB dr hvr lx ly dx dy
  go_enter Tryd.func13, Tryd.ntmps13
  go_wp2_with fail
  refine (implGood_c ao n c xs _ HX.out hn (HR.out.later HB0.out)).mono ?_
  rw [gx]
  rintro e w1 ⟨rfl, hb⟩
  have HB1 : Hid (Below w.heap.size w w1) := HB0.out.trans (hb.mono (by simp; omega))
  have x1 : w1.cell? ⟨w.heap.size, 0, none⟩ = some (.slice ao n c) := cell_keep (S := 0) hb (calloc (calloc (by simp)))
  have y1 : w1.cell? ⟨w.heap.size + 1, 0, none⟩ = some (.slice bo m d) := cell_keep (S := 0) hb (calloc (by simp))
  have t1 : w1.cell? ⟨w.heap.size + 1 + 1, 0, none⟩ = some (.slice none 0 0) := cell_keep (S := 0) hb (by rw [World.cell?_alloc_at _ _ _ _ (by simp)]; rfl)
  have f1 : w1.frozen? ⟨w.heap.size + 1 + 1, 0, none⟩ = false := fcell_keep hb (by simp) (fz3 _ _ _ _ _ _ _)
  have l1 : w.heap.size + 1 + 1 < w1.heap.size := World.block_lt_of_cell? _ _ t1
  clear hb gx
  go_wp2_with fail
  refine (implGood_c bo m d ys _ HY.out hm (HS.out.later HB1.out)).mono ?_
  rw [gy]
  rintro e w2 ⟨rfl, hb⟩
  have HB2 : Hid (Below w.heap.size w w2) := HB1.out.trans (hb.mono (HB1.out.size))
  have x2 : w2.cell? ⟨w.heap.size, 0, none⟩ = some (.slice ao n c) := cell_keep (S := 0) hb x1
  have y2 : w2.cell? ⟨w.heap.size + 1, 0, none⟩ = some (.slice bo m d) := cell_keep (S := 0) hb y1
  have t2 : w2.cell? ⟨w.heap.size + 1 + 1, 0, none⟩ = some (.slice none 0 0) := cell_keep (S := 0) hb t1
  have f2 : w2.frozen? ⟨w.heap.size + 1 + 1, 0, none⟩ = false := fcell_keep hb l1 f1
  have l2 : w.heap.size + 1 + 1 < w2.heap.size := World.block_lt_of_cell? _ _ t2
  clear hb gy x1 y1 t1 f1 l1
  go_upto_region 3 with fail
  go_cut [6, 7] (fun ub uv wx => ∃ (gx gy : Nat), ub = .pointer (some ⟨gx, 0, none⟩) ∧ uv = .pointer (some ⟨gy, 0, none⟩) ∧ C6 wx gx r0 r1 r2 r3 r4 r5 ∧ C6 wx gy s0 s1 s2 s3 s4 s5 ∧ wx.cell? ⟨w.heap.size + 1 + 1, 0, none⟩ = some (.slice none 0 0) ∧ wx.frozen? ⟨w.heap.size + 1 + 1, 0, none⟩ = false ∧ Hid (Below w.heap.size w wx))
  case first =>
    have tok1 : True := trivial
    have la : w.heap.size < w2.heap.size := by omega
    have lb : w.heap.size + 1 < w2.heap.size := by omega
    go_region_held3 (fun w' => w'.cell? ⟨w.heap.size, 0, none⟩ = some (.slice ao n c) ∧ w'.cell? ⟨w.heap.size + 1, 0, none⟩ = some (.slice bo m d)) (first | go_keep | (refine ⟨?_, ?_⟩ <;> (repeat (first | rw [cset_ne (by omega)] | rw [calloc_eq (by first | omega | (simp; omega))])) <;> assumption)) (first
      | (go_at_call 29; have _t := tok1; refine (rowOf_d HA.out HX.out hn6 HR.out _ (by repeat (first | exact HB2.out | refine Below.drew ?_ | refine Below.alloc ?_ (by first | omega | (simp; omega)) _))).mono ?_; rintro e w3 ⟨rfl, HB3, hb3⟩; clear tok1 _t; have x3 : w3.cell? ⟨w.heap.size, 0, none⟩ = some (.slice ao n c) := cell_keep (S := 0) hb3 (by first | exact x2 | exact calloc x2 | exact calloc (calloc x2)); have y3 : w3.cell? ⟨w.heap.size + 1, 0, none⟩ = some (.slice bo m d) := cell_keep (S := 0) hb3 (by first | exact y2 | exact calloc y2 | exact calloc (calloc y2)); have t3 : w3.cell? ⟨w.heap.size + 1 + 1, 0, none⟩ = some (.slice none 0 0) := cell_keep (S := 0) hb3 (by first | exact t2 | exact calloc t2 | exact calloc (calloc t2)); have l3 : w.heap.size + 1 + 1 < w3.heap.size := World.block_lt_of_cell? _ _ t3; have f3 : w3.frozen? ⟨w.heap.size + 1 + 1, 0, none⟩ = false := fcell_keep hb3 (by first | exact l2 | (simp; omega)) (by first | exact f2 | exact falloc f2 l2 | exact falloc (falloc f2 l2) (by simp; omega)); obtain ⟨hc3, hf3⟩ := bcell hb3; have z3 := hb3.size; (try simp at hc3); (try simp at hf3); (try simp at z3); (try (have zz2_3 : w2.heap.size < w3.heap.size := by omega)); (try (have zy2_3 : w2.heap.size + 1 < w3.heap.size := by omega)); clear hb3)
      | (go_at_call 29; refine (rowOf_d HBB.out HY.out hm6 HS.out _ (by repeat (first | exact HB3.out | refine Below.drew ?_ | refine Below.alloc ?_ (by first | omega | (simp; omega)) _))).mono ?_; rintro e w4 ⟨rfl, HB4, hb4⟩; have x4 : w4.cell? ⟨w.heap.size, 0, none⟩ = some (.slice ao n c) := cell_keep (S := 0) hb4 (by first | exact x3 | exact calloc x3 | exact calloc (calloc x3)); have y4 : w4.cell? ⟨w.heap.size + 1, 0, none⟩ = some (.slice bo m d) := cell_keep (S := 0) hb4 (by first | exact y3 | exact calloc y3 | exact calloc (calloc y3)); have t4 : w4.cell? ⟨w.heap.size + 1 + 1, 0, none⟩ = some (.slice none 0 0) := cell_keep (S := 0) hb4 (by first | exact t3 | exact calloc t3 | exact calloc (calloc t3)); have l4 : w.heap.size + 1 + 1 < w4.heap.size := World.block_lt_of_cell? _ _ t4; have f4 : w4.frozen? ⟨w.heap.size + 1 + 1, 0, none⟩ = false := fcell_keep hb4 (by first | exact l3 | (simp; omega)) (by first | exact f3 | exact falloc f3 l3 | exact falloc (falloc f3 l3) (by simp; omega)); obtain ⟨hc4, hf4⟩ := bcell hb4; have z4 := hb4.size; (try simp at hc4); (try simp at hf4); (try simp at z4); (try (have zz2_4 : w2.heap.size < w4.heap.size := by omega)); (try (have zy2_4 : w2.heap.size + 1 < w4.heap.size := by omega)); (try (have zz3_4 : w3.heap.size < w4.heap.size := by omega)); (try (have zy3_4 : w3.heap.size + 1 < w4.heap.size := by omega)); clear hb4)
      | (go_at_call 40; refine (timesRows_d (w := w) HDA.out.1 HDA.out.2 HE.out.1 HE.out.2 _ (by repeat (first | exact HB4.out | refine Below.drew ?_ | refine Below.alloc ?_ (by first | omega | (simp; omega)) _))).mono ?_; rintro e w5 ⟨rfl, HB5, hb5⟩; have x5 : w5.cell? ⟨w.heap.size, 0, none⟩ = some (.slice ao n c) := cell_keep (S := 0) hb5 (by first | exact x4 | exact calloc x4 | exact calloc (calloc x4)); have y5 : w5.cell? ⟨w.heap.size + 1, 0, none⟩ = some (.slice bo m d) := cell_keep (S := 0) hb5 (by first | exact y4 | exact calloc y4 | exact calloc (calloc y4)); have t5 : w5.cell? ⟨w.heap.size + 1 + 1, 0, none⟩ = some (.slice none 0 0) := cell_keep (S := 0) hb5 (by first | exact t4 | exact calloc t4 | exact calloc (calloc t4)); have l5 : w.heap.size + 1 + 1 < w5.heap.size := World.block_lt_of_cell? _ _ t5; have f5 : w5.frozen? ⟨w.heap.size + 1 + 1, 0, none⟩ = false := fcell_keep hb5 (by first | exact l4 | (simp; omega)) (by first | exact f4 | exact falloc f4 l4 | exact falloc (falloc f4 l4) (by simp; omega)); obtain ⟨hc5, hf5⟩ := bcell hb5; have z5 := hb5.size; (try simp at hc5); (try simp at hf5); (try simp at z5); (try (have zz2_5 : w2.heap.size < w5.heap.size := by omega)); (try (have zy2_5 : w2.heap.size + 1 < w5.heap.size := by omega)); (try (have zz3_5 : w3.heap.size < w5.heap.size := by omega)); (try (have zy3_5 : w3.heap.size + 1 < w5.heap.size := by omega)); (try (have zz4_5 : w4.heap.size < w5.heap.size := by omega)); (try (have zy4_5 : w4.heap.size + 1 < w5.heap.size := by omega)); clear hb5))
    all_goals go_wp2_with fail
    all_goals go_meet
    all_goals go_light
    all_goals refine ⟨_, _, rfl, rfl, ?_, ?_, ?_, ?_, ?_⟩
    all_goals try (repeat' (first | (with_reducible refine c6_new ?_; simp; done) | with_reducible refine c6_set_same ?_ | with_reducible refine c6_set_ne ?_ ?_ | with_reducible refine s6_set_ne ?_ ?_ | with_reducible refine c6_alloc ?_))
    all_goals first
      | omega
      | (refine ⟨?_, ?_, ?_, ?_, ?_, ?_⟩ <;> first | (simp [*]; done) | (simp [go_sem, *]; done))
      | with_reducible exact calloc (calloc t5)
      | with_reducible exact calloc (keep6 t5 (by omega))
      | with_reducible exact keep6 (keep6 t5 (by omega)) (by omega)
      | (simp only [World.frozen?_setCell]; exact f5)
      | (refine falloc ?_ ?_ <;> first | (simp only [World.frozen?_setCell]; exact f5) | (simp; omega))
      | (refine falloc (falloc f5 l5) ?_; simp; omega)
      | (show Below _ _ _; with_reducible exact below_set6 (below_set6 HB5.out (by omega)) (by omega))
      | (show Below _ _ _; with_reducible exact (below_set6 HB5.out (by omega)).alloc (by simp; omega) _)
      | (show Below _ _ _; with_reducible exact (HB5.out.alloc (by omega) _).alloc (by simp; omega) _)
  case rest =>
    obtain ⟨ux, uy, rfl, rfl, hcx, hcy, t5, f5, hb⟩ := hcut
    obtain ⟨w5, rfl⟩ : ∃ w5 : World, w5 = wc := ⟨_, rfl⟩
    have HB5 : Hid (Below w.heap.size w w5) := hb
    obtain ⟨p0, p1, p2, p3, p4, p5⟩ := hcx
    obtain ⟨q0, q1, q2, q3, q4, q5⟩ := hcy
    have l5 : w.heap.size + 1 + 1 < w5.heap.size := World.block_lt_of_cell? _ _ t5
    clear hb x2 y2 t2 f2 l2
    have hnq := fun wx => run_neq_row wx s0 s1 s2 s3 s4 s5 0 0 0 0 0 0
    have hf := HF.out
    by_cases hz : [s0, s1, s2, s3, s4, s5] = [0, 0, 0, 0, 0, 0]
    · rw [if_pos hz] at hf
      rw [decide_eq_true hz] at hnq
      simp only [Prod.mk.injEq] at hf
      obtain ⟨hzs, rfl⟩ := hf
      have HZ : Hid (zs = trim [r0, r1, r2, r3, r4, r5]) := hzs
      clear hz hzs
      go_wp2_with fail
      refine (bigFrom_c r0 r1 r2 r3 r4 r5 _ p (by rw [← HZ.out]; exact HP.out)).mono ?_
      rw [← HZ.out]
      rintro e w8 ⟨a', c', rfl, ho, hb⟩
      have HB8 : Hid (Below w.heap.size w w8) := HB5.out.trans (hb.mono HB5.out.size)
      have t8 : w8.cell? ⟨w.heap.size + 1 + 1, 0, none⟩ = some (.slice none 0 0) := cell_keep (S := 0) hb t5
      have f8 : w8.frozen? ⟨w.heap.size + 1 + 1, 0, none⟩ = false := fcell_keep hb l5 f5
      have HO8 : Hid (Own w8 w5.heap.size (.slice a' p c') zs) := ho
      clear hb ho t5 f5 hnq p0 p1 p2 p3 p4 p5 q0 q1 q2 q3 q4 q5
      go_wp2
      refine bodyPost_ret (v := .tuple #[.agg #[.slice a' p c'], .bool true]) (by simp [results, Tryd.results13, go_sem, t8]) rfl ⟨a', c', rfl, own_set_mono HO8.out (by omega) (by omega), HB8.out.setCell (by simp; omega) _⟩
    · rw [if_neg hz] at hf
      rw [decide_eq_false hz] at hnq
      simp only [Prod.mk.injEq] at hf
      obtain ⟨rfl, rfl⟩ := hf
      have hp0 := HP.out
      simp at hp0
      subst hp0
      clear hz
      go_wp2
      refine bodyPost_ret (v := .tuple #[.agg #[.slice none 0 0], .bool false]) (by simp [results, Tryd.results13, go_sem, t5]) rfl ⟨none, 0, rfl, World.ownsRow_nil _ _ _ _, HB5.out.setCell (by simp; omega) _⟩

end Go.Proofs.YtaedplfihjfchaaDoor
