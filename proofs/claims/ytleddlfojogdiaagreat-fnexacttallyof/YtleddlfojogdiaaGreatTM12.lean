/- Chapter 12: testimonyOf: a map of how often each witness says what. -/
import Derived.Test.YtleddlfojogdiaaGreatDC12
import Derived.Test.YtleddlfojogdiaaGreatQ12
namespace Go.Proofs.YtleddlfojogdiaaGreat
set_option linter.unusedVariables false
set_option maxRecDepth 1000000
set_option linter.unusedSimpArgs false
open Go.RowKit Go.Maps

set_option maxHeartbeats 8000000 in
theorem testimony_c (ao : Option Addr) (n c : Nat) (xs : List St) (c0 c1 c2 : Int) (w : World) (hx : xs.length = n) (hn : n ≤ 60) (hs : xs.all stB = true) (hr : RdS w ao xs) :
    Calls Tryz.prog 76 #[.slice ao n c, .agg #[.int .i64 c0, .int .i64 c1, .int .i64 c2]] w fun e w' => ∃ b, e = .returned (.map (some b)) ∧ w.heap.size ≤ b ∧ MT w' b n (gOf xs (c0, c1, c2)) ∧ Below w.heap.size w w' := by
  have HX : Hid (xs.length = n) := hx
  have HR : Hid (RdS w ao xs) := hr
  have HS : Hid (xs.all stB = true) := hs
  clear hx hr hs
  have hmm := @run_makeMap Tryz.prog
  have bX := balloc w (.cells #[.int .i64 c0, .int .i64 c1, .int .i64 c2] 32)
  have cX := x3_new w (.int .i64 c0) (.int .i64 c1) (.int .i64 c2) 32 w.heap.size rfl
  have hz : (w.alloc (.cells #[.int .i64 c0, .int .i64 c1, .int .i64 c2] 32)).heap.size = w.heap.size + 1 := by simp
  obtain ⟨w0, hV0⟩ : ∃ V, w.alloc (.cells #[.int .i64 c0, .int .i64 c1, .int .i64 c2] 32) = V := ⟨_, rfl⟩
  rw [hV0] at bX cX hz
  have b1 : Below w0.heap.size w0 (w0.alloc (.map #[] 0)) := (Below.refl _ _).alloc (Nat.le_refl _) _
  have hM1 := mt_new w0
  have hX1 := cX.later b1
  have hB1 := bX.trans (b1.mono bX.size)
  obtain ⟨w1, hV1⟩ : ∃ V, w0.alloc (.map #[] 0) = V := ⟨_, rfl⟩
  rw [hV1] at b1 hM1 hX1 hB1
  obtain ⟨b, hb⟩ : ∃ b, w0.heap.size = b := ⟨_, rfl⟩
  rw [hb] at hM1
  have HM1 : Hid (MT w1 b 0 (gOf (xs.take 0) (c0, c1, c2))) := by show MT _ _ _ _; rw [List.take_zero, gOf_nil]; exact hM1
  have HX1 : Hid (X3 w1 w.heap.size (.int .i64 c0) (.int .i64 c1) (.int .i64 c2)) := hX1
  have HB1 : Hid (Below w.heap.size w w1) := hB1
  have hbw : w.heap.size + 1 = b := by omega
  have hbw1 : b < w1.heap.size := hM1.lt
  clear bX cX b1 hM1 hX1 hB1 hz
  go_enter Tryz.func76, Tryz.ntmps76
  go_wp2
  clear hmm hV0
  go_loopw [11] (fun iv wr => ∃ j : Nat, j ≤ n ∧ iv = .int .i64 j ∧ Hid (MT wr b j (gOf (xs.take j) (c0, c1, c2))) ∧ Hid (X3 wr w.heap.size (.int .i64 c0) (.int .i64 c1) (.int .i64 c2)) ∧ Hid (Below w.heap.size w wr)) (fun iv _ => n - iv12 iv)
  case atStart => exact ⟨0, Nat.zero_le _, rfl, HM1, HX1, HB1⟩
  case round =>
    clear HM1 HX1 HB1
    obtain ⟨j, hj, rfl, hM, hX, hB⟩ := hrel
    by_cases hlt : j < n
    · have hjl : j < xs.length := by rw [HX.out]; exact hlt
      obtain ⟨b0, o0, rfl, g0, g1, g2, g3, g4⟩ := (HR.out.later hB.out).get hjl
      have HT := take_snocT (d := (0, 0, 0, 0, false)) hjl
      have hst := all_at (d := (0, 0, 0, 0, false)) HS.out hjl
      generalize xs.getD j (0, 0, 0, 0, false) = s at g0 g1 g2 g3 g4 HT hst
      obtain ⟨x0, x1, x2, x3, x4⟩ := s
      simp only at g0 g1 g2 g3 g4
      have hwx : (Lit.int .i64 x0).wf = true := by
        simp [stB, inB] at hst
        exact wf_small hst.1.1 hst.1.2
      clear hst
      have HTk : Hid (xs.take (j + 1) = xs.take j ++ [(x0, x1, x2, x3, x4)]) := HT
      clear HT
      have k0 : (0 : Int) ≤ (j : Int) := by omega
      have k1 : (j : Int) < (n : Int) := by omega
      have hL : (xs.take j).length ≤ 60 := by rw [List.length_take]; omega
      have bX := balloc wr (.cells #[.int .i64 x0, .int .i64 x1, .int .i64 x2, .int .i64 x3, .bool x4] 34)
      have cX := x5_new wr (.int .i64 x0) (.int .i64 x1) (.int .i64 x2) (.int .i64 x3) (.bool x4) 34 wr.heap.size rfl
      have hM1 := hM.out.later bX
      have hX1 := hX.out.later bX
      have hB1 := hB.out.trans (bX.mono hB.out.size)
      have hbr : b < wr.heap.size := hM.out.lt
      obtain ⟨wy, hwy⟩ : ∃ V, wr.alloc (.cells #[.int .i64 x0, .int .i64 x1, .int .i64 x2, .int .i64 x3, .bool x4] 34) = V := ⟨_, rfl⟩
      rw [hwy] at bX cX hM1 hX1 hB1
      have HM1 : Hid (MT wy b j (gOf (xs.take j) (c0, c1, c2))) := hM1
      have HX1 : Hid (X3 wy w.heap.size (.int .i64 c0) (.int .i64 c1) (.int .i64 c2)) := hX1
      have HB1 : Hid (Below w.heap.size w wy) := hB1
      have HC1 : Hid (X5 wy wr.heap.size (.int .i64 x0) (.int .i64 x1) (.int .i64 x2) (.int .i64 x3) (.bool x4)) := cX
      clear hM hX hB bX hM1 hX1 hB1 hjl
      obtain ⟨⟨d0, d1, d2, d3, d4⟩, _⟩ := id cX
      obtain ⟨⟨f0, f1, f2⟩, _⟩ := id HX1.out
      clear cX
      have he := fun wx => run_eql_cl x1 x2 x3 c0 c1 c2 wx
      by_cases heq : (x1, x2, x3) = (c0, c1, c2)
      · rw [decide_eq_true heq] at he
        have hg := gOf_yes (l := xs.take j) (s := (x0, x1, x2, x3, x4)) (c := (c0, c1, c2)) heq
        have hp := gOf_getD (xs.take j) (c0, c1, c2) x0
        have ha1 := rfN_le (xs.take j) (c0, c1, c2) x0
        have ha2 := tkN_le (xs.take j) (c0, c1, c2) x0
        rw [← HTk.out] at hg
        simp only at hg
        obtain ⟨a, ha⟩ : ∃ a : Int, ((rfN (xs.take j) (c0, c1, c2) x0 : Nat) : Int) = a := ⟨_, rfl⟩
        obtain ⟨t, ht⟩ : ∃ t : Int, ((tkN (xs.take j) (c0, c1, c2) x0 : Nat) : Int) = t := ⟨_, rfl⟩
        rw [ha, ht] at hg hp
        have qw := fun wx => with_c a t x4 wx (by omega) (by omega)
        obtain ⟨a2, ea2⟩ : ∃ a2, (if x4 = true then a + 1 else a) = a2 := ⟨_, rfl⟩
        obtain ⟨t2, et2⟩ : ∃ t2, (if x4 = true then t else t + 1) = t2 := ⟨_, rfl⟩
        rw [ea2, et2] at qw hg
        have HG : Hid (gOf (xs.take (j + 1)) (c0, c1, c2) = fun y => if y = x0 then some (a2, t2) else gOf (xs.take j) (c0, c1, c2) y) := hg
        clear hg ea2 et2 ha ht ha1 ha2 heq
        have hlk := HM1.out.look hwx hp
        have hlk2 := (HM1.out.later (Below.refl _ wy).drew).look hwx hp
        simp only at hlk hlk2
        clear hp
        generalize gOf (xs.take j) (c0, c1, c2) = gg at HM1 HG
        go_wp2
        clear hwy
        go_region_with (go_at_call 89; refine (qw _).mono ?_; rintro e w4 ⟨rfl, hb⟩; have hB4 : Below wy.heap.size wy w4 := (by first | exact hb | exact ((Below.refl wy.heap.size wy).drew).trans hb); have HM4 : Hid (MT w4 b j gg) := HM1.out.later hB4; have HX4 : Hid (X3 w4 w.heap.size (.int .i64 c0) (.int .i64 c1) (.int .i64 c2)) := HX1.out.later hB4; have HB4 : Hid (Below w.heap.size w w4) := HB1.out.trans (hB4.mono HB1.out.size); obtain ⟨⟨e0, e1, e2, e3, e4⟩, _⟩ := id (HC1.out.later hB4); obtain ⟨w5, hup, hM5, hg5⟩ := HM4.out.put (by omega) hwx (a2, t2); simp only at hup; have HM5 : Hid (MT w5 b (j + 1) (fun y => if y = x0 then some (a2, t2) else gg y)) := hM5; have HX5 : Hid (X3 w5 w.heap.size (.int .i64 c0) (.int .i64 c1) (.int .i64 c2)) := HX4.out.grown hg5 (fun e => by have e2 := Option.some.inj e; omega); have HB5 : Hid (Below w.heap.size w w5) := Below.grown HB4.out hg5 (by have := HB4.out.size; omega) (fun k e => by have e2 := Option.some.inj e; omega); clear hb hB4 hM5 hg5)
        all_goals (
          go_wp2
          go_roundw
          case rel => exact ⟨j + 1, by omega, by go_num, by show MT _ _ _ _; rw [HG.out]; exact HM5.out, HX5, HB5⟩
          case measure => simp [iv12]; omega)
      · rw [decide_eq_false heq] at he
        have hg := gOf_no (l := xs.take j) (s := (x0, x1, x2, x3, x4)) (c := (c0, c1, c2)) heq
        rw [← HTk.out] at hg
        have HG : Hid (gOf (xs.take (j + 1)) (c0, c1, c2) = gOf (xs.take j) (c0, c1, c2)) := hg
        clear hg heq
        go_wp2
        go_roundw
        case rel => exact ⟨j + 1, by omega, by go_num, by show MT _ _ _ _; rw [HG.out]; exact HM1.out.mono (by omega), HX1, HB1⟩
        case measure => simp [iv12]; omega
    · obtain rfl : n = j := by omega
      have he : xs.take n = xs := List.take_of_length_le (by rw [HX.out]; exact Nat.le_refl _)
      rw [he] at hM
      have hx : ¬ (n : Int) < (n : Int) := by omega
      go_wp2
      go_ret
      exact ⟨b, rfl, by omega, hM.out, hB.out⟩

end Go.Proofs.YtleddlfojogdiaaGreat
