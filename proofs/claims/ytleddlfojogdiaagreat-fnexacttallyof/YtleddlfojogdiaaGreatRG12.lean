/- Chapter 12: l12Refused of the specification. -/
import Derived.Test.YtleddlfojogdiaaGreatA12
import Derived.Test.YtleddlfojogdiaaGreatAP12
import Derived.Test.YtleddlfojogdiaaGreatQ12
namespace Go.Proofs.YtleddlfojogdiaaGreat
set_option linter.unusedVariables false
set_option maxRecDepth 1000000
set_option linter.unusedSimpArgs false
open Go.RowKit

theorem saysY_snoc (l : List St) (s : St) (c : Cl) (i : Int) : saysY (l ++ [s]) c i = (saysY l c i || (decide (s.1 = i) && (decide (whatS s = c) && s.2.2.2.2))) := by simp [saysY, List.any_append]

theorem saysN_snoc (l : List St) (s : St) (c : Cl) (i : Int) : saysN (l ++ [s]) c i = (saysN l c i || (decide (s.1 = i) && (decide (whatS s = c) && !s.2.2.2.2))) := by simp [saysN, List.any_append]

set_option maxHeartbeats 16000000 in
theorem l12Refused_c (ao : Option Addr) (n c : Nat) (xs : List St) (c0 c1 c2 : Int) (w : World) (hx : xs.length = n) (hn : n ≤ 1048576) (hr : RdS w ao xs) (q : Nat) (hq : (refL xs (c0, c1, c2)).length = q) :
    Calls Tryz.prog 68 #[.slice ao n c, .agg #[.int .i64 c0, .int .i64 c1, .int .i64 c2]] w fun e w' => ∃ a' c', e = .returned (.slice a' q c') ∧ Own w' w.heap.size (.slice a' q c') (refL xs (c0, c1, c2)) ∧ Below w.heap.size w w' := by
  have HX : Hid (xs.length = n) := hx
  have HR : Hid (RdS w ao xs) := hr
  have HQ : Hid ((refTo xs (c0, c1, c2) 7).length = q) := hq
  have HS : Hid (∀ m : Nat, refTo xs (c0, c1, c2) (m + 1) = if (saysY xs (c0, c1, c2) m && !saysN xs (c0, c1, c2) m) = true then refTo xs (c0, c1, c2) m ++ [(m : Int)] else refTo xs (c0, c1, c2) m) := fun m => refTo_succ xs (c0, c1, c2) m
  have HLn : Hid (∀ m : Nat, (refTo xs (c0, c1, c2) m).length ≤ m) := fun m => refTo_length xs (c0, c1, c2) m
  have HT0 : Hid (refTo xs (c0, c1, c2) 0 = []) := rfl
  clear hx hr hq
  have bX := balloc w (.cells #[.int .i64 c0, .int .i64 c1, .int .i64 c2] 32)
  have cX := x3_new w (.int .i64 c0) (.int .i64 c1) (.int .i64 c2) 32 w.heap.size rfl
  have hz : (w.alloc (.cells #[.int .i64 c0, .int .i64 c1, .int .i64 c2] 32)).heap.size = w.heap.size + 1 := by simp
  obtain ⟨w0, hV0⟩ : ∃ V, w.alloc (.cells #[.int .i64 c0, .int .i64 c1, .int .i64 c2] 32) = V := ⟨_, rfl⟩
  rw [hV0] at bX cX hz
  have HX0 : Hid (X3 w0 w.heap.size (.int .i64 c0) (.int .i64 c1) (.int .i64 c2)) := cX
  have HB0 : Hid (Below w.heap.size w w0) := bX
  have hz0 : w.heap.size + 1 ≤ w0.heap.size := by omega
  clear bX cX hz
  show Calls Tryz.prog 68 _ w fun e w' => ∃ a' c', e = .returned (.slice a' q c') ∧ Own w' w.heap.size (.slice a' q c') (refTo xs (c0, c1, c2) 7) ∧ Below w.heap.size w w'
  generalize hRT : refTo xs (c0, c1, c2) = RT0 at HQ HS HLn HT0 ⊢
  clear hRT
  go_enter Tryz.func68, Tryz.ntmps68
  go_wp2
  clear hV0
  go_loopw [5, 6] (fun v iv wr => ∃ i : Nat, i ≤ 7 ∧ iv = .int .i64 i ∧ Hid (Own wr w0.heap.size v (RT0 i)) ∧ Hid (X3 wr w.heap.size (.int .i64 c0) (.int .i64 c1) (.int .i64 c2)) ∧ Hid (Below w.heap.size w wr) ∧ w0.heap.size ≤ wr.heap.size) (fun _ iv _ => 7 - (intOf iv).toNat)
  case atStart => exact ⟨0, by omega, rfl, by show Own _ _ _ _; rw [HT0.out]; exact own_nilI _ _, HX0, HB0, Nat.le_refl _⟩
  case round =>
    clear HX0 HB0 HT0
    obtain ⟨i, hi, rfl, hO, hX, hB, hzr⟩ := hrel
    by_cases hlt : i < 7
    · have hi7 : (i : Int) < 7 := by omega
      have HS1 := HS.out i
      have hL := HLn.out i
      generalize RT0 i = out at hO HS1 hL
      obtain ⟨a', c', hv⟩ := hO.out.shape
      obtain ⟨p, hp⟩ : ∃ p, out.length = p := ⟨_, rfl⟩
      rw [hp] at hv hL
      subst hv
      have HOP : Hid (out.length = p) := hp
      have HS2 : Hid (RT0 (i + 1) = if (saysY xs (c0, c1, c2) i && !saysN xs (c0, c1, c2) i) = true then out ++ [(i : Int)] else out) := HS1
      clear hp HS1
      obtain ⟨Y, rfl⟩ : ∃ Y, Y = wr := ⟨_, rfl⟩
      go_wp2
      go_loopw [7, 8, 17] (fun yv nv iv wr => ∃ j : Nat, j ≤ n ∧ iv = .int .i64 j ∧ yv = .bool (saysY (xs.take j) (c0, c1, c2) i) ∧ nv = .bool (saysN (xs.take j) (c0, c1, c2) i) ∧ Hid (Below Y.heap.size Y wr)) (fun _ _ iv _ => n - (intOf iv).toNat)
      case atStart => exact ⟨0, Nat.zero_le _, rfl, rfl, rfl, Below.refl _ _⟩
      case round =>
        obtain ⟨j, hj, rfl, rfl, rfl, hBj⟩ := hrel
        by_cases hjt : j < n
        · have hjl : j < xs.length := by rw [HX.out]; exact hjt
          obtain ⟨b0, o0, rfl, g0, g1, g2, g3, g4⟩ := ((HR.out.later hB.out).later hBj.out).get hjl
          have HT := take_snocT (d := (0, 0, 0, 0, false)) hjl
          have hY := saysY_snoc (xs.take j) (xs.getD j (0, 0, 0, 0, false)) (c0, c1, c2) i
          have hN := saysN_snoc (xs.take j) (xs.getD j (0, 0, 0, 0, false)) (c0, c1, c2) i
          rw [← HT] at hY hN
          clear HT
          generalize xs.getD j (0, 0, 0, 0, false) = s at g0 g1 g2 g3 g4 hY hN
          obtain ⟨x0, x1, x2, x3, x4⟩ := s
          simp only [whatS] at g0 g1 g2 g3 g4 hY hN
          generalize saysY (xs.take j) (c0, c1, c2) i = yb at hY
          generalize saysN (xs.take j) (c0, c1, c2) i = nb at hN
          have HY : Hid (saysY (xs.take (j + 1)) (c0, c1, c2) i = (yb || (decide (x0 = (i : Int)) && (decide ((x1, x2, x3) = (c0, c1, c2)) && x4)))) := hY
          have HN : Hid (saysN (xs.take (j + 1)) (c0, c1, c2) i = (nb || (decide (x0 = (i : Int)) && (decide ((x1, x2, x3) = (c0, c1, c2)) && !x4)))) := hN
          clear hY hN hjl
          have k0 : (0 : Int) ≤ (j : Int) := by omega
          have k1 : (j : Int) < (n : Int) := by omega
          have bX := balloc wr (.cells #[.int .i64 x0, .int .i64 x1, .int .i64 x2, .int .i64 x3, .bool x4] 34)
          have cX := x5_new wr (.int .i64 x0) (.int .i64 x1) (.int .i64 x2) (.int .i64 x3) (.bool x4) 34 wr.heap.size rfl
          have hX1 := (hX.out.later hBj.out).later bX
          have hB1 := hBj.out.trans (bX.mono hBj.out.size)
          obtain ⟨wy, hwy⟩ : ∃ V, wr.alloc (.cells #[.int .i64 x0, .int .i64 x1, .int .i64 x2, .int .i64 x3, .bool x4] 34) = V := ⟨_, rfl⟩
          rw [hwy] at bX cX hX1 hB1
          have HB1 : Hid (Below Y.heap.size Y wy) := hB1
          clear bX hB1
          obtain ⟨⟨d0, d1, d2, d3, d4⟩, _⟩ := cX
          obtain ⟨⟨f0, f1, f2⟩, _⟩ := hX1
          have he := fun wx => run_eql_cl x1 x2 x3 c0 c1 c2 wx
          by_cases h0 : x0 = (i : Int)
          · by_cases heq : (x1, x2, x3) = (c0, c1, c2)
            · rw [decide_eq_true heq] at he
              have HY2 : Hid (saysY (xs.take (j + 1)) (c0, c1, c2) i = (yb || x4)) := by have := HY.out; rw [decide_eq_true h0, decide_eq_true heq, Bool.true_and, Bool.true_and] at this; exact this
              have HN2 : Hid (saysN (xs.take (j + 1)) (c0, c1, c2) i = (nb || !x4)) := by have := HN.out; rw [decide_eq_true h0, decide_eq_true heq, Bool.true_and, Bool.true_and] at this; exact this
              have hb0 : (x0 == (i : Int)) = true := by simpa using h0
              clear HY HN heq h0
              cases yb <;> cases nb
              all_goals (
                go_wp2
                go_roundw
                case rel => exact ⟨j + 1, by omega, by go_num, by rw [HY2.out]; first | rfl | simp, by rw [HN2.out]; first | rfl | simp, HB1⟩
                case measure => simp [intOf]; omega)
            · rw [decide_eq_false heq] at he
              have HY2 : Hid (saysY (xs.take (j + 1)) (c0, c1, c2) i = yb) := by have := HY.out; rw [decide_eq_false heq, Bool.false_and, Bool.and_false, Bool.or_false] at this; exact this
              have HN2 : Hid (saysN (xs.take (j + 1)) (c0, c1, c2) i = nb) := by have := HN.out; rw [decide_eq_false heq, Bool.false_and, Bool.and_false, Bool.or_false] at this; exact this
              have hb0 : (x0 == (i : Int)) = true := by simpa using h0
              clear HY HN heq h0
              go_wp2
              go_roundw
              case rel => exact ⟨j + 1, by omega, by go_num, by rw [HY2.out], by rw [HN2.out], HB1⟩
              case measure => simp [intOf]; omega
          · have HY2 : Hid (saysY (xs.take (j + 1)) (c0, c1, c2) i = yb) := by have := HY.out; rw [decide_eq_false h0, Bool.false_and, Bool.or_false] at this; exact this
            have HN2 : Hid (saysN (xs.take (j + 1)) (c0, c1, c2) i = nb) := by have := HN.out; rw [decide_eq_false h0, Bool.false_and, Bool.or_false] at this; exact this
            have hb0 : (x0 == (i : Int)) = false := by simpa using h0
            clear HY HN h0 he
            go_wp2
            go_roundw
            case rel => exact ⟨j + 1, by omega, by go_num, by rw [HY2.out], by rw [HN2.out], HB1⟩
            case measure => simp [intOf]; omega
        · obtain rfl : n = j := by omega
          have het : xs.take n = xs := List.take_of_length_le (by rw [HX.out]; exact Nat.le_refl _)
          rw [het]
          have hxx : ¬ (n : Int) < (n : Int) := by omega
          have hX1 := hX.out.later hBj.out
          have hB1 := hB.out.trans (hBj.out.mono hB.out.size)
          have hO1 := hO.out.later hBj.out
          have hzz : w0.heap.size ≤ wr.heap.size := Nat.le_trans hzr hBj.out.size
          have HX2 : Hid (X3 wr w.heap.size (.int .i64 c0) (.int .i64 c1) (.int .i64 c2)) := hX1
          have HB2 : Hid (Below w.heap.size w wr) := hB1
          have HO2 : Hid (Own wr w0.heap.size (.slice a' p c') out) := hO1
          clear hX1 hB1 hO1
          generalize saysY xs (c0, c1, c2) i = yb at HS2 ⊢
          generalize saysN xs (c0, c1, c2) i = nb at HS2 ⊢
          by_cases hyn : (yb && !nb) = true
          · have HS3 : Hid (RT0 (i + 1) = out ++ [(i : Int)]) := by have := HS2.out; rw [if_pos hyn] at this; exact this
            obtain ⟨rfl, rfl⟩ : yb = true ∧ nb = false := by cases yb <;> cases nb <;> simp_all
            clear hyn HS2
            have bA := balloc wr (.cells #[.int .i64 (i : Int)] 3)
            obtain ⟨v', w5, r1, o5, g5, b5⟩ := appendI_run (wr.alloc (.cells #[.int .i64 (i : Int)] 3)) w0.heap.size (.slice a' p c') out [(i : Int)] (some ⟨wr.heap.size, 0, none⟩) 1 1 (HO2.out.later bA) (litI wr _) rfl (fun h => by cases h) (by rw [HOP.out]; simp; omega) (by have := bA.size; omega)
            have HO5 : Hid (Own w5 w0.heap.size v' (out ++ [(i : Int)])) := o5
            have HX5 : Hid (X3 w5 w.heap.size (.int .i64 c0) (.int .i64 c1) (.int .i64 c2)) := (HX2.out.later bA).grown g5 (fun e => by have := own_block_ge (HO2.out) _ e.symm; omega)
            have HB5 : Hid (Below w.heap.size w w5) := (HB2.out.trans (bA.mono HB2.out.size)).trans (b5.mono (by omega))
            have hz5 : w0.heap.size ≤ w5.heap.size := by have := bA.size; have := g5.size; omega
            clear bA o5 g5 b5 hO hX hB hBj
            go_wp2_with (at_builtin; refine Lib.wpList_append_run _ rfl _ _ _ _ rfl _ _ rfl rfl _ _ (r1 _) ?_; clear r1)
            go_roundw
            case rel => exact ⟨i + 1, by omega, by go_num, by show Own _ _ _ _; rw [HS3.out]; exact HO5.out, HX5, HB5, hz5⟩
            case measure => simp [intOf]; omega
          · have HS3 : Hid (RT0 (i + 1) = out) := by have := HS2.out; rw [if_neg hyn] at this; exact this
            clear HS2 hO hX hB hBj
            cases yb
            · clear hyn
              go_wp2
              go_roundw
              case rel => exact ⟨i + 1, by omega, by go_num, by show Own _ _ _ _; rw [HS3.out]; exact HO2.out, HX2, HB2, hzz⟩
              case measure => simp [intOf]; omega
            · cases nb
              · exact absurd rfl hyn
              · clear hyn
                go_wp2
                go_roundw
                case rel => exact ⟨i + 1, by omega, by go_num, by show Own _ _ _ _; rw [HS3.out]; exact HO2.out, HX2, HB2, hzz⟩
                case measure => simp [intOf]; omega
    · obtain rfl : i = 7 := by omega
      obtain ⟨a', c', hv⟩ := hO.out.shape
      rw [HQ.out] at hv
      subst hv
      go_wp2
      go_ret
      exact ⟨a', c', rfl, hO.out.mono (by omega), hB.out⟩

end Go.Proofs.YtleddlfojogdiaaGreat
