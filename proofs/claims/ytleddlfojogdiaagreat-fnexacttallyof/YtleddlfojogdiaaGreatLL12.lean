/- Chapter 12: claims compared by the specification; the claims of statements, one by one. -/
import Derived.Test.YtleddlfojogdiaaGreatCP12
import Derived.Test.YtleddlfojogdiaaGreatAP12
import Derived.Test.YtleddlfojogdiaaGreatQ12
namespace Go.Proofs.YtleddlfojogdiaaGreat
set_option linter.unusedVariables false
set_option maxRecDepth 1000000
set_option linter.unusedSimpArgs false
open Go.RowKit

set_option maxHeartbeats 4000000 in
theorem l12Less_c (a0 a1 a2 b0 b1 b2 : Int) (w : World) :
    Calls Tryz.prog 84 #[.agg #[.int .i64 a0, .int .i64 a1, .int .i64 a2], .agg #[.int .i64 b0, .int .i64 b1, .int .i64 b2]] w fun e w' => e = .returned (.bool (ltC (a0, a1, a2) (b0, b1, b2))) ∧ Below w.heap.size w w' := by
  by_cases h0 : a0 = b0
  · by_cases h1 : a1 = b1
    · have e : ltC (a0, a1, a2) (b0, b1, b2) = decide (a2 < b2) := by unfold ltC; simp only [ne_eq, h0, h1, not_true_eq_false, if_false]
      have k0 : (a0 != b0) = false := by simpa using h0
      have k1 : (a1 != b1) = false := by simpa using h1
      rw [e]
      clear e h0 h1
      go_enter Tryz.func84, Tryz.ntmps84
      go_wp2
      go_ret
      exact ⟨rfl, ((Below.refl _ w).alloc (Nat.le_refl _) _).alloc (by simp) _⟩
    · have e : ltC (a0, a1, a2) (b0, b1, b2) = decide (a1 < b1) := by unfold ltC; simp only [ne_eq, h0, h1, not_true_eq_false, not_false_eq_true, if_false, if_true]
      have k0 : (a0 != b0) = false := by simpa using h0
      have k1 : (a1 != b1) = true := by simpa using h1
      rw [e]
      clear e h0 h1
      go_enter Tryz.func84, Tryz.ntmps84
      go_wp2
      go_ret
      exact ⟨rfl, ((Below.refl _ w).alloc (Nat.le_refl _) _).alloc (by simp) _⟩
  · have e : ltC (a0, a1, a2) (b0, b1, b2) = decide (a0 < b0) := by unfold ltC; simp only [ne_eq, h0, not_false_eq_true, if_true]
    have k0 : (a0 != b0) = true := by simpa using h0
    rw [e]
    clear e h0
    go_enter Tryz.func84, Tryz.ntmps84
    go_wp2
    go_ret
    exact ⟨rfl, ((Below.refl _ w).alloc (Nat.le_refl _) _).alloc (by simp) _⟩

theorem claimsIn1_c (x0 x1 x2 x3 : Int) (x4 : Bool) (w : World) :
    Calls Tryz.prog 72 #[.agg #[.int .i64 x0, .int .i64 x1, .int .i64 x2, .int .i64 x3, .bool x4]] w fun e w' => e = .returned (.agg #[.int .i64 x1, .int .i64 x2, .int .i64 x3]) ∧ Below w.heap.size w w' := by
  go_enter Tryz.func72, Tryz.ntmps72
  go_wp2
  refine bodyPost_ret (v := .agg #[.int .i64 x1, .int .i64 x2, .int .i64 x3]) (by simp [results, Tryz.results72, go_sem, ]; try rfl) rfl ?_
  exact ⟨rfl, ((Below.refl _ w).alloc (Nat.le_refl _) _).alloc (by simp) _⟩

set_option maxHeartbeats 4000000 in
theorem eachSC_c (ao : Option Addr) (n c : Nat) (xs : List St) (w : World) (hx : xs.length = n) (hn : n ≤ 60) (hr : RdS w ao xs) :
    Calls Tryz.prog 71 #[.slice ao n c, .func (.func 72) #[] #[]] w fun e w' => ∃ a' c', e = .returned (.slice a' n c') ∧ OwnC w' w.heap.size (.slice a' n c') (xs.map whatS) ∧ Below w.heap.size w w' := by
  have HX : Hid (xs.length = n) := hx
  have HR : Hid (RdS w ao xs) := hr
  clear hx hr
  go_enter Tryz.func71, Tryz.ntmps71
  go_wp2
  go_loopw [5, 10] (fun v iv wr => ∃ j : Nat, j ≤ n ∧ iv = .int .i64 j ∧ Hid (OwnC wr w.heap.size v ((xs.take j).map whatS)) ∧ Hid (Below w.heap.size w wr)) (fun _ iv _ => n - (intOf iv).toNat)
  case atStart => exact ⟨0, Nat.zero_le _, rfl, own_nilC _ _, Below.refl _ _⟩
  case round =>
    obtain ⟨j, hj, rfl, hO, hB⟩ := hrel
    by_cases hlt : j < n
    · have hjl : j < xs.length := by rw [HX.out]; exact hlt
      obtain ⟨b0, o0, rfl, g0, g1, g2, g3, g4⟩ := (HR.out.later hB.out).get hjl
      have HT := take_snocT (d := (0, 0, 0, 0, false)) hjl
      generalize xs.getD j (0, 0, 0, 0, false) = s at g0 g1 g2 g3 g4 HT
      obtain ⟨x0, x1, x2, x3, x4⟩ := s
      simp only at g0 g1 g2 g3 g4
      have HTk : Hid ((xs.take (j + 1)).map whatS = (xs.take j).map whatS ++ [(x1, x2, x3)]) := by show _ = _; rw [HT, List.map_append]; rfl
      have HL : Hid (((xs.take j).map whatS).length = j) := by show _ = _; rw [List.length_map, List.length_take, HX.out]; omega
      clear HT hjl
      generalize (xs.take j).map whatS = out at hO HTk HL
      have k0 : (0 : Int) ≤ (j : Int) := by omega
      have k1 : (j : Int) < (n : Int) := by omega
      obtain ⟨a', c', hv⟩ := hO.out.shape
      rw [HL.out] at hv
      subst hv
      have bX := balloc wr (.cells #[.int .i64 x0, .int .i64 x1, .int .i64 x2, .int .i64 x3, .bool x4] 34)
      have cX := x5_new wr (.int .i64 x0) (.int .i64 x1) (.int .i64 x2) (.int .i64 x3) (.bool x4) 34 wr.heap.size rfl
      have hO1 := hO.out.later bX
      have hB1 := hB.out.trans (bX.mono hB.out.size)
      obtain ⟨wy, hwy⟩ : ∃ V, wr.alloc (.cells #[.int .i64 x0, .int .i64 x1, .int .i64 x2, .int .i64 x3, .bool x4] 34) = V := ⟨_, rfl⟩
      rw [hwy] at bX cX hO1 hB1
      have HO1 : Hid (OwnC wy w.heap.size (.slice a' j c') out) := hO1
      have HB1 : Hid (Below w.heap.size w wy) := hB1
      clear hO hB bX hO1 hB1
      obtain ⟨⟨d0, d1, d2, d3, d4⟩, _⟩ := cX
      go_wp2_with fail
      clear hwy d0 d1 d2 d3 d4
      refine (claimsIn1_c x0 x1 x2 x3 x4 _).mono ?_
      rintro e w4 ⟨rfl, hb⟩
      have HO4 : Hid (OwnC w4 w.heap.size (.slice a' j c') out) := HO1.out.later hb
      have HB4 : Hid (Below w.heap.size w w4) := HB1.out.trans (hb.mono HB1.out.size)
      clear hb
      have bA := balloc w4 (.cells #[.int .i64 x1, .int .i64 x2, .int .i64 x3] 32)
      obtain ⟨v', w5, r1, o5, g5, b5⟩ := appendC_run (w4.alloc (.cells #[.int .i64 x1, .int .i64 x2, .int .i64 x3] 32)) w.heap.size (.slice a' j c') out [(x1, x2, x3)] (some ⟨w4.heap.size, 0, none⟩) 1 1 (HO4.out.later bA) (litC w4 _ _ _) rfl (fun h => by cases h) (by rw [HL.out]; omega) (by have := HB4.out.size; have := bA.size; omega)
      have HO5 : Hid (OwnC w5 w.heap.size v' (out ++ [(x1, x2, x3)])) := o5
      have HB5 : Hid (Below w.heap.size w w5) := (HB4.out.trans (bA.mono HB4.out.size)).trans b5
      clear bA o5 g5 b5
      go_wp2_with (at_builtin; refine Lib.wpList_append_run _ rfl _ _ _ _ rfl _ _ rfl rfl _ _ (r1 _) ?_; clear r1)
      go_roundw
      case rel => exact ⟨j + 1, by omega, by go_num, by show OwnC _ _ _ _; rw [HTk.out]; exact HO5.out, HB5⟩
      case measure => simp [intOf]; omega
    · obtain rfl : n = j := by omega
      have he : xs.take n = xs := List.take_of_length_le (by rw [HX.out]; exact Nat.le_refl _)
      rw [he] at hO
      have hx : ¬ (n : Int) < (n : Int) := by omega
      obtain ⟨a', c', hv⟩ := hO.out.shape
      rw [List.length_map, HX.out] at hv
      subst hv
      go_wp2
      go_ret
      exact ⟨a', c', rfl, hO.out, hB.out⟩

end Go.Proofs.YtleddlfojogdiaaGreat
