/- Chapter 14: l14HasClaim of the specification. -/
import Derived.Test.YtleddlfojogdiaaGreatIX14
namespace Go.Proofs.YtleddlfojogdiaaGreat
set_option linter.unusedVariables false
set_option maxRecDepth 1000000
set_option linter.unusedSimpArgs false
open Go.RowKit

set_option maxHeartbeats 4000000 in
theorem l14HasClaim_c (ao : Option Addr) (n c : Nat) (xs : List Cl) (s0 s1 s2 : Int) (w : World) (hx : xs.length = n) (hn : n ≤ 17592186044416) (hr : RdC w ao xs) :
    Calls Tryz.prog 42 #[.slice ao n c, .agg #[.int .i64 s0, .int .i64 s1, .int .i64 s2]] w fun e w' => e = .returned (.bool (decide ((s0, s1, s2) ∈ xs))) ∧ Below w.heap.size w w' := by
  have HX : Hid (xs.length = n) := hx
  have HR : Hid (RdC w ao xs) := hr
  have X0 := x3_new w (.int .i64 s0) (.int .i64 s1) (.int .i64 s2) 32 w.heap.size rfl
  have hB0 := balloc w (.cells #[.int .i64 s0, .int .i64 s1, .int .i64 s2] 32)
  have hsz : (w.alloc (.cells #[.int .i64 s0, .int .i64 s1, .int .i64 s2] 32)).heap.size = w.heap.size + 1 := by simp
  clear hx hr
  go_enter Tryz.func42, Tryz.ntmps42
  go_wp2
  obtain ⟨w1, hw1⟩ : ∃ V, w.alloc (.cells #[.int .i64 s0, .int .i64 s1, .int .i64 s2] 32) = V := ⟨_, rfl⟩
  rw [hw1] at X0 hB0 hsz ⊢
  have HB0 : Hid (Below w.heap.size w w1) := hB0
  have HX3 : Hid (X3 w1 w.heap.size (.int .i64 s0) (.int .i64 s1) (.int .i64 s2)) := X0
  clear hw1 X0 hB0 hsz
  go_loopw [9] (fun iv wr => ∃ k : Nat, k ≤ n ∧ iv = .int .i64 k ∧ Hid (∀ j, j < k → xs.getD j (0, 0, 0) ≠ (s0, s1, s2)) ∧ Hid (Below w1.heap.size w1 wr)) (fun iv _ => n - (intOf iv).toNat)
  case atStart => exact ⟨0, Nat.zero_le _, rfl, fun j h => absurd h (by omega), Below.refl _ _⟩
  case round =>
    obtain ⟨k, hk, rfl, HS, HB⟩ := hrel
    by_cases hlt : k < n
    · have hkl : k < xs.length := by rw [HX.out]; exact hlt
      have HIn : Hid (xs.getD k (0, 0, 0) = (s0, s1, s2) → decide ((s0, s1, s2) ∈ xs) = true) := fun e => by
        rw [decide_eq_true (mem_getCl HX.out hlt e)]
      have HNx : Hid (xs.getD k (0, 0, 0) ≠ (s0, s1, s2) → ∀ j, j < k + 1 → xs.getD j (0, 0, 0) ≠ (s0, s1, s2)) := fun h j hj => by
        by_cases e : j = k
        · rw [e]; exact h
        · exact HS.out j (by omega)
      obtain ⟨b, o, rfl, g0, g1, g2⟩ := ((HR.out.later HB0.out).later HB.out).get hkl
      have k0 : (0 : Int) ≤ (k : Int) := by omega
      have k1 : (k : Int) < (n : Int) := by omega
      clear HS hkl
      generalize xs.getD k (0, 0, 0) = s at *
      obtain ⟨x0, x1, x2⟩ := s
      simp only at g0 g1 g2
      have bX := balloc wr (.cells #[.int .i64 x0, .int .i64 x1, .int .i64 x2] 32)
      have aX := x3_new wr (.int .i64 x0) (.int .i64 x1) (.int .i64 x2) 32 wr.heap.size rfl
      have BX := HB.out.trans (bX.mono HB.out.size)
      obtain ⟨V, hV⟩ : ∃ V, wr.alloc (.cells #[.int .i64 x0, .int .i64 x1, .int .i64 x2] 32) = V := ⟨_, rfl⟩
      rw [hV] at bX aX BX
      obtain ⟨⟨y0, y1, y2⟩, _⟩ := HX3.out.later BX
      have HBX : Hid (Below w1.heap.size w1 V) := BX
      obtain ⟨⟨d0, d1, d2⟩, _⟩ := aX
      clear bX BX
      have hq := fun wx => run_eql_cl x0 x1 x2 s0 s1 s2 wx
      by_cases he : (x0, x1, x2) = (s0, s1, s2)
      · have HI : Hid (decide ((s0, s1, s2) ∈ xs) = true) := HIn.out he
        rw [decide_eq_true he] at hq
        clear he HIn HNx
        go_wp2_with fail
        clear hV
        go_ret
        exact ⟨by rw [HI.out]; rfl, HB0.out.trans (HBX.out.mono HB0.out.size)⟩
      · have HN : Hid (∀ j, j < k + 1 → xs.getD j (0, 0, 0) ≠ (s0, s1, s2)) := HNx.out he
        rw [decide_eq_false he] at hq
        clear he HIn HNx
        go_wp2_with fail
        clear hV
        go_roundw
        case rel => exact ⟨k + 1, by omega, by go_num, HN, HBX⟩
        case measure => simp [intOf]; omega
    · obtain rfl : k = n := by omega
      go_wp2
      go_ret
      exact ⟨by rw [decide_eq_false (not_memCl HX.out HS.out)]; rfl, HB0.out.trans (HB.out.mono HB0.out.size)⟩

end Go.Proofs.YtleddlfojogdiaaGreat
