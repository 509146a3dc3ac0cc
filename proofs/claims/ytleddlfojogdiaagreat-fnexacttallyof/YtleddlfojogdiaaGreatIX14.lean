/- Chapter 14: slices.Index and slices.Contains over claims. -/
import Derived.Test.YtleddlfojogdiaaGreatQ12
import Derived.WalkSmall
namespace Go.Proofs.YtleddlfojogdiaaGreat
set_option linter.unusedVariables false
set_option maxRecDepth 1000000
set_option linter.unusedSimpArgs false
open Go.RowKit

theorem mem_getCl {xs : List Cl} {k n : Nat} {s : Cl} (hx : xs.length = n) (hk : k < n) (e : xs.getD k (0, 0, 0) = s) : s ∈ xs := by
  rw [← e]
  exact mem_getD (0, 0, 0) (by omega)

theorem not_memCl {xs : List Cl} {n : Nat} {s : Cl} (hx : xs.length = n) (h : ∀ j, j < n → xs.getD j (0, 0, 0) ≠ s) : s ∉ xs := by
  intro hm
  obtain ⟨j, hj, e⟩ := List.getElem_of_mem hm
  exact h j (by omega) (by rw [← e]; simp [List.getD, hj])

set_option maxHeartbeats 4000000 in
theorem indexCl_c (ao : Option Addr) (n c : Nat) (xs : List Cl) (s0 s1 s2 : Int) (w : World) (hx : xs.length = n) (hn : n ≤ 17592186044416) (hr : RdC w ao xs) :
    Calls Tryz.prog 92 #[.slice ao n c, .agg #[.int .i64 s0, .int .i64 s1, .int .i64 s2]] w fun e w' => ∃ i : Int, e = .returned (.int .i64 i) ∧ decide (0 ≤ i) = decide ((s0, s1, s2) ∈ xs) ∧ Below w.heap.size w w' := by
  have HX : Hid (xs.length = n) := hx
  have HR : Hid (RdC w ao xs) := hr
  have X0 := x3_new w (.int .i64 s0) (.int .i64 s1) (.int .i64 s2) 32 w.heap.size rfl
  have hB0 := balloc w (.cells #[.int .i64 s0, .int .i64 s1, .int .i64 s2] 32)
  have hsz : (w.alloc (.cells #[.int .i64 s0, .int .i64 s1, .int .i64 s2] 32)).heap.size = w.heap.size + 1 := by simp
  clear hx hr
  go_enter Tryz.func92, Tryz.ntmps92
  go_wp2
  obtain ⟨w1, hw1⟩ : ∃ V, w.alloc (.cells #[.int .i64 s0, .int .i64 s1, .int .i64 s2] 32) = V := ⟨_, rfl⟩
  rw [hw1] at X0 hB0 hsz ⊢
  have HB0 : Hid (Below w.heap.size w w1) := hB0
  have HX3 : Hid (X3 w1 w.heap.size (.int .i64 s0) (.int .i64 s1) (.int .i64 s2)) := X0
  clear hw1 X0 hB0 hsz
  go_loopw [8] (fun iv wr => ∃ k : Nat, k ≤ n ∧ iv = .int .i64 k ∧ Hid (∀ j, j < k → xs.getD j (0, 0, 0) ≠ (s0, s1, s2)) ∧ Hid (Below w1.heap.size w1 wr)) (fun iv _ => n - (intOf iv).toNat)
  case atStart => exact ⟨0, Nat.zero_le _, rfl, fun j h => absurd h (by omega), Below.refl _ _⟩
  case round =>
    obtain ⟨k, hk, rfl, HS, HB⟩ := hrel
    by_cases hlt : k < n
    · have hkl : k < xs.length := by rw [HX.out]; exact hlt
      have HIn : Hid (xs.getD k (0, 0, 0) = (s0, s1, s2) → decide (0 ≤ (k : Int)) = decide ((s0, s1, s2) ∈ xs)) := fun e => by
        rw [decide_eq_true (by omega), decide_eq_true (mem_getCl HX.out hlt e)]
      have HNx : Hid (xs.getD k (0, 0, 0) ≠ (s0, s1, s2) → ∀ j, j < k + 1 → xs.getD j (0, 0, 0) ≠ (s0, s1, s2)) := fun h j hj => by
        by_cases e : j = k
        · rw [e]; exact h
        · exact HS.out j (by omega)
      obtain ⟨b, o, rfl, g0, g1, g2⟩ := ((HR.out.later HB0.out).later HB.out).get hkl
      obtain ⟨⟨y0, y1, y2⟩, yf⟩ := HX3.out.later HB.out
      have k0 : (0 : Int) ≤ (k : Int) := by omega
      have k1 : (k : Int) < (n : Int) := by omega
      clear HS hkl yf
      generalize xs.getD k (0, 0, 0) = s at *
      obtain ⟨x0, x1, x2⟩ := s
      simp only at g0 g1 g2
      have hq := fun wx => run_eql_cl s0 s1 s2 x0 x1 x2 wx
      by_cases he : (x0, x1, x2) = (s0, s1, s2)
      · have HI : Hid (decide (0 ≤ (k : Int)) = decide ((s0, s1, s2) ∈ xs)) := HIn.out he
        rw [decide_eq_true he.symm] at hq
        clear he HIn HNx
        go_wp2_with fail
        go_quiet (fail)
        have HB2 : Hid (Below w1.heap.size w1 (wr.drewN nq)) := below_drewN HB.out nq
        go_wp2
        go_ret
        exact ⟨_, rfl, HI.out, HB0.out.trans (HB2.out.mono HB0.out.size)⟩
      · have HN : Hid (∀ j, j < k + 1 → xs.getD j (0, 0, 0) ≠ (s0, s1, s2)) := HNx.out he
        rw [decide_eq_false (fun e => he e.symm)] at hq
        clear he HIn HNx
        go_wp2_with fail
        go_quiet (fail)
        have HB2 : Hid (Below w1.heap.size w1 (wr.drewN nq)) := below_drewN HB.out nq
        go_wp2
        go_roundw
        case rel => exact ⟨k + 1, by omega, by go_num, HN, HB2⟩
        case measure => simp [intOf]; omega
    · obtain rfl : k = n := by omega
      go_wp2
      go_ret
      exact ⟨-1, rfl, by rw [decide_eq_false (by omega), decide_eq_false (not_memCl HX.out HS.out)], HB0.out.trans (HB.out.mono HB0.out.size)⟩

theorem containsCl_c (ao : Option Addr) (n c : Nat) (xs : List Cl) (s0 s1 s2 : Int) (w : World) (hx : xs.length = n) (hn : n ≤ 17592186044416) (hr : RdC w ao xs) :
    Calls Tryz.prog 83 #[.slice ao n c, .agg #[.int .i64 s0, .int .i64 s1, .int .i64 s2]] w fun e w' => e = .returned (.bool (decide ((s0, s1, s2) ∈ xs))) ∧ Below w.heap.size w w' := by
  have bA := balloc w (.cells #[.int .i64 s0, .int .i64 s1, .int .i64 s2] 32)
  have q := indexCl_c ao n c xs s0 s1 s2 _ hx hn (hr.later bA)
  have HA : Hid (Below w.heap.size w (w.alloc (.cells #[.int .i64 s0, .int .i64 s1, .int .i64 s2] 32))) := bA
  generalize decide ((s0, s1, s2) ∈ xs) = z at q ⊢
  clear hx hr bA
  go_enter Tryz.func83, Tryz.ntmps83
  go_wp2_with fail
  refine q.mono ?_
  clear q
  rintro e w' ⟨i, rfl, hi, hb⟩
  have HB : Hid (Below w.heap.size w w') := HA.out.trans (hb.mono HA.out.size)
  clear hb HA
  cases z
  · have h0 : ¬ 0 ≤ i := of_decide_eq_false hi
    clear hi
    go_wp2
    go_ret
    exact ⟨ret_bool (by simp [h0]), HB.out⟩
  · have h0 : 0 ≤ i := of_decide_eq_true hi
    clear hi
    go_wp2
    go_ret
    exact ⟨ret_bool (by simp [h0]), HB.out⟩

end Go.Proofs.YtleddlfojogdiaaGreat
