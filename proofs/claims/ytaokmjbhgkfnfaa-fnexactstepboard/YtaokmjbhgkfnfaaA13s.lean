/- Chapter 13: small functions of both sides. -/
import Derived.Test.YtaokmjbhgkfnfaaP13s
import Derived.Test.YtaokmjbhgkfnfaaX12s
namespace Go.Proofs.Ytaokmjbhgkfnfaa
set_option linter.unusedVariables false
set_option maxRecDepth 1000000
set_option linter.unusedSimpArgs false
open Go.RowKit

theorem isFaults_c (x : Int) (w : World) : Calls Try.prog 80 #[.int .i64 x] w fun e w' => e = .returned (.bool (inB x 0 2)) ∧ w' = w := by
  by_cases h1 : 0 ≤ x
  · by_cases h2 : x ≤ 2
    · have h3 : x < 3 := by omega
      rw [show inB x 0 2 = true from decide_eq_true ⟨h1, h2⟩]
      go_enter Try.func80, Try.ntmps80
      go_wp2
      go_ret
      exact ⟨rfl, rfl⟩
    · have h3 : ¬ x < 3 := by omega
      rw [show inB x 0 2 = false from decide_eq_false (by omega)]
      go_enter Try.func80, Try.ntmps80
      go_wp2
      go_ret
      exact ⟨rfl, rfl⟩
  · rw [show inB x 0 2 = false from decide_eq_false (by omega)]
    go_enter Try.func80, Try.ntmps80
    go_wp2
    go_ret
    exact ⟨rfl, rfl⟩

theorem isEpoch_c (x : Int) (w : World) : Calls Try.prog 59 #[.int .i64 x] w fun e w' => e = .returned (.bool (inB x 0 20)) ∧ w' = w := by
  by_cases h1 : 0 ≤ x
  · by_cases h2 : x ≤ 20
    · have h3 : x < 21 := by omega
      rw [show inB x 0 20 = true from decide_eq_true ⟨h1, h2⟩]
      go_enter Try.func59, Try.ntmps59
      go_wp2
      go_ret
      exact ⟨rfl, rfl⟩
    · have h3 : ¬ x < 21 := by omega
      rw [show inB x 0 20 = false from decide_eq_false (by omega)]
      go_enter Try.func59, Try.ntmps59
      go_wp2
      go_ret
      exact ⟨rfl, rfl⟩
  · rw [show inB x 0 20 = false from decide_eq_false (by omega)]
    go_enter Try.func59, Try.ntmps59
    go_wp2
    go_ret
    exact ⟨rfl, rfl⟩

theorem isList_c (x : Int) (w : World) : Calls Try.prog 77 #[.int .i64 x] w fun e w' => e = .returned (.bool (inB x 0 9)) ∧ w' = w := by
  by_cases h1 : 0 ≤ x
  · by_cases h2 : x ≤ 9
    · have h3 : x < 10 := by omega
      rw [show inB x 0 9 = true from decide_eq_true ⟨h1, h2⟩]
      go_enter Try.func77, Try.ntmps77
      go_wp2
      go_ret
      exact ⟨rfl, rfl⟩
    · have h3 : ¬ x < 10 := by omega
      rw [show inB x 0 9 = false from decide_eq_false (by omega)]
      go_enter Try.func77, Try.ntmps77
      go_wp2
      go_ret
      exact ⟨rfl, rfl⟩
  · rw [show inB x 0 9 = false from decide_eq_false (by omega)]
    go_enter Try.func77, Try.ntmps77
    go_wp2
    go_ret
    exact ⟨rfl, rfl⟩

theorem l13List_c (x : Int) (w : World) : Calls Try.prog 74 #[.int .i64 x] w fun e w' => e = .returned (.bool (inB x 0 9)) ∧ w' = w := by
  have q := fun wx => l1In_c x 0 9 wx
  rw [show decide (0 ≤ x ∧ x ≤ 9) = inB x 0 9 from rfl] at q
  generalize inB x 0 9 = zb at q ⊢
  go_enter Try.func74, Try.ntmps74
  go_wp2_with fail
  refine (q _).mono ?_
  clear q
  rintro e w' ⟨rfl, hw⟩
  subst w'
  go_wp2
  go_ret
  exact ⟨rfl, rfl⟩

theorem members_c (f : Int) (L : Value) (w : World) (h0 : 0 ≤ f) (h2 : f ≤ 2) : Calls Try.prog 81 #[.agg #[.int .i64 f, L]] w fun e w' => e = .returned (.int .i64 (3 * f + 1)) ∧ Below w.heap.size w w' := by
  have HB : Hid (Below w.heap.size w (w.alloc (.cells #[.int .i64 f, L] 89))) := balloc _ _
  go_enter Try.func81, Try.ntmps81
  go_wp2
  go_ret
  exact ⟨ret_int (by omega), HB.out⟩

theorem hasMember_c (f : Int) (L : Value) (x : Int) (w : World) (h0 : 0 ≤ f) (h2 : f ≤ 2) : Calls Try.prog 97 #[.agg #[.int .i64 f, L], .int .i64 x] w fun e w' => e = .returned (.bool (memB f x)) ∧ Below w.heap.size w w' := by
  have hB := balloc w (.cells #[.int .i64 f, L] 89)
  have hC := x2_new w (.int .i64 f) L 89 w.heap.size rfl
  obtain ⟨V, hV⟩ : ∃ V, w.alloc (.cells #[.int .i64 f, L] 89) = V := ⟨_, rfl⟩
  rw [hV] at hB hC
  obtain ⟨⟨g0, g1⟩, _⟩ := hC
  have HB : Hid (Below w.heap.size w V) := hB
  have q := members_c f L V h0 h2
  by_cases hx : 0 ≤ x
  · by_cases hy : x ≤ 3 * f
    · have hz : x < 3 * f + 1 := by omega
      rw [show memB f x = true from decide_eq_true ⟨hx, hy⟩]
      clear hy hB
      generalize 3 * f + 1 = M at q hz
      go_enter Try.func97, Try.ntmps97
      go_wp2_with fail
      clear hV
      refine q.mono ?_
      rintro e w' ⟨rfl, hb⟩
      go_wp2
      go_ret
      exact ⟨rfl, HB.out.trans (hb.mono HB.out.size)⟩
    · have hz : ¬ x < 3 * f + 1 := by omega
      rw [show memB f x = false from decide_eq_false (by omega)]
      clear hy hB
      generalize 3 * f + 1 = M at q hz
      go_enter Try.func97, Try.ntmps97
      go_wp2_with fail
      clear hV
      refine q.mono ?_
      rintro e w' ⟨rfl, hb⟩
      go_wp2
      go_ret
      exact ⟨(by first | rfl | exact ret_bool (decide_eq_false (by omega))), HB.out.trans (hb.mono HB.out.size)⟩
  · rw [show memB f x = false from decide_eq_false (by omega)]
    have hx2 : decide (x ≥ 0) = false := decide_eq_false (by omega)
    clear q hB
    go_enter Try.func97, Try.ntmps97
    go_wp2
    go_ret
    exact ⟨rfl, HB.out⟩

theorem isLiar_c (f : Int) (ao : Option Addr) (n c : Nat) (xs : List Int) (x : Int) (w : World) (hx : xs.length = n) (hn : n ≤ 17592186044416) (hr : Rd w ao xs) (hR : Ris ltI xs) :
    Calls Try.prog 100 #[.agg #[.int .i64 f, .slice ao n c], .int .i64 x] w fun e w' => e = .returned (.bool (decide (x ∈ xs))) ∧ Below w.heap.size w w' := by
  have hB := balloc w (.cells #[.int .i64 f, .slice ao n c] 89)
  have hC := x2_new w (.int .i64 f) (.slice ao n c) 89 w.heap.size rfl
  obtain ⟨V, hV⟩ : ∃ V, w.alloc (.cells #[.int .i64 f, .slice ao n c] 89) = V := ⟨_, rfl⟩
  rw [hV] at hB hC
  obtain ⟨⟨g0, g1⟩, _⟩ := hC
  have q := has_c ao n c xs x V hx hn (hr.later hB) hR
  have HB : Hid (Below w.heap.size w V) := hB
  generalize decide (x ∈ xs) = zb at q ⊢
  clear hB hx hr hR
  go_enter Try.func100, Try.ntmps100
  go_wp2_with fail
  clear hV
  refine q.mono ?_
  rintro e w' ⟨rfl, hb⟩
  go_wp2
  go_ret
  exact ⟨rfl, HB.out.trans (hb.mono HB.out.size)⟩

/-- How many members, how many are a quorum. -/
def quoF (f : Int) : Int × Int := if inB f 0 2 = true then (3 * f + 1, 2 * f + 1) else (0, 0)

theorem specQuo_c (f : Int) (w : World) : Calls Try.prog 31 #[.int .i64 f] w fun e w' => e = .returned (.tuple #[.int .i64 (quoF f).1, .int .i64 (quoF f).2, .bool (inB f 0 2)]) ∧ w' = w := by
  have q := fun wx => l1In_c f 0 2 wx
  rw [show decide (0 ≤ f ∧ f ≤ 2) = inB f 0 2 from rfl] at q
  cases hz : inB f 0 2
  · rw [show quoF f = (0, 0) by simp [quoF, hz]]
    rw [hz] at q
    clear hz
    go_enter Try.func31, Try.ntmps31
    go_wp2_with fail
    refine (q _).mono ?_
    clear q
    rintro e w' ⟨rfl, hw⟩
    subst w'
    go_wp2
    refine bodyPost_ret (v := .tuple #[.int .i64 0, .int .i64 0, .bool false]) (by simp [results, Try.results31, go_sem]; try rfl) rfl ?_
    exact ⟨rfl, rfl⟩
  · rw [show quoF f = (3 * f + 1, 2 * f + 1) by simp [quoF, hz]]
    rw [hz] at q
    have hb := inB_iff.1 hz
    have h0 := hb.1
    have h2 := hb.2
    clear hz hb
    go_enter Try.func31, Try.ntmps31
    go_wp2_with fail
    refine (q _).mono ?_
    clear q
    rintro e w' ⟨rfl, hw⟩
    subst w'
    go_wp2
    refine bodyPost_ret (v := .tuple #[.int .i64 (3 * f + 1), .int .i64 (2 * f + 1), .bool true]) (by simp [results, Try.results31, go_sem]; try rfl) rfl ?_
    exact ⟨rfl, rfl⟩

end Go.Proofs.Ytaokmjbhgkfnfaa
