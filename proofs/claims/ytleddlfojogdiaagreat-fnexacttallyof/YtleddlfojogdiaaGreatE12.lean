/- Chapter 12: the laws' own functions over statements. -/
import Derived.Test.YtleddlfojogdiaaGreatC12
namespace Go.Proofs.YtleddlfojogdiaaGreat
set_option linter.unusedVariables false
set_option maxRecDepth 1000000
set_option linter.unusedSimpArgs false
open Go.RowKit

theorem toClaim_c (x0 x1 x2 : Int) (w : World) : Calls Tryz.prog 52 #[.agg #[.int .i64 x0, .int .i64 x1, .int .i64 x2]] w fun e w' => e = .returned (.agg #[.int .i64 x0, .int .i64 x1, .int .i64 x2]) ∧ Below w.heap.size w w' := by
  go_enter Tryz.func52, Tryz.ntmps52
  go_wp2
  refine bodyPost_ret (v := .agg #[.int .i64 x0, .int .i64 x1, .int .i64 x2]) (by simp [results, Tryz.results52, go_sem, ]; try rfl) rfl ?_
  exact ⟨rfl, (((Below.refl _ w).alloc (Nat.le_refl _) _).alloc (by simp) _).alloc (by simp; omega) _⟩

set_option maxHeartbeats 4000000 in
theorem eqStatement_c (x0 y0 x1 y1 x2 y2 x3 y3 : Int) (x4 y4 : Bool) (w : World) : Calls Tryz.prog 56 #[.agg #[.int .i64 x0, .int .i64 x1, .int .i64 x2, .int .i64 x3, .bool x4], .agg #[.int .i64 y0, .int .i64 y1, .int .i64 y2, .int .i64 y3, .bool y4]] w fun e w' => e = .returned (.bool (decide ((x0, x1, x2, x3, x4) = (y0, y1, y2, y3, y4)))) ∧ Below w.heap.size w w' := by
  have hq := fun wx => eqClaim_c x1 y1 x2 y2 x3 y3 wx
  obtain ⟨cq, hcq⟩ : ∃ cq, decide ((x1, x2, x3) = (y1, y2, y3)) = cq := ⟨_, rfl⟩
  rw [hcq] at hq
  have hfin : decide ((x0, x1, x2, x3, x4) = (y0, y1, y2, y3, y4)) = (decide (x0 = y0) && (cq && decide (x4 = y4))) := by rw [← hcq]; simp [Prod.mk.injEq, and_assoc, Bool.and_assoc]
  rw [hfin]
  clear hfin hcq
  by_cases h0 : x0 = y0
  case neg =>
    have e0 : (x0 != y0) = true := by simpa using h0
    rw [decide_eq_false h0, Bool.false_and]
    go_enter Tryz.func56, Tryz.ntmps56
    go_wp2
    go_ret
    exact ⟨rfl, ((Below.refl _ w).alloc (Nat.le_refl _) _).alloc (by simp) _⟩
  subst h0
  have e0 : (x0 != x0) = false := by simp
  rw [decide_eq_true rfl, Bool.true_and]
  go_enter Tryz.func56, Tryz.ntmps56
  have HB_0 : Hid (Below w.heap.size w w) := Below.refl _ _
  have hHB := HB_0.out.alloc HB_0.out.size (.cells #[.int .i64 x0, .int .i64 x1, .int .i64 x2, .int .i64 x3, .bool x4] 34)
  have hA := x5_new w (.int .i64 x0) (.int .i64 x1) (.int .i64 x2) (.int .i64 x3) (.bool x4) 34 w.heap.size rfl
  have hz : (w.alloc (.cells #[.int .i64 x0, .int .i64 x1, .int .i64 x2, .int .i64 x3, .bool x4] 34)).heap.size = w.heap.size + 1 := by simp
  obtain ⟨w1, hV1⟩ : ∃ V, w.alloc (.cells #[.int .i64 x0, .int .i64 x1, .int .i64 x2, .int .i64 x3, .bool x4] 34) = V := ⟨_, rfl⟩
  rw [hV1] at hHB hA hz
  have HB_1 : Hid (Below w.heap.size w w1) := hHB
  have A_1 : Hid (X5 w1 w.heap.size (.int .i64 x0) (.int .i64 x1) (.int .i64 x2) (.int .i64 x3) (.bool x4)) := hA
  have z1 : w.heap.size + 1 ≤ w1.heap.size := by omega
  clear HB_0 hHB hA hz
  have hHB := HB_1.out.alloc HB_1.out.size (.cells #[.int .i64 x0, .int .i64 y1, .int .i64 y2, .int .i64 y3, .bool y4] 34)
  have hA := A_1.out.later (balloc w1 (.cells #[.int .i64 x0, .int .i64 y1, .int .i64 y2, .int .i64 y3, .bool y4] 34))
  have hB := x5_new w1 (.int .i64 x0) (.int .i64 y1) (.int .i64 y2) (.int .i64 y3) (.bool y4) 34 w1.heap.size rfl
  have hz : (w1.alloc (.cells #[.int .i64 x0, .int .i64 y1, .int .i64 y2, .int .i64 y3, .bool y4] 34)).heap.size = w1.heap.size + 1 := by simp
  obtain ⟨w2, hV2⟩ : ∃ V, w1.alloc (.cells #[.int .i64 x0, .int .i64 y1, .int .i64 y2, .int .i64 y3, .bool y4] 34) = V := ⟨_, rfl⟩
  rw [hV2] at hHB hA hB hz
  have HB_2 : Hid (Below w.heap.size w w2) := hHB
  have A_2 : Hid (X5 w2 w.heap.size (.int .i64 x0) (.int .i64 x1) (.int .i64 x2) (.int .i64 x3) (.bool x4)) := hA
  have B_2 : Hid (X5 w2 w1.heap.size (.int .i64 x0) (.int .i64 y1) (.int .i64 y2) (.int .i64 y3) (.bool y4)) := hB
  have z2 : w1.heap.size + 1 ≤ w2.heap.size := by omega
  clear HB_1 A_1 hHB hA hB hz
  obtain ⟨⟨Aq0, Aq1, Aq2, Aq3, Aq4⟩, Af⟩ := id (A_2.out)
  clear Af
  obtain ⟨⟨Bq0, Bq1, Bq2, Bq3, Bq4⟩, Bf⟩ := id (B_2.out)
  clear Bf
  go_wp2_with fail
  clear hV1 hV2
  refine (hq _).mono ?_
  clear Aq0 Aq1 Aq2 Aq3 Aq4
  clear Bq0 Bq1 Bq2 Bq3 Bq4
  rintro e w3 ⟨rfl, hb⟩
  have hB : Below w2.heap.size w2 w3 := hb
  have HB_3 : Hid (Below w.heap.size w w3) := HB_2.out.trans (hB.mono HB_2.out.size)
  have A_3 : Hid (X5 w3 w.heap.size (.int .i64 x0) (.int .i64 x1) (.int .i64 x2) (.int .i64 x3) (.bool x4)) := A_2.out.later hB
  have B_3 : Hid (X5 w3 w1.heap.size (.int .i64 x0) (.int .i64 y1) (.int .i64 y2) (.int .i64 y3) (.bool y4)) := B_2.out.later hB
  have z3 : w2.heap.size ≤ w3.heap.size := hB.size
  clear hb hB HB_2 A_2 B_2 
  cases cq
  · go_wp2
    go_ret
    exact ⟨rfl, HB_3.out⟩
  obtain ⟨⟨Aq0, Aq1, Aq2, Aq3, Aq4⟩, Af⟩ := id (A_3.out)
  clear Af
  obtain ⟨⟨Bq0, Bq1, Bq2, Bq3, Bq4⟩, Bf⟩ := id (B_3.out)
  clear Bf
  cases x4 <;> cases y4 <;> (go_wp2; go_ret; exact ⟨by simp, HB_3.out⟩)

set_option maxHeartbeats 4000000 in
theorem toStatement_c (x0 x1 x2 x3 : Int) (x4 : Bool) (w : World) : Calls Tryz.prog 53 #[.agg #[.int .i64 x0, .int .i64 x1, .int .i64 x2, .int .i64 x3, .bool x4]] w fun e w' => e = .returned (.agg #[.int .i64 x0, .int .i64 x1, .int .i64 x2, .int .i64 x3, .bool x4]) ∧ Below w.heap.size w w' := by
  have hq := fun wx => toClaim_c x1 x2 x3 wx
  go_enter Tryz.func53, Tryz.ntmps53
  go_wp2_with fail
  refine (hq _).mono ?_
  rintro e w1 ⟨rfl, hb⟩
  have hA := ((x5_new w (.int .i64 x0) (.int .i64 x1) (.int .i64 x2) (.int .i64 x3) (.bool x4) 91 w.heap.size rfl).later (balloc _ (.cells #[.int .i64 0, .int .i64 0, .int .i64 0, .int .i64 0, .bool false] 34))).later (balloc _ (.cells #[.int .i64 x0, .int .i64 0, .int .i64 0, .int .i64 0, .bool false] 34))
  have hA1 := hA.later hb
  have hZ := (x5_new (w.alloc (.cells #[.int .i64 x0, .int .i64 x1, .int .i64 x2, .int .i64 x3, .bool x4] 91)) (.int .i64 0) (.int .i64 0) (.int .i64 0) (.int .i64 0) (.bool false) 34 (w.heap.size + 1) (by simp)).later (balloc _ (.cells #[.int .i64 x0, .int .i64 0, .int .i64 0, .int .i64 0, .bool false] 34))
  have hZ1 := hZ.later hb
  have hO := x5_new ((w.alloc (.cells #[.int .i64 x0, .int .i64 x1, .int .i64 x2, .int .i64 x3, .bool x4] 91)).alloc (.cells #[.int .i64 0, .int .i64 0, .int .i64 0, .int .i64 0, .bool false] 34)) (.int .i64 x0) (.int .i64 0) (.int .i64 0) (.int .i64 0) (.bool false) 34 (w.heap.size + 1 + 1) (by simp)
  have hO1 := hO.later hb
  have hB : Below w.heap.size w w1 := ((((Below.refl _ w).alloc (Nat.le_refl _) _).alloc (by simp) _).alloc (by simp; omega) _).trans (hb.mono (by simp; omega))
  clear hA hZ hO hb hq
  obtain ⟨⟨a0, a1, a2, a3, a4⟩, af⟩ := hA1
  have HZ : Hid (X5 w1 (w.heap.size + 1) (.int .i64 0) (.int .i64 0) (.int .i64 0) (.int .i64 0) (.bool false)) := hZ1
  obtain ⟨⟨z0, z1, z2, z3, z4⟩, zf⟩ := hZ1
  obtain ⟨⟨o0, o1, o2, o3, o4⟩, of⟩ := hO1
  have of1 := of 1
  have of2 := of 2
  have of3 := of 3
  have of4 := of 4
  have zf0 := zf 0
  have zf1 := zf 1
  have zf2 := zf 2
  have zf3 := zf 3
  have zf4 := zf 4
  clear af zf of
  have HB : Hid (Below w.heap.size w w1) := hB
  clear hB
  have hF := (((((((((HZ.out.other (r' := w.heap.size + 1 + 1) (j' := 1) (u := .int .i64 x1) (by omega)).other (r' := w.heap.size + 1 + 1) (j' := 2) (u := .int .i64 x2) (by omega)).other (r' := w.heap.size + 1 + 1) (j' := 3) (u := .int .i64 x3) (by omega)).other (r' := w.heap.size + 1 + 1) (j' := 4) (u := .bool x4) (by omega)).set0 (.int .i64 x0)).set1 (.int .i64 x1)).set2 (.int .i64 x2)).set3 (.int .i64 x3)).set4 (.bool x4))
  have hB2 : Below w.heap.size w (((((((((w1.setCell ⟨w.heap.size + 1 + 1, 1, none⟩ (.int .i64 x1)).setCell ⟨w.heap.size + 1 + 1, 2, none⟩ (.int .i64 x2)).setCell ⟨w.heap.size + 1 + 1, 3, none⟩ (.int .i64 x3)).setCell ⟨w.heap.size + 1 + 1, 4, none⟩ (.bool x4)).setCell ⟨w.heap.size + 1, 0, none⟩ (.int .i64 x0)).setCell ⟨w.heap.size + 1, 1, none⟩ (.int .i64 x1)).setCell ⟨w.heap.size + 1, 2, none⟩ (.int .i64 x2)).setCell ⟨w.heap.size + 1, 3, none⟩ (.int .i64 x3)).setCell ⟨w.heap.size + 1, 4, none⟩ (.bool x4)) := (((((((((HB.out.setCell (by show w.heap.size ≤ w.heap.size + 1 + 1; omega) (.int .i64 x1)).setCell (by show w.heap.size ≤ w.heap.size + 1 + 1; omega) (.int .i64 x2)).setCell (by show w.heap.size ≤ w.heap.size + 1 + 1; omega) (.int .i64 x3)).setCell (by show w.heap.size ≤ w.heap.size + 1 + 1; omega) (.bool x4)).setCell (by show w.heap.size ≤ w.heap.size + 1; omega) (.int .i64 x0)).setCell (by show w.heap.size ≤ w.heap.size + 1; omega) (.int .i64 x1)).setCell (by show w.heap.size ≤ w.heap.size + 1; omega) (.int .i64 x2)).setCell (by show w.heap.size ≤ w.heap.size + 1; omega) (.int .i64 x3)).setCell (by show w.heap.size ≤ w.heap.size + 1; omega) (.bool x4))
  go_wp2
  obtain ⟨V, hV⟩ : ∃ V, (((((((((w1.setCell ⟨w.heap.size + 1 + 1, 1, none⟩ (.int .i64 x1)).setCell ⟨w.heap.size + 1 + 1, 2, none⟩ (.int .i64 x2)).setCell ⟨w.heap.size + 1 + 1, 3, none⟩ (.int .i64 x3)).setCell ⟨w.heap.size + 1 + 1, 4, none⟩ (.bool x4)).setCell ⟨w.heap.size + 1, 0, none⟩ (.int .i64 x0)).setCell ⟨w.heap.size + 1, 1, none⟩ (.int .i64 x1)).setCell ⟨w.heap.size + 1, 2, none⟩ (.int .i64 x2)).setCell ⟨w.heap.size + 1, 3, none⟩ (.int .i64 x3)).setCell ⟨w.heap.size + 1, 4, none⟩ (.bool x4)) = V := ⟨_, rfl⟩
  rw [hV] at hF hB2 ⊢
  clear hV a0 a1 a2 a3 a4 z0 z1 z2 z3 z4 o0 o1 o2 o3 o4 of1 of2 of3 of4 zf0 zf1 zf2 zf3 zf4
  obtain ⟨⟨c0, c1, c2, c3, c4⟩, _⟩ := hF
  refine bodyPost_ret (v := .agg #[.int .i64 x0, .int .i64 x1, .int .i64 x2, .int .i64 x3, .bool x4]) (by simp [results, Tryz.results53, go_sem, c0, c1, c2, c3, c4]; try rfl) rfl ?_
  exact ⟨rfl, hB2⟩

end Go.Proofs.YtleddlfojogdiaaGreat
