/- Chapter 14: worlds grown by draws and blocks alone; the comparisons of claims and of tallies. -/
import Derived.Test.YtleddlfojogdiaaBR14
import Derived.Test.YtleddlfojogdiaaA14
import Derived.Deep.RegionWith
import Derived.Deep.RegionHeld3
import Derived.Shelf.SlSortCmp.InsertionK
namespace Go.Proofs.Ytleddlfojogdiaa
set_option linter.unusedVariables false
set_option maxRecDepth 1000000
set_option linter.unusedSimpArgs false
open Go.RowKit Go.Sort

/-- w' is w behind draws and new blocks alone. -/
def GrW (w w' : World) : Prop := ∃ (q : Nat) (os : Array Obj), w' = grow (w.drewN q) os

theorem GrW.refl (w : World) : GrW w w := ⟨0, #[], by rw [grow_empty]; rfl⟩
theorem GrW.drew {w w' : World} (h : GrW w w') : GrW w w'.drew := by
  obtain ⟨q, os, rfl⟩ := h
  exact ⟨q + 1, os, rfl⟩
theorem GrW.alloc {w w' : World} (h : GrW w w') (o : Obj) : GrW w (w'.alloc o) := by
  obtain ⟨q, os, rfl⟩ := h
  exact ⟨q, os ++ #[o], by rw [alloc_eq_grow, grow_grow]⟩
theorem GrW.trans {a b c : World} (h : GrW a b) (k : GrW b c) : GrW a c := by
  obtain ⟨q, os, rfl⟩ := h
  obtain ⟨r, os', rfl⟩ := k
  refine ⟨q + r, os ++ os', ?_⟩
  rw [show (grow (a.drewN q) os).drewN r = grow ((a.drewN q).drewN r) os from rfl, grow_grow]
  congr 1
  show World.drewN (World.drewN a q) r = _
  unfold World.drewN
  simp [Nat.add_assoc]
theorem GrW.below {w w' : World} (h : GrW w w') : Below w.heap.size w w' := by
  obtain ⟨q, os, rfl⟩ := h
  refine ⟨rfl, rfl, rfl, by simp [grow, World.drewN], fun k hk => ?_⟩
  rw [heap_grow_old _ _ (by simpa using hk)]
  rfl

theorem isNaNI_c (x : Int) (w : World) : Calls Try.prog 108 #[.int .i64 x] w fun e w' => e = .returned (.bool false) ∧ w' = w := by
  have hx : (x != x) = false := by simp
  go_enter Try.func108, Try.ntmps108
  go_wp2
  go_ret
  exact ⟨rfl, rfl⟩

theorem cmpInt_c (x y : Int) (w : World) : Calls Try.prog 68 #[.int .i64 x, .int .i64 y] w fun e w' => e = .returned (.int .i64 (Lib.compareInt x y)) ∧ w' = w := by
  have q1 := isNaNI_c x w
  have q2 := isNaNI_c y w
  by_cases h : x < y
  · rw [show Lib.compareInt x y = -1 by unfold Lib.compareInt; rw [if_pos h]]
    go_enter Try.func68, Try.ntmps68
    go_wp2_with fail
    refine q1.mono ?_
    rintro e w' ⟨rfl, hw⟩
    subst w'
    go_wp2_with fail
    refine q2.mono ?_
    rintro e w' ⟨rfl, hw⟩
    subst w'
    go_wp2
    go_ret
    exact ⟨rfl, rfl⟩
  · by_cases h2 : x > y
    · rw [show Lib.compareInt x y = 1 by unfold Lib.compareInt; rw [if_neg h, if_pos h2]]
      go_enter Try.func68, Try.ntmps68
      go_wp2_with fail
      refine q1.mono ?_
      rintro e w' ⟨rfl, hw⟩
      subst w'
      go_wp2_with fail
      refine q2.mono ?_
      rintro e w' ⟨rfl, hw⟩
      subst w'
      go_wp2
      go_ret
      exact ⟨rfl, rfl⟩
    · rw [show Lib.compareInt x y = 0 by unfold Lib.compareInt; rw [if_neg h, if_neg h2]]
      go_enter Try.func68, Try.ntmps68
      go_wp2_with fail
      refine q1.mono ?_
      rintro e w' ⟨rfl, hw⟩
      subst w'
      go_wp2_with fail
      refine q2.mono ?_
      rintro e w' ⟨rfl, hw⟩
      subst w'
      go_wp2
      go_ret
      exact ⟨rfl, rfl⟩

theorem scoreOfTally_x (a b c : Int) (w : World) (h1 : 0 ≤ b) (h2 : b ≤ 100) (h3 : 0 ≤ c) (h4 : c ≤ 100) : Calls Try.prog 69 #[.agg #[.int .i64 a, .int .i64 b, .int .i64 c]] w fun e w' => e = .returned (.int .i64 (scoreT (a, b, c))) ∧ GrW w w' := by
  obtain ⟨s, hs⟩ : ∃ s, scoreT (a, b, c) = s := ⟨_, rfl⟩
  have hd : Int.tdiv (100 * (b + 1)) (b + c + 2) = s := hs
  have hb : 0 ≤ s ∧ s ≤ 10100 := by
    rw [← hd, Int.tdiv_eq_ediv_of_nonneg (by omega)]
    constructor
    · exact Int.ediv_nonneg (by omega) (by omega)
    · exact Int.le_trans (Int.ediv_le_self _ (by omega)) (by omega)
  have hn : b + c + 2 ≠ 0 := by omega
  rw [hs]
  clear hs
  go_enter Try.func69, Try.ntmps69
  go_wp2
  go_ret
  exact ⟨rfl, (GrW.refl w).alloc _⟩

set_option maxHeartbeats 8000000 in
/-- The program's comparison of tallies: by scores, the greater ahead. -/
theorem rankCmp_c (x0 x1 x2 y0 y1 y2 : Int) (w : World) (hx1 : 0 ≤ x1) (hx2 : x1 ≤ 100) (hx3 : 0 ≤ x2) (hx4 : x2 ≤ 100) (hy1 : 0 ≤ y1) (hy2 : y1 ≤ 100) (hy3 : 0 ≤ y2) (hy4 : y2 ≤ 100) :
    Calls Try.prog 67 #[.agg #[.int .i64 x0, .int .i64 x1, .int .i64 x2], .agg #[.int .i64 y0, .int .i64 y1, .int .i64 y2]] w fun e w' => e = .returned (.int .i64 (Lib.compareInt (scoreT (y0, y1, y2)) (scoreT (x0, x1, x2)))) ∧ GrW w w' := by
  have HQX : Hid (∀ wx, Calls Try.prog 69 #[.agg #[.int .i64 x0, .int .i64 x1, .int .i64 x2]] wx fun e w' => e = .returned (.int .i64 (scoreT (x0, x1, x2))) ∧ GrW wx w') := fun wx => scoreOfTally_x x0 x1 x2 wx hx1 hx2 hx3 hx4
  have HQY : Hid (∀ wx, Calls Try.prog 69 #[.agg #[.int .i64 y0, .int .i64 y1, .int .i64 y2]] wx fun e w' => e = .returned (.int .i64 (scoreT (y0, y1, y2))) ∧ GrW wx w') := fun wx => scoreOfTally_x y0 y1 y2 wx hy1 hy2 hy3 hy4
  generalize scoreT (x0, x1, x2) = sx at HQX ⊢
  generalize scoreT (y0, y1, y2) = sy at HQY ⊢
  have HQC : Hid (∀ wx, Calls Try.prog 68 #[.int .i64 sy, .int .i64 sx] wx fun e w' => e = .returned (.int .i64 (Lib.compareInt sy sx)) ∧ w' = wx) := fun wx => cmpInt_c sy sx wx
  generalize Lib.compareInt sy sx = r at HQC ⊢
  clear hx1 hx2 hx3 hx4 hy1 hy2 hy3 hy4
  have hG : GrW w ((w.alloc (.cells #[.int .i64 x0, .int .i64 x1, .int .i64 x2] 38)).alloc (.cells #[.int .i64 y0, .int .i64 y1, .int .i64 y2] 38)) := ((GrW.refl w).alloc _).alloc _
  have hA := (x3_new w (.int .i64 x0) (.int .i64 x1) (.int .i64 x2) 38 w.heap.size rfl).later (balloc _ (.cells #[.int .i64 y0, .int .i64 y1, .int .i64 y2] 38))
  have hB := x3_new (w.alloc (.cells #[.int .i64 x0, .int .i64 x1, .int .i64 x2] 38)) (.int .i64 y0) (.int .i64 y1) (.int .i64 y2) 38 (w.heap.size + 1) (by simp)
  obtain ⟨V, hV⟩ : ∃ V, (w.alloc (.cells #[.int .i64 x0, .int .i64 x1, .int .i64 x2] 38)).alloc (.cells #[.int .i64 y0, .int .i64 y1, .int .i64 y2] 38) = V := ⟨_, rfl⟩
  rw [hV] at hG hA hB
  have HG : Hid (GrW w V) := hG
  obtain ⟨⟨f0, f1, f2⟩, _⟩ := hA
  obtain ⟨⟨f3, f4, f5⟩, _⟩ := hB
  clear hG
  go_enter Try.func67, Try.ntmps67
  go_wp2_with fail
  have HGd : Hid (GrW w V.drew) := HG.out.drew
  have tok1 : True := trivial
  go_region_held3 (fun w' => w'.cell? ⟨w.heap.size, 0, none⟩ = some (.int .i64 x0) ∧ w'.cell? ⟨w.heap.size, 1, none⟩ = some (.int .i64 x1) ∧ w'.cell? ⟨w.heap.size, 2, none⟩ = some (.int .i64 x2) ∧ w'.cell? ⟨w.heap.size + 1, 0, none⟩ = some (.int .i64 y0) ∧ w'.cell? ⟨w.heap.size + 1, 1, none⟩ = some (.int .i64 y1) ∧ w'.cell? ⟨w.heap.size + 1, 2, none⟩ = some (.int .i64 y2)) (first | go_keep) (first
    | (go_at_call 69; clear tok1; refine (HQY.out _).mono ?_; rintro e w1 ⟨rfl, hb⟩; have HG1 : Hid (GrW w w1) := HGd.out.trans hb; have hb1 := hb.below; have ka0 := cell_keep (S := 0) (w1 := V.drew) hb1 f0; have ka1 := cell_keep (S := 0) (w1 := V.drew) hb1 f1; have ka2 := cell_keep (S := 0) (w1 := V.drew) hb1 f2; have ka3 := cell_keep (S := 0) (w1 := V.drew) hb1 f3; have ka4 := cell_keep (S := 0) (w1 := V.drew) hb1 f4; have ka5 := cell_keep (S := 0) (w1 := V.drew) hb1 f5; clear hb hb1)
    | (go_at_call 69; refine (HQX.out _).mono ?_; rintro e w2 ⟨rfl, hb⟩; have HG2 : Hid (GrW w w2) := HG1.out.trans hb; have hb1 := hb.below; have kb0 := cell_keep (S := 0) (w1 := w1) hb1 ka0; have kb1 := cell_keep (S := 0) (w1 := w1) hb1 ka1; have kb2 := cell_keep (S := 0) (w1 := w1) hb1 ka2; have kb3 := cell_keep (S := 0) (w1 := w1) hb1 ka3; have kb4 := cell_keep (S := 0) (w1 := w1) hb1 ka4; have kb5 := cell_keep (S := 0) (w1 := w1) hb1 ka5; clear hb hb1)
    | (go_at_call 68; refine (HQC.out _).mono ?_; rintro e w' ⟨rfl, hw⟩; subst w'))
  all_goals (
    go_wp2
    go_ret
    exact ⟨rfl, HG2.out⟩)

end Go.Proofs.Ytleddlfojogdiaa
