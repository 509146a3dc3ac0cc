/- Chapter 14: worlds grown by draws and blocks alone; the comparisons of claims and of tallies. -/
import Derived.Test.YtleddlfojogdiaaGreatBR14
import Derived.Test.YtleddlfojogdiaaGreatA14
import Derived.Deep.RegionWith
import Derived.Deep.RegionHeld3
import Derived.Shelf.SlSortCmp.InsertionK
namespace Go.Proofs.YtleddlfojogdiaaGreat
set_option linter.unusedVariables false
set_option maxRecDepth 1000000
set_option linter.unusedSimpArgs false
open Go.RowKit Go.Sort

/-- w' is w behind draws and new blocks alone. -/
def GrW (w w' : World) : Prop := ∃ (q : Nat) (os : Array Obj), w' = grow (w.drewN q) os

theorem GrW.refl (w : World) : GrW w w := ⟨0, #[], by rw [grow_empty]; rfl⟩
theorem GrW.drew {w w' : World} (h : GrW w w') : GrW w w'.drew := by
  obtain ⟨q, os, rfl⟩ := h
  exact ⟨q + 1, os, rfl⟩
theorem GrW.alloc {w w' : World} (h : GrW w w') (o : Obj) : GrW w (w'.alloc o) := by
  obtain ⟨q, os, rfl⟩ := h
  exact ⟨q, os ++ #[o], by rw [alloc_eq_grow, grow_grow]⟩
theorem GrW.trans {a b c : World} (h : GrW a b) (k : GrW b c) : GrW a c := by
  obtain ⟨q, os, rfl⟩ := h
  obtain ⟨r, os', rfl⟩ := k
  refine ⟨q + r, os ++ os', ?_⟩
  rw [show (grow (a.drewN q) os).drewN r = grow ((a.drewN q).drewN r) os from rfl, grow_grow]
  congr 1
  show World.drewN (World.drewN a q) r = _
  unfold World.drewN
  simp [Nat.add_assoc]
theorem GrW.below {w w' : World} (h : GrW w w') : Below w.heap.size w w' := by
  obtain ⟨q, os, rfl⟩ := h
  refine ⟨rfl, rfl, rfl, by simp [grow, World.drewN], fun k hk => ?_⟩
  rw [heap_grow_old _ _ (by simpa using hk)]
  rfl

theorem isNaNI_c (x : Int) (w : World) : Calls Tryz.prog 103 #[.int .i64 x] w fun e w' => e = .returned (.bool false) ∧ w' = w := by
  have hx : (x != x) = false := by simp
  go_enter Tryz.func103, Tryz.ntmps103
  go_wp2
  go_ret
  exact ⟨rfl, rfl⟩

theorem cmpInt_c (x y : Int) (w : World) : Calls Tryz.prog 88 #[.int .i64 x, .int .i64 y] w fun e w' => e = .returned (.int .i64 (Lib.compareInt x y)) ∧ w' = w := by
  have q1 := isNaNI_c x w
  have q2 := isNaNI_c y w
  by_cases h : x < y
  · rw [show Lib.compareInt x y = -1 by unfold Lib.compareInt; rw [if_pos h]]
    go_enter Tryz.func88, Tryz.ntmps88
    go_wp2_with fail
    refine q1.mono ?_
    rintro e w' ⟨rfl, hw⟩
    subst w'
    go_wp2_with fail
    refine q2.mono ?_
    rintro e w' ⟨rfl, hw⟩
    subst w'
    go_wp2
    go_ret
    exact ⟨rfl, rfl⟩
  · by_cases h2 : x > y
    · rw [show Lib.compareInt x y = 1 by unfold Lib.compareInt; rw [if_neg h, if_pos h2]]
      go_enter Tryz.func88, Tryz.ntmps88
      go_wp2_with fail
      refine q1.mono ?_
      rintro e w' ⟨rfl, hw⟩
      subst w'
      go_wp2_with fail
      refine q2.mono ?_
      rintro e w' ⟨rfl, hw⟩
      subst w'
      go_wp2
      go_ret
      exact ⟨rfl, rfl⟩
    · rw [show Lib.compareInt x y = 0 by unfold Lib.compareInt; rw [if_neg h, if_neg h2]]
      go_enter Tryz.func88, Tryz.ntmps88
      go_wp2_with fail
      refine q1.mono ?_
      rintro e w' ⟨rfl, hw⟩
      subst w'
      go_wp2_with fail
      refine q2.mono ?_
      rintro e w' ⟨rfl, hw⟩
      subst w'
      go_wp2
      go_ret
      exact ⟨rfl, rfl⟩

end Go.Proofs.YtleddlfojogdiaaGreat
