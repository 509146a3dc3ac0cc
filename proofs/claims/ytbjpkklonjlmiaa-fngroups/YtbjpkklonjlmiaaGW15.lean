/- Chapter 15: worlds grown by draws and blocks alone; the comparison of steps; the sort's words at steps. -/
import Derived.Test.YtbjpkklonjlmiaaBR15
import Derived.Deep.RegionWith
import Derived.Deep.RegionHeld3
import Derived.Shelf.SlSortCmp.KitK
import Derived.Deep.LoopGhost
namespace Go.Proofs.Ytbjpkklonjlmiaa
set_option linter.unusedVariables false
set_option maxRecDepth 1000000
set_option linter.unusedSimpArgs false
open Go.RowKit Go.Sort

/-- w' is w behind draws and new blocks alone. -/
def GrW (w w' : World) : Prop := ∃ (q : Nat) (os : Array Obj), w' = grow (w.drewN q) os

theorem GrW.refl (w : World) : GrW w w := ⟨0, #[], by rw [grow_empty]; rfl⟩
theorem GrW.drew {w w' : World} (h : GrW w w') : GrW w w'.drew := by
  obtain ⟨q, os, rfl⟩ := h
  exact ⟨q + 1, os, rfl⟩
theorem GrW.alloc {w w' : World} (h : GrW w w') (o : Obj) : GrW w (w'.alloc o) := by
  obtain ⟨q, os, rfl⟩ := h
  exact ⟨q, os ++ #[o], by rw [alloc_eq_grow, grow_grow]⟩
theorem GrW.trans {a b c : World} (h : GrW a b) (k : GrW b c) : GrW a c := by
  obtain ⟨q, os, rfl⟩ := h
  obtain ⟨r, os', rfl⟩ := k
  refine ⟨q + r, os ++ os', ?_⟩
  rw [show (grow (a.drewN q) os).drewN r = grow ((a.drewN q).drewN r) os from rfl, grow_grow]
  congr 1
  show World.drewN (World.drewN a q) r = _
  unfold World.drewN
  simp [Nat.add_assoc]
theorem GrW.below {w w' : World} (h : GrW w w') : Below w.heap.size w w' := by
  obtain ⟨q, os, rfl⟩ := h
  refine ⟨rfl, rfl, rfl, by simp [grow, World.drewN], fun k hk => ?_⟩
  rw [heap_grow_old _ _ (by simpa using hk)]
  rfl

theorem isNaNI_c (x : Int) (w : World) : Calls Try.prog 76 #[.int .i64 x] w fun e w' => e = .returned (.bool false) ∧ w' = w := by
  have hx : (x != x) = false := by simp
  go_enter Try.func76, Try.ntmps76
  go_wp2
  go_ret
  exact ⟨rfl, rfl⟩

theorem cmpInt_c (x y : Int) (w : World) : Calls Try.prog 67 #[.int .i64 x, .int .i64 y] w fun e w' => e = .returned (.int .i64 (Lib.compareInt x y)) ∧ w' = w := by
  have q1 := isNaNI_c x w
  have q2 := isNaNI_c y w
  by_cases h : x < y
  · rw [show Lib.compareInt x y = -1 by unfold Lib.compareInt; rw [if_pos h]]
    go_enter Try.func67, Try.ntmps67
    go_wp2_with fail
    refine q1.mono ?_
    rintro e w' ⟨rfl, hw⟩
    subst w'
    go_wp2_with fail
    refine q2.mono ?_
    rintro e w' ⟨rfl, hw⟩
    subst w'
    go_wp2
    go_ret
    exact ⟨rfl, rfl⟩
  · by_cases h2 : x > y
    · rw [show Lib.compareInt x y = 1 by unfold Lib.compareInt; rw [if_neg h, if_pos h2]]
      go_enter Try.func67, Try.ntmps67
      go_wp2_with fail
      refine q1.mono ?_
      rintro e w' ⟨rfl, hw⟩
      subst w'
      go_wp2_with fail
      refine q2.mono ?_
      rintro e w' ⟨rfl, hw⟩
      subst w'
      go_wp2
      go_ret
      exact ⟨rfl, rfl⟩
    · rw [show Lib.compareInt x y = 0 by unfold Lib.compareInt; rw [if_neg h, if_neg h2]]
      go_enter Try.func67, Try.ntmps67
      go_wp2_with fail
      refine q1.mono ?_
      rintro e w' ⟨rfl, hw⟩
      subst w'
      go_wp2_with fail
      refine q2.mono ?_
      rintro e w' ⟨rfl, hw⟩
      subst w'
      go_wp2
      go_ret
      exact ⟨rfl, rfl⟩

/-- The comparison of steps: by where they lead. -/
def cmpQ (x y : Int × Int × Int) : Int := Lib.compareInt x.2.1 y.2.1

theorem stepCmp_c (x y : Int × Int × Int) (w : World) :
    Calls Try.prog 66 #[.agg #[.int .i64 x.1, .int .i64 x.2.1, .int .i64 x.2.2], .agg #[.int .i64 y.1, .int .i64 y.2.1, .int .i64 y.2.2]] w fun e w' => e = .returned (.int .i64 (cmpQ x y)) ∧ GrW w w' := by
  obtain ⟨x0, x1, x2⟩ := x
  obtain ⟨y0, y1, y2⟩ := y
  obtain ⟨r, hr⟩ : ∃ r, Lib.compareInt x1 y1 = r := ⟨_, rfl⟩
  show Calls Try.prog 66 #[.agg #[.int .i64 x0, .int .i64 x1, .int .i64 x2], .agg #[.int .i64 y0, .int .i64 y1, .int .i64 y2]] w fun e w' => e = .returned (.int .i64 (Lib.compareInt x1 y1)) ∧ GrW w w'
  have q := fun wx => cmpInt_c x1 y1 wx
  rw [hr] at q ⊢
  clear hr
  have hG : GrW w ((w.alloc (.cells #[.int .i64 x0, .int .i64 x1, .int .i64 x2] 78)).alloc (.cells #[.int .i64 y0, .int .i64 y1, .int .i64 y2] 78)) := ((GrW.refl w).alloc _).alloc _
  have hA := (x3_new w (.int .i64 x0) (.int .i64 x1) (.int .i64 x2) 78 w.heap.size rfl).later (balloc _ (.cells #[.int .i64 y0, .int .i64 y1, .int .i64 y2] 78))
  have hB := x3_new (w.alloc (.cells #[.int .i64 x0, .int .i64 x1, .int .i64 x2] 78)) (.int .i64 y0) (.int .i64 y1) (.int .i64 y2) 78 (w.heap.size + 1) (by simp)
  obtain ⟨V, hV⟩ : ∃ V, (w.alloc (.cells #[.int .i64 x0, .int .i64 x1, .int .i64 x2] 78)).alloc (.cells #[.int .i64 y0, .int .i64 y1, .int .i64 y2] 78) = V := ⟨_, rfl⟩
  rw [hV] at hG hA hB
  have HG : Hid (GrW w V) := hG
  obtain ⟨⟨f0, f1, f2⟩, _⟩ := hA
  obtain ⟨⟨f3, f4, f5⟩, _⟩ := hB
  clear hG
  go_enter Try.func66, Try.ntmps66
  go_wp2_with fail
  refine (q _).mono ?_
  clear q
  rintro e w1 ⟨rfl, hw⟩
  subst w1
  go_wp2
  go_ret
  exact ⟨rfl, HG.out⟩

theorem cmpLaysQ (blk off size : Nat) (w : World) : CmpLays Try.prog 66 #[] enc3 3 cmpQ blk off size w := fun m os dk _ x y => by
  exact stepCmp_c x y _

end Go.Proofs.Ytbjpkklonjlmiaa
