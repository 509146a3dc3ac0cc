/- Sealed numbers in memory; products of sealed numbers, and the laws on OpenNumber and TimesSealed, walked: true at every argument, nothing turned. -/
import Derived.Test.YtobomcmjilcnaaaPwImpl2
import Derived.Deep.RegionHeld3
import Derived.Deep.DrawnRows
namespace Go.Proofs.Ytobomcmjilcnaaa
set_option linter.unusedVariables false
set_option maxRecDepth 1000000
set_option linter.unusedSimpArgs false
open Go.RowKit
attribute [local go_sem ↓] Go.wp_at_zero Go.wp_at_succ

/-- A block of two numbers that may be written. -/
def C2 (w : World) (g : Nat) (a b : Int) : Prop :=
  w.cell? ⟨g, 0, none⟩ = some (.int .i64 a) ∧ w.cell? ⟨g, 1, none⟩ = some (.int .i64 b) ∧ w.frozen? ⟨g, 0, none⟩ = false ∧ w.frozen? ⟨g, 1, none⟩ = false

theorem C2.lt {w : World} {g : Nat} {a b : Int} (h : C2 w g a b) : g < w.heap.size := World.block_lt_of_cell? w _ h.1

theorem C2.keep {w w' : World} {g : Nat} {a b : Int} (h : C2 w g a b) (hb : Below w.heap.size w w') : C2 w' g a b :=
  ⟨by rw [hb.cell (p := ⟨g, 0, none⟩) h.lt]; exact h.1, by rw [hb.cell (p := ⟨g, 1, none⟩) h.lt]; exact h.2.1,
   by rw [hb.frozen (p := ⟨g, 0, none⟩) h.lt]; exact h.2.2.1, by rw [hb.frozen (p := ⟨g, 1, none⟩) h.lt]; exact h.2.2.2⟩

theorem C2.alloc {w : World} {g : Nat} {a b : Int} (h : C2 w g a b) (o : Obj) : C2 (w.alloc o) g a b := h.keep ((Below.refl _ _).alloc (Nat.le_refl _) o)

theorem c2_new (w : World) (a b : Int) (t : TypeId) (g : Nat) (hg : g = w.heap.size) : C2 (w.alloc (.cells #[.int .i64 a, .int .i64 b] t)) g a b := by
  subst hg
  refine ⟨?_, ?_, ?_, ?_⟩
  · simp
  · simp
  · rw [World.frozen?_alloc_at _ _ _ _ (by simp)]
  · rw [World.frozen?_alloc_at _ _ _ _ (by simp)]

theorem below_one (w : World) (o : Obj) : Below w.heap.size w (w.alloc o) := (Below.refl _ _).alloc (Nat.le_refl _) o
theorem below_two (w : World) (o o' : Obj) : Below w.heap.size w ((w.alloc o).alloc o') := (below_one w o).alloc (by simp) o'
theorem below_three (w : World) (o o' o'' : Obj) : Below w.heap.size w (((w.alloc o).alloc o').alloc o'') := (below_two w o o').alloc (by simp; omega) o''

theorem toSealed_c (x y : Int) (w : World) : Calls Try.prog 30 #[.agg #[.int .i64 x, .int .i64 y]] w fun e w' => e = .returned (.agg #[.int .i64 x, .int .i64 y]) ∧ Below w.heap.size w w' := by
  go_enter Try.func30, Try.ntmps30
  go_wp2
  refine bodyPost_ret (v := .agg #[.int .i64 x, .int .i64 y]) (by simp [results, Try.results30, go_sem]) rfl ⟨rfl, ?_⟩
  exact below_three _ _ _ _

theorem eqSealed_c (x y : Int) (w : World) : Calls Try.prog 28 #[.agg #[.int .i64 x, .int .i64 y], .agg #[.int .i64 x, .int .i64 y]] w fun e w' => e = .returned (.bool true) ∧ Below w.heap.size w w' := by
  go_enter Try.func28, Try.ntmps28
  go_wp2
  go_ret
  exact ⟨rfl, below_two _ _ _⟩

set_option maxHeartbeats 1000000 in
theorem timesBoth_c (x y p q : Int) (w : World) (hx : 0 ≤ x ∧ x < 2999) (hy : 0 ≤ y ∧ y < 2999) (hp : 0 ≤ p ∧ p < 2999) (hq : 0 ≤ q ∧ q < 2999) :
    Calls Try.prog 61 #[.agg #[.int .i64 x, .int .i64 y], .agg #[.int .i64 p, .int .i64 q]] w fun e w' => e = .returned (.agg #[.int .i64 (x * p % 2999), .int .i64 (y * q % 2999)]) ∧ Below w.heap.size w w' := by
  have HA : Hid (∀ wx, Calls Try.prog 44 #[.int .i64 x, .int .i64 p] wx fun e w' => e = .returned (.int .i64 (x * p % 2999)) ∧ w' = wx) := fun wx => timesRests_c x p wx hx.1 hx.2 hp.1 hp.2
  have HB : Hid (∀ wx, Calls Try.prog 44 #[.int .i64 y, .int .i64 q] wx fun e w' => e = .returned (.int .i64 (y * q % 2999)) ∧ w' = wx) := fun wx => timesRests_c y q wx hy.1 hy.2 hq.1 hq.2
  generalize x * p % 2999 = r at *
  generalize y * q % 2999 = s at *
  clear hx hy hp hq
  go_enter Try.func61, Try.ntmps61
  go_wp2
  go_region_held3 (fun w' => w'.cell? ⟨w.heap.size, 0, none⟩ = some (.int .i64 x) ∧ w'.cell? ⟨w.heap.size, 1, none⟩ = some (.int .i64 y) ∧ w'.cell? ⟨w.heap.size + 1, 0, none⟩ = some (.int .i64 p) ∧ w'.cell? ⟨w.heap.size + 1, 1, none⟩ = some (.int .i64 q)) (first | go_keep) (first
    | (go_at_call 44; refine (HA.out _).mono ?_; rintro e w' ⟨rfl, rfl⟩)
    | (go_at_call 44; refine (HB.out _).mono ?_; rintro e w' ⟨rfl, rfl⟩))
  all_goals go_wp2
  all_goals refine bodyPost_ret (v := .agg #[.int .i64 r, .int .i64 s]) (by simp [results, Try.results61, go_sem]) rfl ⟨rfl, ?_⟩
  all_goals exact (below_three _ _ _ _).drew

def timesB (x y p q : Int) : Bool := sealB x y && sealB p q

end Go.Proofs.Ytobomcmjilcnaaa
