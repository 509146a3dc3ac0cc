/- Contracts of chapter 2, the specification's side: inverses, shared secrets, opening. -/
import Derived.Test.YtobomcmjilcnaaaPwSpec
namespace Go.Proofs.Ytobomcmjilcnaaa
set_option linter.unusedVariables false
set_option maxRecDepth 1000000
set_option linter.unusedSimpArgs false
open Go.RowKit

/-- A number that has an inverse. -/
def unitB (a : Int) : Bool := decide (1 ≤ a ∧ a ≤ 2998)
def shareB (s p : Int) : Bool := decide (1 ≤ s ∧ s ≤ 1498) && memB p
def sealB (x y : Int) : Bool := memB x && memB y
def openB (s x y : Int) : Bool := decide (1 ≤ s ∧ s ≤ 1498) && sealB x y
theorem sealB_in {x y : Int} (h : sealB x y = true) : (1 ≤ x ∧ x ≤ 2998) ∧ (1 ≤ y ∧ y ≤ 2998) := by
  simp only [sealB, Bool.and_eq_true] at h; exact ⟨memB_in h.1, memB_in h.2⟩

theorem l2Inverse_c (a : Int) (w : World) (a0 : 0 ≤ a) (a1 : a < 2999) : Calls Try.prog 41 #[.int .i64 a] w fun e w' => e = .returned (.int .i64 (pw a 2997)) ∧ w' = w := by
  generalize hp : pw a 2997 = p
  go_enter Try.func41, Try.ntmps41
  go_wp2_with fail
  refine (l2Power_c a 2997 _ a0 a1 (by omega)).mono ?_
  rw [hp]
  clear hp
  rintro e w' ⟨rfl, rfl⟩
  go_wp2
  go_ret
  exact ⟨rfl, rfl⟩

theorem l2Sealed_c (x y : Int) (w : World) : Calls Try.prog 40 #[.agg #[.int .i64 x, .int .i64 y]] w fun e w' => e = .returned (.bool (sealB x y)) ∧ Below w.heap.size w w' := by
  have HB : Hid (Below w.heap.size w (w.alloc (Obj.cells #[Value.int .i64 x, Value.int .i64 y] 25))) := (Below.refl _ _).alloc (Nat.le_refl _) _
  unfold sealB
  cases hx : memB x
  · rw [Bool.false_and]
    go_enter Try.func40, Try.ntmps40
    go_wp2_with (go_at_call 54; refine (specMember_c _ _).mono ?_; rw [hx]; clear hx; rintro e w' ⟨rfl, rfl⟩)
    go_ret
    exact ⟨rfl, HB.out⟩
  · rw [Bool.true_and]
    generalize hy : memB y = b
    go_enter Try.func40, Try.ntmps40
    go_wp2_with (go_at_call 54; refine (specMember_c _ _).mono ?_; (first | (rw [hx]; clear hx) | (rw [hy]; clear hy)); rintro e w' ⟨rfl, rfl⟩)
    go_ret
    exact ⟨rfl, HB.out⟩

end Go.Proofs.Ytobomcmjilcnaaa
