/- Chapter 13: NewBoard of both sides. -/
import Derived.Test.YtaokmjbhgkfnfaaSG13s
import Derived.Test.YtaokmjbhgkfnfaaM13s
namespace Go.Proofs.Ytaokmjbhgkfnfaa
set_option linter.unusedVariables false
set_option maxRecDepth 1000000
set_option linter.unusedSimpArgs false
open Go.RowKit

def zeroBd : BdV := ⟨0, 0, [], [], []⟩
theorem nilIP (w : World) (lo : Nat) (pp : Nat → Prop) : OwnIP w lo pp (.slice none 0 0) [] := ⟨[], rfl, World.ownsRow_nil _ _ _ _, fun j h => absurd h (by simp), fun i j _ h => absurd h (by simp), (fun k h => by cases h), fun j h => absurd h (by simp)⟩
theorem zeroOwn (w : World) (lo hi : Nat) : OwnBd w lo hi (.slice none 0 0) (.slice none 0 0) (.slice none 0 0) zeroBd := ⟨⟨fun _ => False, nilIP _ _ _, fun k h => h.elim, fun k h => (by cases h), fun k h => (by cases h)⟩, World.ownsRow_nil _ _ _ _, World.ownsRow_nil _ _ _ _, Or.inl rfl⟩
theorem copyOfInts_c (ao : Option Addr) (n c : Nat) (xs : List Int) (w : World) (hx : xs.length = n) (hn : n ≤ 1000000) (hr : Rd w ao xs) (hz : ao = none → n = 0 ∧ c = 0) :
    Calls Try.prog 83 #[.slice ao n c] w fun e w' => ∃ a' c', e = .returned (.slice a' n c') ∧ Own w' w.heap.size (.slice a' n c') xs ∧ Below w.heap.size w w' := by
  obtain ⟨v', w1, r1, o1, gg, b1⟩ := appendI_run w w.heap.size (.slice none 0 0) [] xs ao n c (World.ownsRow_nil _ _ _ _) hr hx hz (by simpa using hn) (Nat.le_refl _)
  rw [List.nil_append] at o1
  obtain ⟨a6, c6, hv6⟩ := o1.shape
  rw [hx] at hv6
  subst hv6
  have HO : Hid (Own w1 w.heap.size (.slice a6 n c6) xs) := o1
  have HB : Hid (Below w.heap.size w w1) := b1
  clear o1 gg b1 hr hx hz
  go_enter Try.func83, Try.ntmps83
  go_wp2_with (first | (at_builtin; refine Lib.wpList_append_run _ rfl _ _ _ _ rfl _ _ rfl rfl _ _ (r1 _) ?_; clear r1))
  go_ret
  exact ⟨a6, c6, rfl, HO.out, HB.out⟩

end Go.Proofs.Ytaokmjbhgkfnfaa
