/- One round forth, one round back: the methods that the rounds are made of. -/
import Derived.Test.YtnfoflijapbkdaaK4
import Derived.Deep.RegionWith
namespace Go.Proofs.Ytnfoflijapbkdaa
set_option linter.unusedVariables false
set_option maxRecDepth 1000000
set_option linter.unusedSimpArgs false
open Go.RowKit

set_option maxHeartbeats 1000000 in
theorem forth_c (y u l : Nat) (w : World) (hy : y < 65536) (hu : u < 256) (hl : l < 256) :
    Calls Try.prog 84 #[.int .i64 y, .agg #[.int .i64 u, .int .i64 l]] w fun e w' => e = .returned (.agg #[.int .i64 l, .int .i64 ((u ^^^ rndN y l : Nat) : Int)]) ∧ Below w.heap.size w w' := by
  have ht := fun wx => turn_c y l wx hy hl
  have hz := rndN_lt y l
  generalize rndN y l = z at ht hz ⊢
  have hxor := i64_xor (a := u) (b := z) (by omega) (by omega)
  generalize hv : u ^^^ z = v at hxor ⊢
  clear hv
  go_enter Try.func84, Try.ntmps84
  go_wp2
  go_region_with (go_at_call 87; refine (ht _).mono ?_; rintro e w' ⟨rfl, hw⟩; subst w')
  all_goals go_wp2
  all_goals (refine bodyPost_ret (v := .agg #[.int .i64 (l : Int), .int .i64 (v : Int)]) (by simp [results, Try.results84, go_sem]) rfl ⟨rfl, (((Below.refl _ w).alloc (Nat.le_refl _) _).alloc (by simp) _).drew⟩)

end Go.Proofs.Ytnfoflijapbkdaa
