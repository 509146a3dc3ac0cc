/- Contracts of SealAgain and SealNumber on both sides. -/
import Derived.Test.YtobomcmjilcnaaaDoorPublic
namespace Go.Proofs.YtobomcmjilcnaaaDoor
set_option linter.unusedVariables false
set_option maxRecDepth 1000000
set_option linter.unusedSimpArgs false
open Go.RowKit
attribute [local go_sem ↓] Go.wp_at_zero Go.wp_at_succ

theorem Tab.keep {w w' : World} (ht : Tab w) (hb : Below w.heap.size w w') : Tab w' := by
  have h0 : 0 < w.heap.size := World.block_lt_of_cell? w _ ht.1
  have k : ∀ i v, w.cell? ⟨0, i, none⟩ = some v → w'.cell? ⟨0, i, none⟩ = some v := fun i v h => by rw [hb.cell (p := ⟨0, i, none⟩) h0]; exact h
  obtain ⟨a0, a1, a2, a3, a4, a5, a6, a7, a8, a9, a10⟩ := ht
  exact ⟨k _ _ a0, k _ _ a1, k _ _ a2, k _ _ a3, k _ _ a4, k _ _ a5, k _ _ a6, k _ _ a7, k _ _ a8, k _ _ a9, k _ _ a10⟩

theorem rem_wrap {z : Int} (h : 0 ≤ z ∧ z < 8994001) : (IntKind.i64.wrap z).tmod 2999 = z % 2999 := by
  have e : IntKind.i64.wrap z = z := by rw [IntKind.wrap_i64]; omega
  rw [e]; exact Int.tmod_eq_emod_of_nonneg h.1

set_option maxHeartbeats 1000000 in
theorem l2Again_c (p x y : Int) (n : Nat) (w : World) (hn : n ≤ 1498) (hp : 0 ≤ p ∧ p < 2999) (hx : 0 ≤ x ∧ x < 2999) (hy : 0 ≤ y ∧ y < 2999) :
    Calls Tryd.prog 67 #[.int .i64 p, .int .i64 n, .agg #[.int .i64 x, .int .i64 y]] w fun e w' => e = .returned (.agg #[.int .i64 (x * pw 4 n % 2999), .int .i64 (y * pw p n % 2999)]) ∧ Below w.heap.size w w' := by
  have l1 := pw_lo 4 n
  have l2 := pw_hi 4 n
  have l3 := pw_lo p n
  have l4 := pw_hi p n
  have HA : Hid (∀ wx, Calls Tryd.prog 51 #[.int .i64 4, .int .i64 n] wx fun e w' => e = .returned (.int .i64 (pw 4 n)) ∧ w' = wx) := fun wx => l2Power_c 4 n wx (by omega) (by omega) (by omega)
  have HB : Hid (∀ wx, Calls Tryd.prog 51 #[.int .i64 p, .int .i64 n] wx fun e w' => e = .returned (.int .i64 (pw p n)) ∧ w' = wx) := fun wx => l2Power_c p n wx (by omega) (by omega) (by omega)
  generalize pw 4 n = r at *
  generalize pw p n = s at *
  have h1 := prod_lt hx.1 hx.2 l1 l2
  have h2 := prod_lt hy.1 hy.2 l3 l4
  have tok1 : True := trivial
  go_enter Tryd.func67, Tryd.ntmps67
  go_wp2
  go_region_held3 (fun w' => w'.cell? ⟨w.heap.size, 0, none⟩ = some (.int .i64 x) ∧ w'.cell? ⟨w.heap.size, 1, none⟩ = some (.int .i64 y)) (first | go_keep) (first
    | (go_at_call 51; have _t := tok1; refine (HA.out _).mono ?_; rintro e w' ⟨rfl, rfl⟩; clear tok1 _t)
    | (go_at_call 51; refine (HB.out _).mono ?_; rintro e w' ⟨rfl, rfl⟩))
  all_goals go_wp2
  all_goals refine bodyPost_ret (v := .agg #[.int .i64 (x * r % 2999), .int .i64 (y * s % 2999)]) (by simp [results, Tryd.results67, go_sem]; exact ⟨rem_wrap h1, rem_wrap h2⟩) rfl ⟨rfl, ?_⟩
  all_goals exact (below_two _ _ _).drew

end Go.Proofs.YtobomcmjilcnaaaDoor
