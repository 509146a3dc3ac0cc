/- Chapter 12: what a map tells where those that said both are struck; one more saying. -/
import Derived.Test.YtleddlfojogdiaaGreatTC12
import Derived.Test.YtleddlfojogdiaaGreatS12
namespace Go.Proofs.YtleddlfojogdiaaGreat
set_option linter.unusedVariables false
set_option maxRecDepth 1000000
set_option linter.unusedSimpArgs false
open Go.RowKit Go.Maps

theorem with_c (a t : Int) (r : Bool) (w : World) (ha : 0 ≤ a ∧ a ≤ 1000) (ht : 0 ≤ t ∧ t ≤ 1000) :
    Calls Tryz.prog 89 #[.agg #[.int .i64 a, .int .i64 t], .bool r] w fun e w' => e = .returned (.agg #[.int .i64 (if r then a + 1 else a), .int .i64 (if r then t else t + 1)]) ∧ Below w.heap.size w w' := by
  cases r
  · go_enter Tryz.func89, Tryz.ntmps89
    go_wp2
    refine bodyPost_ret (v := .agg #[.int .i64 a, .int .i64 (t + 1)]) (by simp [results, Tryz.results89, go_sem, ]; try rfl) rfl ?_
    exact ⟨rfl, ((Below.refl _ w).alloc (Nat.le_refl _) _).alloc (by simp) _⟩
  · go_enter Tryz.func89, Tryz.ntmps89
    go_wp2
    refine bodyPost_ret (v := .agg #[.int .i64 (a + 1), .int .i64 t]) (by simp [results, Tryz.results89, go_sem, ]; try rfl) rfl ?_
    exact ⟨rfl, ((Below.refl _ w).alloc (Nat.le_refl _) _).alloc (by simp) _⟩

set_option maxHeartbeats 4000000 in
theorem delContra_c (b n : Nat) (g : Te) (w : World) (h : MT w b n g) :
    Calls Tryz.prog 77 #[.map (some b)] w fun e w' => e = .returned (.tuple #[]) ∧ MT w' b n (cleanT g) ∧ w.grownBy w' (some b) := by
  obtain ⟨D, hown, hT⟩ := h
  have HT0 : Hid (Tells D (fun x => if has D (.int .i64 x) = true then g x else cleanT g x)) := tells_start hT
  clear hT
  go_enter Tryz.func77, Tryz.ntmps77
  go_wp2_with (first
    | (at_range; refine wpList_range_own _ rfl _ 108 rfl 3 119 Tryz.keyedInt Tryz.underlying108 _ b n _ rfl hown ?_; intro w0 hrg0 hg0 hs0)
    | go_in)
  go_frame
  go_loopw [2] (fun _ wr => ∃ (D' : DataW Unit) (left : Lit → Bool) (cnt : Nat), wr.ranges Tryz.prog 3 RT b w.heap.size n D' left cnt ∧ Hid (Tells D' (fun x => if left (.int .i64 x) = true then g x else cleanT g x)) ∧ w.grownBy wr (some b))
    (fun _ wr => wr.rangeLeft b w.heap.size)
  case atStart => exact ⟨_, _, _, hrg0, HT0, hg0.but _⟩
  case round =>
    obtain ⟨D', left, cnt, hrg, HT, hgw⟩ := hrel
    go_wp2_with (first
      | (at_next; refine wpList_next_ranges _ rfl _ rfl 3 Tryz.keyedInt RT (Value.int .i64) (fun p : Int × Int => .agg #[.int .i64 p.1, .int .i64 p.2]) (fun key kl hkey => by obtain ⟨x, rfl, _⟩ := Maps.keyOf_int_inv Tryz.underlying3 hkey; exact ⟨x, rfl⟩) (fun v y hv => by obtain ⟨p, rfl, _⟩ := RT_inv hv; exact ⟨p, rfl⟩) b w.heap.size n _ _ _ rfl hrg ?_ ?_)
      | go_in)
    · intro _ hl0
      go_wp2
      go_end0
      exact ⟨rfl, ⟨_, hrg.owns, tells_end HT.out hl0⟩, hgw⟩
    · intro x a t kl dd pl w1 cnt1 hkey hlx hv hat hrg1 hlt hg1 hs1 hen
      obtain ⟨x', ex, rfl, hwx⟩ := Maps.keyOf_int_inv Tryz.underlying3 hkey
      cases ex
      obtain rfl : dd = tD (a, t) := by
        rw [RT_mk] at hv
        injection hv with hv
        injection hv with hv
        exact hv.symm
      clear hv hkey
      have hgx := tells_at HT.out hlx hat
      clear hat
      have hgw1 := hgw.andThen hg1 (fun j hj => by cases hj; exact Or.inl (Nat.le_refl _))
      have bX := hgw1.andThen (World.grownBy_alloc w1 (.cells #[.int .i64 a, .int .i64 t] 119) none) (fun j hj => by cases hj)
      have hrg2 := hrg1.alloc (.cells #[.int .i64 a, .int .i64 t] 119)
      have cX := x2_new w1 (.int .i64 a) (.int .i64 t) 119 w1.heap.size rfl
      obtain ⟨⟨d0, d1⟩, _⟩ := cX
      have HG : Hid (g x = some (a, t)) := hgx
      clear hgx hgw1 hg1 hs1 hgw
      by_cases hat : 0 < a ∧ 0 < t
      · obtain ⟨ha, ht⟩ := hat
        have HT1 := tells_struck HT.out HG.out ha ht
        go_wp2_with (first
          | (at_delete; refine wpList_delete_ranges _ rfl _ _ 108 3 rfl 119 Tryz.keyedInt Tryz.underlying108 _ b w.heap.size n _ _ _ rfl hrg2 _ _ rfl (keyOf_int_mk Tryz.underlying3 hwx) ?_; intro w2 cnt2 hrg3 hle hturn; go_frame)
          | go_in)
        rw [Maps.strike_twice] at hrg3
        go_roundw
        case rel => exact ⟨_, _, cnt2, hrg3, HT1, bX.andThen hturn.grown (fun j hj => by cases hj; exact Or.inr rfl)⟩
        case measure => rw [hrg3.left_eq, hrg.left_eq]; omega
      · have HT1 := tells_stays HT.out hlx HG.out hat
        have hor : ¬ 0 < a ∨ ¬ 0 < t := by omega
        clear hat
        rcases hor with ha | ht
        · go_wp2
          go_roundw
          case rel => exact ⟨_, _, cnt1, hrg2, HT1, bX⟩
          case measure => rw [hrg2.left_eq, hrg.left_eq]; exact hlt
        · by_cases ha : 0 < a
          · go_wp2
            go_roundw
            case rel => exact ⟨_, _, cnt1, hrg2, HT1, bX⟩
            case measure => rw [hrg2.left_eq, hrg.left_eq]; exact hlt
          · go_wp2
            go_roundw
            case rel => exact ⟨_, _, cnt1, hrg2, HT1, bX⟩
            case measure => rw [hrg2.left_eq, hrg.left_eq]; exact hlt

end Go.Proofs.YtleddlfojogdiaaGreat
