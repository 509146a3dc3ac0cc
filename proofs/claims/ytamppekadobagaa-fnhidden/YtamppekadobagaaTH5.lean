/- Chapter 5: what goes through parts: the program's closure, and the specification's l5Through. -/
import Derived.Test.YtamppekadobagaaPU5
import Derived.Test.YtamppekadobagaaWO5
namespace Go.Proofs.Ytamppekadobagaa
set_option linter.unusedVariables false
set_option linter.unusedSimpArgs false
open Go.RowKit

/-- The sum of what all parts count for, part after part. -/
def sgF (xs : List F) (z : F) (l : List (F × F)) : F := l.foldl (fun v p => v + wtF xs p.1 z * p.2) 0
theorem sgF_gen (xs : List F) (z : F) : ∀ (l : List (F × F)) (u : F), l.foldl (fun v p => v + wtF xs p.1 z * p.2) u = u + sumF xs z l
  | [], u => by show u = u + 0; grind -lia
  | p :: l, u => by rw [List.foldl_cons, sgF_gen xs z l, sumF_cons]; grind -lia
theorem sgF_all (l : List (F × F)) (z : F) : sgF (l.map Prod.fst) z l = thF l z := by
  rw [sgF, sgF_gen, thF]; grind -lia
theorem takeP_succ {fl : List (F × F)} {k : Nat} (h : k < fl.length) : fl.take (k + 1) = fl.take k ++ [fl.getD k (0, 0)] := by
  rw [List.take_succ_eq_append_getElem h]
  simp [List.getD, h]
theorem sgF_step {xs : List F} {z : F} {fl : List (F × F)} {k : Nat} (h : k < fl.length) : sgF xs z (fl.take (k + 1)) = sgF xs z (fl.take k) + wtF xs (fl.getD k (0, 0)).1 z * (fl.getD k (0, 0)).2 := by
  rw [takeP_succ h, sgF, List.foldl_append]; rfl
theorem vI_fma (s a b : F) : (vI s + vI a * vI b) % 1499 = vI (s + a * b) := by
  rw [← vI_add, ← vI_mul]; omega
theorem drewN_rd {w : World} {ao : Option Addr} {xs : List Int} (h : Rd w ao xs) (n : Nat) : Rd (w.drewN n) ao xs := h

set_option maxHeartbeats 4000000 in
theorem curveThrough1_at (Bp Bq b o n c : Nat) (a1 : Option Addr) (c1 : Nat) (fl : List (F × F)) (z : F) (w : World) (hx : fl.length = n) (h1 : 1 ≤ n) (hn : n ≤ 9)
    (hp : w.cell? ⟨Bp, 0, none⟩ = some (.slice a1 n c1)) (hr : Rd w a1 (vIs (fl.map Prod.fst))) (hq : w.cell? ⟨Bq, 0, none⟩ = some (.slice (some ⟨b, o, none⟩) n c))
    (hc : ∀ j, j < n → w.cell? ⟨b, o + j * 2, none⟩ = some (.int .i64 (vI (fl.getD j (0, 0)).1)) ∧ w.cell? ⟨b, o + j * 2 + 1, none⟩ = some (.int .i64 (vI (fl.getD j (0, 0)).2))) :
    Calls Try.prog 85 #[.int .i64 (vI z), .pointer (some ⟨Bp, 0, none⟩), .pointer (some ⟨Bq, 0, none⟩)] w fun e w' => e = .returned (.int .i64 (vI (thF fl z))) ∧ Below w.heap.size w w' := by
  have HX : Hid (fl.length = n) := hx
  have HC : Hid (∀ j, j < n → w.cell? ⟨b, o + j * 2, none⟩ = some (.int .i64 (vI (fl.getD j (0, 0)).1)) ∧ w.cell? ⟨b, o + j * 2 + 1, none⟩ = some (.int .i64 (vI (fl.getD j (0, 0)).2))) := hc
  have HR : Hid (Rd w a1 (vIs (fl.map Prod.fst))) := hr
  clear hx hc hr
  go_enter Try.func85, Try.ntmps85
  go_wp2_with fail
  refine (weightsAt_c (vI z) a1 n c1 w).mono ?_
  rintro e w' ⟨rfl, hw⟩
  obtain ⟨W, hW⟩ : ∃ W, (w.alloc (.cells #[.int .i64 (vI z)] 3)).alloc (.cells #[.slice a1 n c1] 23) = W := ⟨_, rfl⟩
  rw [hW] at hw
  subst w'
  have HBW : Hid (Below w.heap.size w W) := by rw [← hW]; exact ((Below.refl _ w).alloc (Nat.le_refl _) _).alloc (by simp) _
  have HCW : Hid (W.cell? ⟨w.heap.size + 1, 0, none⟩ = some (.slice a1 n c1) ∧ W.cell? ⟨w.heap.size, 0, none⟩ = some (.int .i64 (vI z))) := by
    rw [← hW]
    exact ⟨by simp, calloc (by simp)⟩
  have hqW : W.cell? ⟨Bq, 0, none⟩ = some (.slice (some ⟨b, o, none⟩) n c) := by rw [← hW]; exact calloc (calloc hq)
  have hWs : w.heap.size ≤ W.heap.size := HBW.out.size
  clear hW hp hq
  go_wp2
  go_loopw [6, 14] (fun x i wr => ∃ (S : Int) (k : Nat), x = .int .i64 S ∧ i = .int .i64 k ∧ k ≤ n ∧ 0 ≤ S ∧ S ≤ k * 2244004 ∧ Hid (S % 1499 = vI (sgF (fl.map Prod.fst) z (fl.take k))) ∧ Hid (Below W.heap.size W wr)) (fun _ i _ => n - (intOf i).toNat)
  case atStart => exact ⟨0, 0, rfl, rfl, Nat.zero_le _, by omega, by omega, rfl, Below.refl _ _⟩
  case round =>
    obtain ⟨S, k, rfl, rfl, hk, hS0, hS1, hS, hB⟩ := hrel
    by_cases hlt : k < n
    · have q1 := HC.out k hlt
      have bx := World.block_lt_of_cell? w _ q1.1
      have g1 : wr.cell? ⟨b, o + k * 2, none⟩ = some (.int .i64 (vI (fl.getD k (0, 0)).1)) := by rw [hB.out.cell (p := ⟨b, o + k * 2, none⟩) (Nat.lt_of_lt_of_le bx hWs), HBW.out.cell (p := ⟨b, o + k * 2, none⟩) bx]; exact q1.1
      have g2 : wr.cell? ⟨b, o + k * 2 + 1, none⟩ = some (.int .i64 (vI (fl.getD k (0, 0)).2)) := by rw [hB.out.cell (p := ⟨b, o + k * 2 + 1, none⟩) (Nat.lt_of_lt_of_le bx hWs), HBW.out.cell (p := ⟨b, o + k * 2 + 1, none⟩) bx]; exact q1.2
      obtain ⟨V, hV⟩ : ∃ V, wr.alloc (.cells #[.int .i64 (vI (fl.getD k (0, 0)).1), .int .i64 (vI (fl.getD k (0, 0)).2)] 46) = V := ⟨_, rfl⟩
      have gV0 : V.cell? ⟨wr.heap.size, 0, none⟩ = some (.int .i64 (vI (fl.getD k (0, 0)).1)) := by rw [← hV]; simp
      have gV1 : V.cell? ⟨wr.heap.size, 1, none⟩ = some (.int .i64 (vI (fl.getD k (0, 0)).2)) := by rw [← hV]; simp
      have HBV : Hid (Below W.heap.size W V) := by rw [← hV]; exact hB.out.alloc hB.out.size _
      have HQ : Hid (∀ nq, Calls Try.prog 88 #[.int .i64 (vI (fl.getD k (0, 0)).1), .pointer (some ⟨w.heap.size + 1, 0, none⟩), .pointer (some ⟨w.heap.size, 0, none⟩)] (V.drewN nq) fun e w' => e = .returned (.int .i64 (vI (wtF (fl.map Prod.fst) (fl.getD k (0, 0)).1 z))) ∧ w' = V.drewN nq) := fun nq =>
        weightsAt1_c (w.heap.size + 1) w.heap.size a1 n c1 (fl.map Prod.fst) (fl.getD k (0, 0)).1 z (V.drewN nq) (by rw [List.length_map]; exact HX.out) h1 (by omega) (cell_keep (S := 0) HBV.out HCW.out.1) (cell_keep (S := 0) HBV.out HCW.out.2) (drewN_rd ((HR.out.later HBW.out).later HBV.out) nq)
      have hstep := sgF_step (xs := fl.map Prod.fst) (z := z) (fl := fl) (k := k) (by rw [HX.out]; exact hlt)
      have hmul := vI_mul (wtF (fl.map Prod.fst) (fl.getD k (0, 0)).1 z) (fl.getD k (0, 0)).2
      have hpr := pr_lt (vI_mem (wtF (fl.map Prod.fst) (fl.getD k (0, 0)).1 z)) (vI_mem (fl.getD k (0, 0)).2)
      have HN : Hid ((S + vI (wtF (fl.map Prod.fst) (fl.getD k (0, 0)).1 z) * vI (fl.getD k (0, 0)).2) % 1499 = vI (sgF (fl.map Prod.fst) z (fl.take (k + 1)))) := by
        show _ = _
        rw [hstep, ← vI_add, ← hS.out, ← hmul]; omega
      clear hstep hmul hS q1 bx
      generalize vI (wtF (fl.map Prod.fst) (fl.getD k (0, 0)).1 z) = wt at *
      generalize vI (fl.getD k (0, 0)).1 = x at *
      generalize vI (fl.getD k (0, 0)).2 = y at *
      obtain ⟨pr, hpe⟩ : ∃ pr, pr = wt * y := ⟨_, rfl⟩
      go_wp2_with fail
      clear hV g1 g2
      go_quiet ((go_at_call 88; exact Calls.quiet_of_same (HQ.out _)))
      go_wp2
      go_roundw
      case rel => exact ⟨S + wt * y, k + 1, by go_num, by go_num, by omega, by omega, by omega, HN, below_drewN HBV.out _⟩
      case measure => simp [intOf]; omega
    · have HE : Hid (S % 1499 = vI (thF fl z)) := by
        show _ = _
        have e : fl.take k = fl := List.take_of_length_le (by rw [HX.out]; omega)
        rw [hS.out, e, sgF_all]
      clear hS
      go_wp2
      go_ret
      exact ⟨ret_int (by have := HE.out; omega), HBW.out.trans (hB.out.mono hWs)⟩

end Go.Proofs.Ytamppekadobagaa
