/- Chapter 15: nearingWay of the program. -/
import Derived.Test.YtbjpkklonjlmiaaPT15
import Derived.Test.YtbjpkklonjlmiaaP15C
namespace Go.Proofs.Ytbjpkklonjlmiaa
set_option linter.unusedVariables false
set_option maxRecDepth 1000000
set_option linter.unusedSimpArgs false
open Go.RowKit Go.Sort

/-- Whether a step leads from a seat nearer to the goal. -/
def nearB (far : List Int) (a : Nat) (y : Stp) : Bool := decide (y.1 = (a : Int)) && decide (far.getD y.2.1.toNat 0 = far.getD a 0 - 1)
theorem nearB_iff {far : List Int} {a : Nat} {y : Stp} : nearB far a y = true ↔ y.1 = (a : Int) ∧ far.getD y.2.1.toNat 0 = far.getD a 0 - 1 := by
  unfold nearB
  simp only [Bool.and_eq_true, decide_eq_true_eq]

set_option maxHeartbeats 4000000 in
theorem near1_c (gp gf a n fc t1 : Nat) (y0 y2 : Int) (ao : Option Addr) (far : List Int) (w : World) (hl : far.length = n) (ha : a < n) (ht : t1 < n) (hfa : -100 ≤ far.getD a 0 ∧ far.getD a 0 ≤ 100) (hr : Rd w ao far) (hp : w.cell? ⟨gp, 0, none⟩ = some (.int .i64 a)) (hf : w.cell? ⟨gf, 0, none⟩ = some (.slice ao n fc)) :
    Calls Try.prog 69 #[.agg #[.int .i64 y0, .int .i64 t1, .int .i64 y2], .pointer (some ⟨gp, 0, none⟩), .pointer (some ⟨gf, 0, none⟩)] w fun e w' => e = .returned (.bool (nearB far a (y0, (t1 : Int), y2))) ∧ Below w.heap.size w w' := by
  have hbV := balloc w (.cells #[.int .i64 y0, .int .i64 t1, .int .i64 y2] 78)
  have hX := x3_new w (.int .i64 y0) (.int .i64 t1) (.int .i64 y2) 78 w.heap.size rfl
  obtain ⟨V, hV⟩ : ∃ V, w.alloc (.cells #[.int .i64 y0, .int .i64 t1, .int .i64 y2] 78) = V := ⟨_, rfl⟩
  rw [hV] at hbV hX
  obtain ⟨fb, fo, rfl, ga⟩ := hr.get (k := a) (by omega)
  obtain ⟨_, _, e, gt⟩ := hr.get (k := t1) (by omega)
  simp only [Option.some.injEq, Addr.mk.injEq] at e
  obtain ⟨rfl, rfl, _⟩ := e
  have hbD : Below w.heap.size w V.drew := hbV.drew
  have HNB : Hid (nearB far a (y0, (t1 : Int), y2) = (decide (y0 = (a : Int)) && decide (far.getD t1 0 = far.getD a 0 - 1))) := by show _ = _; unfold nearB; simp only [Int.toNat_natCast]
  generalize far.getD t1 0 = ft at gt HNB
  generalize far.getD a 0 = fa at ga HNB hfa
  have HS : Hid ((fun X => (X.cell? ⟨w.heap.size, 0, none⟩ = some (.int .i64 y0) ∧ X.cell? ⟨w.heap.size, 1, none⟩ = some (.int .i64 t1) ∧ X.cell? ⟨w.heap.size, 2, none⟩ = some (.int .i64 y2)) ∧ X.cell? ⟨gp, 0, none⟩ = some (.int .i64 a) ∧ X.cell? ⟨gf, 0, none⟩ = some (.slice (some ⟨fb, fo, none⟩) n fc) ∧ X.cell? ⟨fb, fo + t1, none⟩ = some (.int .i64 ft) ∧ X.cell? ⟨fb, fo + a, none⟩ = some (.int .i64 fa)) V.drew) := ⟨(hX.later (Below.refl _ _).drew).1, cell_keep (S := 0) hbD hp, cell_keep (S := 0) hbD hf, cell_keep (S := 0) hbD gt, cell_keep (S := 0) hbD ga⟩
  have HB : Hid (Below w.heap.size w V.drew) := hbD
  generalize nearB far a (y0, (t1 : Int), y2) = zb at HNB ⊢
  have a0 : (0 : Int) ≤ (a : Int) := by omega
  have a1 : (a : Int) < (n : Int) := by omega
  have t0 : (0 : Int) ≤ (t1 : Int) := by omega
  have t2 : (t1 : Int) < (n : Int) := by omega
  have hwr : IntKind.i64.wrap (fa - 1) = fa - 1 := by rw [IntKind.wrap_i64]; omega
  obtain ⟨⟨f0, f1, f2⟩, _⟩ := hX
  clear hr hp hf ga gt hbV hbD hl
  by_cases hya : y0 = (a : Int)
  · have hye : (y0 == (a : Int)) = true := by rw [hya]; simp
    have HE : Hid ((ft == fa - 1) = zb) := by show _ = _; rw [HNB.out, decide_eq_true hya, Bool.true_and]; by_cases h : ft = fa - 1 <;> simp [h]
    clear hya
    go_enter Try.func69, Try.ntmps69
    go_wp2_with fail
    obtain ⟨D, hD⟩ : ∃ D, V.drew = D := ⟨_, rfl⟩
    refine wp_region_held_drew (S := (fun X => (X.cell? ⟨w.heap.size, 0, none⟩ = some (.int .i64 y0) ∧ X.cell? ⟨w.heap.size, 1, none⟩ = some (.int .i64 t1) ∧ X.cell? ⟨w.heap.size, 2, none⟩ = some (.int .i64 y2)) ∧ X.cell? ⟨gp, 0, none⟩ = some (.int .i64 a) ∧ X.cell? ⟨gf, 0, none⟩ = some (.slice (some ⟨fb, fo, none⟩) n fc) ∧ X.cell? ⟨fb, fo + t1, none⟩ = some (.int .i64 ft) ∧ X.cell? ⟨fb, fo + a, none⟩ = some (.int .i64 fa))) (by kernel_rfl) ?_ (fun hHeld => ?_)
    · exact HS.out
    rw [hD] at hHeld ⊢
    have HBD : Hid (Below w.heap.size w D) := by rw [← hD]; exact HB.out
    clear hD
    refine takeSO15 (i := 0) (oi := _) (v := ?_) (d := some 5) rfl (by kernel_rfl) (by kernel_rfl) (by kernel_rfl) (by kernel_rfl) (fun _ _ _ h => h) (Or.inl ⟨by rfl, ?_⟩) (by assumption) ?_
    rotate_left
    · (intro w hSw; (try dsimp only at hSw); go_simp <;> with_reducible rfl)
    try simp only [Act.put, List.setIfInBounds_toArray, List.set_cons_zero, List.set_cons_succ]
    refine takeSO15 (i := 1) (oi := _) (v := ?_) (d := some 6) rfl (by kernel_rfl) (by kernel_rfl) (by kernel_rfl) (by kernel_rfl) (fun _ _ _ h => h) (Or.inl ⟨by rfl, ?_⟩) (by assumption) ?_
    rotate_left
    · (intro w hSw; (try dsimp only at hSw); go_simp <;> with_reducible rfl)
    try simp only [Act.put, List.setIfInBounds_toArray, List.set_cons_zero, List.set_cons_succ]
    refine takeSO15 (i := 2) (oi := _) (v := ?_) (d := some 7) rfl (by kernel_rfl) (by kernel_rfl) (by kernel_rfl) (by kernel_rfl) (fun _ _ _ h => h) (Or.inl ⟨by rfl, ?_⟩) (by assumption) ?_
    rotate_left
    · (intro w hSw; (try dsimp only at hSw); go_simp <;> with_reducible rfl)
    try simp only [Act.put, List.setIfInBounds_toArray, List.set_cons_zero, List.set_cons_succ]
    refine takeSO15 (i := 3) (oi := _) (v := ?_) (d := some 8) rfl (by kernel_rfl) (by kernel_rfl) (by kernel_rfl) (by kernel_rfl) (fun _ _ _ h => h) (Or.inl ⟨by rfl, ?_⟩) (by assumption) ?_
    rotate_left
    · (intro w hSw; (try dsimp only at hSw); go_simp <;> with_reducible rfl)
    try simp only [Act.put, List.setIfInBounds_toArray, List.set_cons_zero, List.set_cons_succ]
    refine takeSO15 (i := 4) (oi := _) (v := ?_) (d := some 9) rfl (by kernel_rfl) (by kernel_rfl) (by kernel_rfl) (by kernel_rfl) (fun _ _ _ h => h) (Or.inl ⟨by rfl, ?_⟩) (by assumption) ?_
    rotate_left
    · (intro w hSw; (try dsimp only at hSw); go_simp <;> with_reducible rfl)
    try simp only [Act.put, List.setIfInBounds_toArray, List.set_cons_zero, List.set_cons_succ]
    refine takeSO15 (i := 5) (oi := _) (v := ?_) (d := some 10) rfl (by kernel_rfl) (by kernel_rfl) (by kernel_rfl) (by kernel_rfl) (fun _ _ _ h => h) (Or.inl ⟨by rfl, ?_⟩) (by assumption) ?_
    rotate_left
    · (intro w hSw; (try dsimp only at hSw); go_simp <;> with_reducible rfl)
    try simp only [Act.put, List.setIfInBounds_toArray, List.set_cons_zero, List.set_cons_succ]
    refine takeSO15 (i := 6) (oi := _) (v := ?_) (d := some 11) rfl (by kernel_rfl) (by kernel_rfl) (by kernel_rfl) (by kernel_rfl) (fun _ _ _ h => h) (Or.inl ⟨by rfl, ?_⟩) (by assumption) ?_
    rotate_left
    · (intro w hSw; (try dsimp only at hSw); go_simp <;> with_reducible rfl)
    try simp only [Act.put, List.setIfInBounds_toArray, List.set_cons_zero, List.set_cons_succ]
    refine takeSO15 (i := 7) (oi := _) (v := ?_) (d := some 12) rfl (by kernel_rfl) (by kernel_rfl) (by kernel_rfl) (by kernel_rfl) (fun _ _ _ h => h) (Or.inl ⟨by rfl, ?_⟩) (by assumption) ?_
    rotate_left
    · (intro w hSw; (try dsimp only at hSw); go_simp <;> with_reducible rfl)
    try simp only [Act.put, List.setIfInBounds_toArray, List.set_cons_zero, List.set_cons_succ]
    refine takeSO15 (i := 8) (oi := _) (v := ?_) (d := some 13) rfl (by kernel_rfl) (by kernel_rfl) (by kernel_rfl) (by kernel_rfl) (fun _ _ _ h => h) (Or.inl ⟨by rfl, ?_⟩) (by assumption) ?_
    rotate_left
    · (intro w hSw; (try dsimp only at hSw); go_simp <;> with_reducible rfl)
    try simp only [Act.put, List.setIfInBounds_toArray, List.set_cons_zero, List.set_cons_succ]
    refine takeSO15 (i := 9) (oi := _) (v := ?_) (d := some 14) rfl (by kernel_rfl) (by kernel_rfl) (by kernel_rfl) (by kernel_rfl) (fun _ _ _ h => h) (Or.inl ⟨by rfl, ?_⟩) (by assumption) ?_
    rotate_left
    · (intro w hSw; (try dsimp only at hSw); go_simp <;> with_reducible rfl)
    try simp only [Act.put, List.setIfInBounds_toArray, List.set_cons_zero, List.set_cons_succ]
    refine takeSO15 (i := 10) (oi := _) (v := ?_) (d := some 15) rfl (by kernel_rfl) (by kernel_rfl) (by kernel_rfl) (by kernel_rfl) (fun _ _ _ h => h) (Or.inl ⟨by rfl, ?_⟩) (by assumption) ?_
    rotate_left
    · (intro w hSw; (try dsimp only at hSw); go_simp <;> with_reducible rfl)
    try simp only [Act.put, List.setIfInBounds_toArray, List.set_cons_zero, List.set_cons_succ]
    refine takeSO15 (i := 11) (oi := _) (v := ?_) (d := some 16) rfl (by kernel_rfl) (by kernel_rfl) (by kernel_rfl) (by kernel_rfl) (fun _ _ _ h => h) (Or.inl ⟨by rfl, ?_⟩) (by assumption) ?_
    rotate_left
    · (intro w hSw; (try dsimp only at hSw); go_simp <;> with_reducible rfl)
    try simp only [Act.put, List.setIfInBounds_toArray, List.set_cons_zero, List.set_cons_succ]
    refine takeSO15 (i := 12) (oi := _) (v := ?_) (d := some 17) rfl (by kernel_rfl) (by kernel_rfl) (by kernel_rfl) (by kernel_rfl) (fun _ _ _ h => h) (Or.inl ⟨by rfl, ?_⟩) (by assumption) ?_
    rotate_left
    · (intro w hSw; (try dsimp only at hSw); go_simp <;> with_reducible rfl)
    try simp only [Act.put, List.setIfInBounds_toArray, List.set_cons_zero, List.set_cons_succ]
    refine takeSO15 (i := 13) (oi := _) (v := ?_) (d := some 18) rfl (by kernel_rfl) (by kernel_rfl) (by kernel_rfl) (by kernel_rfl) (fun _ _ _ h => h) (Or.inl ⟨by rfl, ?_⟩) (by assumption) ?_
    rotate_left
    · (intro w hSw; (try dsimp only at hSw); go_simp <;> with_reducible rfl)
    try simp only [Act.put, List.setIfInBounds_toArray, List.set_cons_zero, List.set_cons_succ]
    refine takeSO15 (i := 14) (oi := _) (v := ?_) (d := some 19) rfl (by kernel_rfl) (by kernel_rfl) (by kernel_rfl) (by kernel_rfl) (fun _ _ _ h => h) (Or.inl ⟨by rfl, ?_⟩) (by assumption) ?_
    rotate_left
    · (intro w hSw; (try dsimp only at hSw); go_simp <;> with_reducible rfl)
    try simp only [Act.put, List.setIfInBounds_toArray, List.set_cons_zero, List.set_cons_succ]
    refine takeSO15 (i := 15) (oi := _) (v := ?_) (d := some 20) rfl (by kernel_rfl) (by kernel_rfl) (by kernel_rfl) (by kernel_rfl) (fun _ _ _ h => h) (Or.inl ⟨by rfl, ?_⟩) (by assumption) ?_
    rotate_left
    · (intro w hSw; (try dsimp only at hSw); go_simp <;> with_reducible rfl)
    try simp only [Act.put, List.setIfInBounds_toArray, List.set_cons_zero, List.set_cons_succ]
    refine takeSO15 (i := 16) (oi := _) (v := ?_) (d := some 21) rfl (by kernel_rfl) (by kernel_rfl) (by kernel_rfl) (by kernel_rfl) (fun _ _ _ h => h) (Or.inl ⟨by rfl, ?_⟩) (by assumption) ?_
    rotate_left
    · (intro w hSw; (try dsimp only at hSw); go_simp <;> with_reducible rfl)
    try simp only [Act.put, List.setIfInBounds_toArray, List.set_cons_zero, List.set_cons_succ]
    refine takeSO15 (i := 17) (oi := _) (v := ?_) (d := some 4) rfl (by kernel_rfl) (by kernel_rfl) (by kernel_rfl) (by kernel_rfl) (fun _ _ _ h => h) (Or.inl ⟨by rfl, ?_⟩) (by assumption) ?_
    rotate_left
    · (intro w hSw; (try dsimp only at hSw); go_simp <;> with_reducible rfl)
    try simp only [Act.put, List.setIfInBounds_toArray, List.set_cons_zero, List.set_cons_succ]
    refine wpAnyH_done (by kernel_rfl) ?_ _
    clear hHeld
    go_wp2
    go_ret
    exact ⟨ret_bool HE.out, HBD.out⟩
  · have hye : (y0 == (a : Int)) = false := by rw [beq_eq_false_iff_ne]; exact hya
    have HE : Hid ((false : Bool) = zb) := by show _ = _; rw [HNB.out, decide_eq_false hya]; rfl
    clear hya
    go_enter Try.func69, Try.ntmps69
    go_wp2_with fail
    obtain ⟨D, hD⟩ : ∃ D, V.drew = D := ⟨_, rfl⟩
    refine wp_region_held_drew (S := (fun X => (X.cell? ⟨w.heap.size, 0, none⟩ = some (.int .i64 y0) ∧ X.cell? ⟨w.heap.size, 1, none⟩ = some (.int .i64 t1) ∧ X.cell? ⟨w.heap.size, 2, none⟩ = some (.int .i64 y2)) ∧ X.cell? ⟨gp, 0, none⟩ = some (.int .i64 a) ∧ X.cell? ⟨gf, 0, none⟩ = some (.slice (some ⟨fb, fo, none⟩) n fc) ∧ X.cell? ⟨fb, fo + t1, none⟩ = some (.int .i64 ft) ∧ X.cell? ⟨fb, fo + a, none⟩ = some (.int .i64 fa))) (by kernel_rfl) ?_ (fun hHeld => ?_)
    · exact HS.out
    rw [hD] at hHeld ⊢
    have HBD : Hid (Below w.heap.size w D) := by rw [← hD]; exact HB.out
    clear hD
    refine takeSO15 (i := 0) (oi := _) (v := ?_) (d := some 5) rfl (by kernel_rfl) (by kernel_rfl) (by kernel_rfl) (by kernel_rfl) (fun _ _ _ h => h) (Or.inl ⟨by rfl, ?_⟩) (by assumption) ?_
    rotate_left
    · (intro w hSw; (try dsimp only at hSw); go_simp <;> with_reducible rfl)
    try simp only [Act.put, List.setIfInBounds_toArray, List.set_cons_zero, List.set_cons_succ]
    refine takeSO15 (i := 1) (oi := _) (v := ?_) (d := some 6) rfl (by kernel_rfl) (by kernel_rfl) (by kernel_rfl) (by kernel_rfl) (fun _ _ _ h => h) (Or.inl ⟨by rfl, ?_⟩) (by assumption) ?_
    rotate_left
    · (intro w hSw; (try dsimp only at hSw); go_simp <;> with_reducible rfl)
    try simp only [Act.put, List.setIfInBounds_toArray, List.set_cons_zero, List.set_cons_succ]
    refine takeSO15 (i := 2) (oi := _) (v := ?_) (d := some 7) rfl (by kernel_rfl) (by kernel_rfl) (by kernel_rfl) (by kernel_rfl) (fun _ _ _ h => h) (Or.inl ⟨by rfl, ?_⟩) (by assumption) ?_
    rotate_left
    · (intro w hSw; (try dsimp only at hSw); go_simp <;> with_reducible rfl)
    try simp only [Act.put, List.setIfInBounds_toArray, List.set_cons_zero, List.set_cons_succ]
    refine takeSO15 (i := 3) (oi := _) (v := ?_) (d := some 8) rfl (by kernel_rfl) (by kernel_rfl) (by kernel_rfl) (by kernel_rfl) (fun _ _ _ h => h) (Or.inl ⟨by rfl, ?_⟩) (by assumption) ?_
    rotate_left
    · (intro w hSw; (try dsimp only at hSw); go_simp <;> with_reducible rfl)
    try simp only [Act.put, List.setIfInBounds_toArray, List.set_cons_zero, List.set_cons_succ]
    refine takeSO15 (i := 4) (oi := _) (v := ?_) (d := some 9) rfl (by kernel_rfl) (by kernel_rfl) (by kernel_rfl) (by kernel_rfl) (fun _ _ _ h => h) (Or.inl ⟨by rfl, ?_⟩) (by assumption) ?_
    rotate_left
    · (intro w hSw; (try dsimp only at hSw); go_simp <;> with_reducible rfl)
    try simp only [Act.put, List.setIfInBounds_toArray, List.set_cons_zero, List.set_cons_succ]
    refine takeSO15 (i := 5) (oi := _) (v := undef) (d := some 10) rfl (by kernel_rfl) (by kernel_rfl) (by kernel_rfl) (by kernel_rfl) (fun _ _ _ h => h) (Or.inr ⟨by rfl, rfl⟩) (by assumption) ?_
    try simp only [Act.put, List.setIfInBounds_toArray, List.set_cons_zero, List.set_cons_succ]
    refine takeSO15 (i := 6) (oi := _) (v := undef) (d := some 11) rfl (by kernel_rfl) (by kernel_rfl) (by kernel_rfl) (by kernel_rfl) (fun _ _ _ h => h) (Or.inr ⟨by rfl, rfl⟩) (by assumption) ?_
    try simp only [Act.put, List.setIfInBounds_toArray, List.set_cons_zero, List.set_cons_succ]
    refine takeSO15 (i := 7) (oi := _) (v := undef) (d := some 12) rfl (by kernel_rfl) (by kernel_rfl) (by kernel_rfl) (by kernel_rfl) (fun _ _ _ h => h) (Or.inr ⟨by rfl, rfl⟩) (by assumption) ?_
    try simp only [Act.put, List.setIfInBounds_toArray, List.set_cons_zero, List.set_cons_succ]
    refine takeSO15 (i := 8) (oi := _) (v := undef) (d := some 13) rfl (by kernel_rfl) (by kernel_rfl) (by kernel_rfl) (by kernel_rfl) (fun _ _ _ h => h) (Or.inr ⟨by rfl, rfl⟩) (by assumption) ?_
    try simp only [Act.put, List.setIfInBounds_toArray, List.set_cons_zero, List.set_cons_succ]
    refine takeSO15 (i := 9) (oi := _) (v := undef) (d := some 14) rfl (by kernel_rfl) (by kernel_rfl) (by kernel_rfl) (by kernel_rfl) (fun _ _ _ h => h) (Or.inr ⟨by rfl, rfl⟩) (by assumption) ?_
    try simp only [Act.put, List.setIfInBounds_toArray, List.set_cons_zero, List.set_cons_succ]
    refine takeSO15 (i := 10) (oi := _) (v := undef) (d := some 15) rfl (by kernel_rfl) (by kernel_rfl) (by kernel_rfl) (by kernel_rfl) (fun _ _ _ h => h) (Or.inr ⟨by rfl, rfl⟩) (by assumption) ?_
    try simp only [Act.put, List.setIfInBounds_toArray, List.set_cons_zero, List.set_cons_succ]
    refine takeSO15 (i := 11) (oi := _) (v := undef) (d := some 16) rfl (by kernel_rfl) (by kernel_rfl) (by kernel_rfl) (by kernel_rfl) (fun _ _ _ h => h) (Or.inr ⟨by rfl, rfl⟩) (by assumption) ?_
    try simp only [Act.put, List.setIfInBounds_toArray, List.set_cons_zero, List.set_cons_succ]
    refine takeSO15 (i := 12) (oi := _) (v := undef) (d := some 17) rfl (by kernel_rfl) (by kernel_rfl) (by kernel_rfl) (by kernel_rfl) (fun _ _ _ h => h) (Or.inr ⟨by rfl, rfl⟩) (by assumption) ?_
    try simp only [Act.put, List.setIfInBounds_toArray, List.set_cons_zero, List.set_cons_succ]
    refine takeSO15 (i := 13) (oi := _) (v := undef) (d := some 18) rfl (by kernel_rfl) (by kernel_rfl) (by kernel_rfl) (by kernel_rfl) (fun _ _ _ h => h) (Or.inr ⟨by rfl, rfl⟩) (by assumption) ?_
    try simp only [Act.put, List.setIfInBounds_toArray, List.set_cons_zero, List.set_cons_succ]
    refine takeSO15 (i := 14) (oi := _) (v := undef) (d := some 19) rfl (by kernel_rfl) (by kernel_rfl) (by kernel_rfl) (by kernel_rfl) (fun _ _ _ h => h) (Or.inr ⟨by rfl, rfl⟩) (by assumption) ?_
    try simp only [Act.put, List.setIfInBounds_toArray, List.set_cons_zero, List.set_cons_succ]
    refine takeSO15 (i := 15) (oi := _) (v := undef) (d := some 20) rfl (by kernel_rfl) (by kernel_rfl) (by kernel_rfl) (by kernel_rfl) (fun _ _ _ h => h) (Or.inr ⟨by rfl, rfl⟩) (by assumption) ?_
    try simp only [Act.put, List.setIfInBounds_toArray, List.set_cons_zero, List.set_cons_succ]
    refine takeSO15 (i := 16) (oi := _) (v := ?_) (d := some 21) rfl (by kernel_rfl) (by kernel_rfl) (by kernel_rfl) (by kernel_rfl) (fun _ _ _ h => h) (Or.inl ⟨by rfl, ?_⟩) (by assumption) ?_
    rotate_left
    · (intro w hSw; (try dsimp only at hSw); go_simp <;> with_reducible rfl)
    try simp only [Act.put, List.setIfInBounds_toArray, List.set_cons_zero, List.set_cons_succ]
    refine takeSO15 (i := 17) (oi := _) (v := ?_) (d := some 4) rfl (by kernel_rfl) (by kernel_rfl) (by kernel_rfl) (by kernel_rfl) (fun _ _ _ h => h) (Or.inl ⟨by rfl, ?_⟩) (by assumption) ?_
    rotate_left
    · (intro w hSw; (try dsimp only at hSw); go_simp <;> with_reducible rfl)
    try simp only [Act.put, List.setIfInBounds_toArray, List.set_cons_zero, List.set_cons_succ]
    refine wpAnyH_done (by kernel_rfl) ?_ _
    clear hHeld
    go_wp2
    go_ret
    exact ⟨ret_bool HE.out, HBD.out⟩

set_option maxHeartbeats 4000000 in
theorem indexSt_c (gp gf a n fc pn : Nat) (ao : Option Addr) (far : List Int) (so : Option Addr) (m sc : Nat) (ys : List Stp) (w : World) (hl : far.length = n) (ha : a < n) (hfa : -100 ≤ far.getD a 0 ∧ far.getD a 0 ≤ 100) (hr : Rd w ao far) (hp : w.cell? ⟨gp, 0, none⟩ = some (.int .i64 a)) (hf : w.cell? ⟨gf, 0, none⟩ = some (.slice ao n fc)) (hm : ys.length = m) (hm30 : m ≤ 30) (hb : StB n pn ys) (hs : RdQ w so ys) (hex : ∃ i, i < m ∧ nearB far a (ys.getD i (0, 0, 0)) = true) :
    Calls Try.prog 70 #[.slice so m sc, .func (.func 69) #[] #[.pointer (some ⟨gp, 0, none⟩), .pointer (some ⟨gf, 0, none⟩)]] w fun e w' => ∃ i : Nat, e = .returned (.int .i64 i) ∧ i < m ∧ nearB far a (ys.getD i (0, 0, 0)) = true ∧ (∀ j, j < i → nearB far a (ys.getD j (0, 0, 0)) = false) ∧ Below w.heap.size w w' := by
  have HM : Hid (ys.length = m) := hm
  have HSB : Hid (StB n pn ys) := hb
  have HR : Hid (∀ wx, Below w.heap.size w wx → RdQ wx so ys) := fun wx h => hs.later h
  have HEX : Hid (∃ i, i < m ∧ nearB far a (ys.getD i (0, 0, 0)) = true) := hex
  have HN1 : Hid (∀ wx (t1 : Nat) (y0 y2 : Int), Below w.heap.size w wx → t1 < n → Calls Try.prog 69 #[.agg #[.int .i64 y0, .int .i64 t1, .int .i64 y2], .pointer (some ⟨gp, 0, none⟩), .pointer (some ⟨gf, 0, none⟩)] wx fun e w' => e = .returned (.bool (nearB far a (y0, (t1 : Int), y2))) ∧ Below wx.heap.size wx w') := fun wx t1 y0 y2 h h2 => near1_c gp gf a n fc t1 y0 y2 ao far wx hl ha h2 hfa (hr.later h) (cell_keep (S := 0) h hp) (cell_keep (S := 0) h hf)
  clear hm hb hs hex hr hp hf hfa hl ha
  go_enter Try.func70, Try.ntmps70
  go_wp2
  go_loopw [8] (fun iv wr => ∃ k : Nat, k ≤ m ∧ iv = .int .i64 k ∧ Hid (∀ j, j < k → nearB far a (ys.getD j (0, 0, 0)) = false) ∧ Hid (Below w.heap.size w wr)) (fun iv _ => m - (intOf iv).toNat)
  case atStart => exact ⟨0, Nat.zero_le _, rfl, fun j h => absurd h (by omega), Below.refl _ _⟩
  case round =>
    obtain ⟨k, hk, rfl, HS, HB⟩ := hrel
    by_cases hlt : k < m
    case neg =>
      exfalso
      obtain ⟨i, hi, he⟩ := HEX.out
      have := HS.out i (by omega)
      rw [this] at he
      cases he
    have hkl : k < ys.length := by rw [HM.out]; exact hlt
    obtain ⟨b, o, rfl, u0, u1, u2⟩ := (HR.out wr HB.out).get hkl
    have hy := HSB.out _ (mem_getD (0, 0, 0) hkl)
    have HYK : Hid (∀ y, ys.getD k (0, 0, 0) = y → nearB far a (ys.getD k (0, 0, 0)) = nearB far a y) := fun y h => by rw [h]
    generalize hyk : ys.getD k (0, 0, 0) = y at u0 u1 u2 hy
    obtain ⟨y0, y1, y2⟩ := y
    obtain ⟨tt, htt⟩ : ∃ tt : Nat, y1 = (tt : Int) := ⟨y1.toNat, by have := hy.2.2.1; dsimp only at this; omega⟩
    subst htt
    dsimp only at hy u0 u1 u2
    have q := HN1.out wr tt y0 y2 HB.out (by omega)
    have hyn := HYK.out _ hyk
    rw [← hyn] at q
    have k0 : (0 : Int) ≤ (k : Int) := by omega
    have k1 : (k : Int) < (m : Int) := by omega
    clear hkl hyk hyn hy HYK
    cases hnb : nearB far a (ys.getD k (0, 0, 0))
    · have HS2 : Hid (∀ j, j < k + 1 → nearB far a (ys.getD j (0, 0, 0)) = false) := fun j hj => by
        by_cases e : j = k
        · rw [e]; exact hnb
        · exact HS.out j (by omega)
      rw [hnb] at q
      clear hnb
      go_wp2_with fail
      refine q.mono ?_
      clear q u0 u1 u2
      rintro e w1 ⟨rfl, hb⟩
      have HB1 : Hid (Below w.heap.size w w1) := HB.out.trans (hb.mono HB.out.size)
      clear hb
      go_wp2
      go_roundw
      case rel => exact ⟨k + 1, by omega, by go_num, HS2, HB1⟩
      case measure => simp [intOf]; omega
    · have HNB : Hid (nearB far a (ys.getD k (0, 0, 0)) = true) := hnb
      rw [hnb] at q
      clear hnb
      go_wp2_with fail
      refine q.mono ?_
      clear q u0 u1 u2
      rintro e w1 ⟨rfl, hb⟩
      have HB1 : Hid (Below w.heap.size w w1) := HB.out.trans (hb.mono HB.out.size)
      clear hb
      go_wp2
      go_ret
      exact ⟨k, rfl, hlt, HNB.out, HS.out, HB1.out⟩

end Go.Proofs.Ytbjpkklonjlmiaa
