/- Chapter 15: slices.Repeat of one number, six times at most. -/
import Derived.Test.YtbjpkklonjlmiaaHB15
import Derived.Deep.RegionLaw
namespace Go.Proofs.Ytbjpkklonjlmiaa
set_option linter.unusedVariables false
set_option maxRecDepth 1000000
set_option linter.unusedSimpArgs false
open Go.RowKit Go.Sort

/-- THE OPERATION 'copy(d, s)', where its run is known by an equation. -/
theorem wp_copy_run8 {P : Program} (w : World) {o : Oper} {a : Act} {K : Act → World → Prop} {Q : Exit → Act → World → Prop} (d s : Operand) (t t' : TypeId)
    (ho : o.op = .call { callee := .builtin .copy, args := #[d, s], argTypes := #[t, t'] }) (v u : Value) (hd : a.eval d = v) (hs : a.eval s = u) {v' : Value} {w' : World}
    (hr : (Builtin.copy_ #[t, t'] o.type #[v, u]).run P w = .ok v' w') (h : K (a.put o.dst v') w') : o.wp P a w K Q := by
  unfold Oper.wp execOp
  simp only [ho, resolve, invoke, builtin, Sem.run_bind, Sem.run_pure, Result.andThen_ok, List.map_toArray, List.map_cons, List.map_nil, hd, hs, hr]
  exact h
theorem wpList_copy_run8 {P : Program} (w : World) {ops : Array Oper} {rest : List Oper} {o : Oper} {a : Act} {Q : Exit → Act → World → Prop} (hgd : o.guard = none) (d s : Operand) (t t' : TypeId)
    (ho : o.op = .call { callee := .builtin .copy, args := #[d, s], argTypes := #[t, t'] }) (v u : Value) (hd : a.eval d = v) (hs : a.eval s = u) {v' : Value} {w' : World}
    (hr : (Builtin.copy_ #[t, t'] o.type #[v, u]).run P w = .ok v' w') (h : wpList P ops Q rest (a.put o.dst v') w') : wpList P ops Q (o :: rest) a w :=
  wpList_plain hgd fun _ hK => wp_copy_run8 w d s t t' ho v u hd hs hr (hK _ _ h)
theorem step_copy_run8 {P : Program} {ops : Array Oper} {o : Oper} {a : Act} {w : World} {K : Act → World → Prop} {Q : Exit → Act → World → Prop} {E : Prop}
    (hg : o.guard = none) (d x : Operand) (dT sT : TypeId) (hop : o.op = Op.call { callee := Callee.builtin Builtin.copy, args := #[d, x], argTypes := #[dT, sT] })
    (v u : Value) (hd : a.eval d = v) (hx : a.eval x = u) {v' : Value} {w' : World} (hr : (Builtin.copy_ #[dT, sT] o.type #[v, u]).run P w = .ok v' w') (hK : K (a.put o.dst v') w') :
    if Region.wanted o (yielded ops a.tmps) = true then Oper.wp P o a w K Q else E := by
  have hw : Region.wanted o (yielded ops a.tmps) = true := by simp [Region.wanted, hg]
  rw [if_pos hw]
  unfold Oper.wp
  simp [execOp, hop, resolve, invoke, builtin, hd, hx, hr, Result.andThen]
  exact hK

/-- Cells written over others. -/
def overV (l : List Value) (o : Nat) (m : List Value) : List Value := l.take o ++ (m ++ l.drop (o + m.length))

theorem own_setCells {base : Nat} {e : TypeId} {g n cap : Nat} : ∀ (vs : List Value) (o : Nat) {w : World} {xs : List Value}, w.ownsRow base e 1 (.slice (some ⟨g, 0, none⟩) n cap) n xs → o + vs.length ≤ xs.length →
    (w.setCells g o vs).ownsRow base e 1 (.slice (some ⟨g, 0, none⟩) n cap) n (overV xs o vs)
  | [], o, w, xs, h, hl => by
    rw [show overV xs o [] = xs by simp [overV]]
    exact h
  | v :: r, o, w, xs, h, hl => by
    rw [World.setCells]
    have h1 := (World.ownsRow.stored h o v).1
    have h2 := own_setCells r (o + 1) h1 (by simp at hl ⊢; omega)
    have e : overV (xs.set o v) (o + 1) r = overV xs o (v :: r) := by
      simp only [List.length_cons] at hl
      have ho : o < xs.length := by omega
      unfold overV
      rw [List.take_set, List.drop_set_of_lt (by omega), List.take_succ_eq_append_getElem ho, List.set_append_right _ _ (by simp; omega)]
      rw [show (o - (xs.take o).length) = 0 by simp; omega]
      simp only [List.set_cons_zero, List.append_assoc, List.length_cons, List.cons_append, List.nil_append]
      rw [show o + 1 + r.length = o + (r.length + 1) by omega]
    rw [← e]
    exact h2

theorem grown_setCells15 (g : Nat) : ∀ (vs : List Value) (o : Nat) (w : World), w.grownBy (w.setCells g o vs) (some g)
  | [], _, w => World.grownBy.refl _ _
  | v :: r, o, w => by rw [World.setCells]; exact grown_trans (grown_setCell w g o v) (grown_setCells15 g r (o + 1) _)

theorem mul64_c (n : Nat) (h1 : 1 ≤ n) (h6 : n ≤ 6) (w : World) : Calls Try.prog 81 #[.int .u64 1, .int .u64 n] w fun e w' => e = .returned (.tuple #[.int .u64 0, .int .u64 n]) ∧ w' = w := by
  have hn : n = 1 ∨ n = 2 ∨ n = 3 ∨ n = 4 ∨ n = 5 ∨ n = 6 := by omega
  rcases hn with rfl | rfl | rfl | rfl | rfl | rfl
  · go_enter Try.func81, Try.ntmps81
    go_wp2
    refine bodyPost_ret (v := .tuple #[.int .u64 0, .int .u64 1]) (by simp [results, Try.results81, go_sem]; try rfl) rfl ?_
    exact ⟨rfl, rfl⟩
  · go_enter Try.func81, Try.ntmps81
    go_wp2
    refine bodyPost_ret (v := .tuple #[.int .u64 0, .int .u64 2]) (by simp [results, Try.results81, go_sem]; try rfl) rfl ?_
    exact ⟨rfl, rfl⟩
  · go_enter Try.func81, Try.ntmps81
    go_wp2
    refine bodyPost_ret (v := .tuple #[.int .u64 0, .int .u64 3]) (by simp [results, Try.results81, go_sem]; try rfl) rfl ?_
    exact ⟨rfl, rfl⟩
  · go_enter Try.func81, Try.ntmps81
    go_wp2
    refine bodyPost_ret (v := .tuple #[.int .u64 0, .int .u64 4]) (by simp [results, Try.results81, go_sem]; try rfl) rfl ?_
    exact ⟨rfl, rfl⟩
  · go_enter Try.func81, Try.ntmps81
    go_wp2
    refine bodyPost_ret (v := .tuple #[.int .u64 0, .int .u64 5]) (by simp [results, Try.results81, go_sem]; try rfl) rfl ?_
    exact ⟨rfl, rfl⟩
  · go_enter Try.func81, Try.ntmps81
    go_wp2
    refine bodyPost_ret (v := .tuple #[.int .u64 0, .int .u64 6]) (by simp [results, Try.results81, go_sem]; try rfl) rfl ?_
    exact ⟨rfl, rfl⟩

theorem bMul_c (n : Nat) (h1 : 1 ≤ n) (h6 : n ≤ 6) (w : World) : Calls Try.prog 77 #[.int .u64 1, .int .u64 n] w fun e w' => e = .returned (.tuple #[.int .u64 0, .int .u64 n]) ∧ w' = w := by
  have q := mul64_c n h1 h6 w
  go_enter Try.func77, Try.ntmps77
  go_wp2_with fail
  refine q.mono ?_
  rintro e w' ⟨rfl, hw⟩
  subst hw
  go_wp2
  refine bodyPost_ret (v := .tuple #[.int .u64 0, .int .u64 n]) (by simp [results, Try.results77, go_sem]; try rfl) rfl ?_
  exact ⟨rfl, rfl⟩

/-- The first m of n numbers are -1. -/
def Neg (n m : Nat) (ys : List Int) : Prop := ys.length = n ∧ ∀ j, j < m → ys.getD j 0 = -1

theorem overV_cellsI (ys l : List Int) (o : Nat) : overV (cellsI ys) o (cellsI l) = cellsI (ys.take o ++ (l ++ ys.drop (o + l.length))) := by
  unfold overV cellsI
  simp [List.map_take, List.map_drop]

theorem neg_over {n m k : Nat} {ys : List Int} (h : Neg n m ys) (hk : k = min m (n - m)) (hm : m ≤ n) : Neg n (m + k) (ys.take m ++ (List.replicate k (-1) ++ ys.drop (m + (List.replicate k (-1 : Int)).length))) := by
  obtain ⟨hl, hj⟩ := h
  have htl : (ys.take m).length = m := by rw [List.length_take]; omega
  refine ⟨by simp; omega, fun j hjm => ?_⟩
  by_cases h1 : j < m
  · rw [List.getD_eq_getElem?_getD, List.getElem?_append_left (by omega), List.getElem?_take, if_pos h1, ← List.getD_eq_getElem?_getD]
    exact hj j h1
  · rw [List.getD_eq_getElem?_getD, List.getElem?_append_right (by omega), htl, List.getElem?_append_left (by simp; omega), List.getElem?_replicate, if_pos (by omega)]
    rfl

theorem neg_one (n : Nat) (h1 : 1 ≤ n) : Neg n 1 ((List.replicate n 0).take 0 ++ ([-1] ++ (List.replicate n 0).drop (0 + [(-1 : Int)].length))) := by
  refine ⟨by simp; omega, fun j hj => ?_⟩
  have e : j = 0 := by omega
  subst e
  simp

set_option maxHeartbeats 4000000 in
theorem repeat_c (lo : Option Addr) (n : Nat) (w : World) (h1 : 1 ≤ n) (h6 : n ≤ 6) (hr : Rd w lo [-1]) :
    Calls Try.prog 68 #[.slice lo 1 1, .int .i64 n] w fun e w' => ∃ g, e = .returned (.slice (some ⟨g, 0, none⟩) n n) ∧ Own w' w.heap.size (.slice (some ⟨g, 0, none⟩) n n) (List.replicate n (-1)) ∧ Below w.heap.size w w' := by
  have mixed : Try.prog.follows .mixedOrders = true := by kernel_rfl
  obtain ⟨i0, hi, hz0, hz1, hz2⟩ := info_parts Try.infoInt
  have hsz : (Try.prog.info? 3).map (·.size) = some 1 := by rw [hi]; simp [hz1]
  obtain ⟨lb, lof, rfl, hlc⟩ : ∃ b o, lo = some ⟨b, o, none⟩ ∧ w.cell? ⟨b, o, none⟩ = some (.int .i64 (-1)) := by
    obtain ⟨b, o, e, hc⟩ := hr.get (k := 0) (by simp)
    exact ⟨b, o, e, by simpa using hc⟩
  have q := bMul_c n h1 h6 w
  have hn0 : ¬ (n : Int) < 0 := by omega
  have hn1 : ¬ (9223372036854775807 : Int) < (n : Int) := by omega
  clear hr
  go_enter Try.func68, Try.ntmps68
  go_wp2_with fail
  refine q.mono ?_
  clear q
  rintro e w1 ⟨rfl, hw⟩
  have hw2 := hw.symm
  clear hw
  subst hw2
  go_wp2_with (
    at_make
    refine wpList_make_full _ rfl _ _ 24 rfl w.heap.size 3 i0 (.int .i64 0) 1 Try.underlying24 hi hz0 hz1 _ _ _ _ n rfl rfl rfl rfl (by rw [hz2]; omega) (by unfold maxLen; omega) (Nat.le_refl _) ?_
    intro w2 hown0 hgrow0
    have hb2 : Below w.heap.size w w2 := (Below.refl _ _).grown hgrow0 (Nat.le_refl _) (fun k h => by cases h)
    have hO : w2.ownsRow w.heap.size 3 1 (.slice (some ⟨w.heap.size, 0, none⟩) n n) n (cellsI (List.replicate n 0)) := by
      have e : (madeCells (Value.int .i64 0).cells (n * 1)).toList = cellsI (List.replicate n 0) := by
        rw [Nat.mul_one]
        exact (toList_madeCells_one _ _).trans (by simp [cellsI])
      rw [← e]; exact hown0
    have hcp : ∀ ty, (Builtin.copy_ #[24, 24] ty #[.slice (some ⟨w.heap.size, 0, none⟩) n n, .slice (some ⟨lb, lof, none⟩) 1 1]).run Try.prog w2 = .ok (goInt 1) (w2.setCells w.heap.size 0 [.int .i64 (-1)]) := fun ty =>
      run_copy_cells w2 _ _ ty 3 w.heap.size 0 n n ⟨lb, lof, none⟩ 1 1 [.int .i64 (-1)] Try.underlying24 hsz (by simp only [List.length_singleton, Nat.min_def]; split <;> omega)
        (fun j v hj => by
          cases j with
          | zero => simp at hj; subst hj; rw [Go.WideShapes.add_plain]; exact cell_keep (S := 0) hb2 hlc
          | succ j => simp at hj)
        (fun j hj => by
          rw [List.length_singleton] at hj
          rw [World.ownsRow.cellAt hO (0 + j) (by omega), List.getElem?_eq_getElem (by rw [cellsI_length]; simp; omega)]; rfl) (fun j hj => World.ownsRow.frozenAt hO _) (by simp [Value.oneCell'])
    have hO3 := own_setCells [.int .i64 (-1)] 0 hO (by rw [cellsI_length]; simp; omega)
    rw [show [Value.int .i64 (-1)] = cellsI [-1] from rfl, overV_cellsI] at hO3
    have hN3 := neg_one n h1
    have hg3 : w2.grownBy (w2.setCells w.heap.size 0 (cellsI [-1])) (some w.heap.size) := grown_setCells15 _ _ _ _
    rw [show [Value.int .i64 (-1)] = cellsI [-1] from rfl] at hcp
    have hb3 : Below w.heap.size w (w2.setCells w.heap.size 0 (cellsI [-1])) := hb2.grown hg3 hb2.size (fun k h => by cases h; exact Nat.le_refl _)
    obtain ⟨W3, hW3⟩ : ∃ X, w2.setCells w.heap.size 0 (cellsI [-1]) = X := ⟨_, rfl⟩
    rw [hW3] at hcp hO3 hb3
    have HO3 : Hid (∃ ys, Neg n 1 ys ∧ W3.ownsRow w.heap.size 3 1 (.slice (some ⟨w.heap.size, 0, none⟩) n n) n (cellsI ys)) := ⟨_, hN3, hO3⟩
    have HB3 : Hid (Below w.heap.size w W3) := hb3
    clear hO hO3 hN3 hg3 hb3 hb2 hown0 hgrow0 hW3 hlc)
  go_wp2_with (at_builtin; refine wpList_copy_run8 _ rfl _ _ 24 24 rfl _ _ rfl rfl (hcp _) ?_; clear hcp)
  go_loopw [8] (fun mv wr => ∃ m : Nat, mv = .int .i64 m ∧ 1 ≤ m ∧ m ≤ n ∧ Hid (∃ ys, Neg n m ys ∧ wr.ownsRow w.heap.size 3 1 (.slice (some ⟨w.heap.size, 0, none⟩) n n) n (cellsI ys)) ∧ Hid (Below w.heap.size w wr)) (fun mv _ => n - (intOf mv).toNat)
  case atStart => exact ⟨1, rfl, Nat.le_refl _, h1, HO3, HB3⟩
  case round =>
    clear HO3 HB3
    obtain ⟨m, rfl, hm1, hmn, HO, HB⟩ := hrel
    by_cases hlt : m < n
    case neg =>
      obtain rfl : m = n := by omega
      have HE : Hid (Own wr w.heap.size (.slice (some ⟨w.heap.size, 0, none⟩) m m) (List.replicate m (-1))) := by
        obtain ⟨ys, ⟨hl, hj⟩, ho⟩ := HO.out
        have e : ys = List.replicate m (-1) := ext_getD (by rw [hl]; simp) (fun i hi => by rw [hj i (by omega)]; simp [List.getD, show i < m by omega])
        rw [e] at ho
        show Own _ _ _ _
        unfold Own
        rw [List.length_replicate]
        exact ho
      go_wp2
      go_ret
      exact ⟨_, rfl, HE.out, HB.out⟩
    obtain ⟨ys, hN, hO⟩ := HO.out
    have ltz : (m : Int) < (n : Int) := by omega
    have m0 : (0 : Int) ≤ (m : Int) := by omega
    have mle : (m : Int) ≤ (n : Int) := by omega
    obtain ⟨k, hk⟩ : ∃ k, k = min m (n - m) := ⟨_, rfl⟩
    have hk1 : 1 ≤ k := by omega
    have hkc : (cellsI (List.replicate k (-1))).length = k := by rw [cellsI_length]; simp
    have hcp : ∀ ty dc sc, (Builtin.copy_ #[24, 24] ty #[.slice (some ⟨w.heap.size, m, none⟩) (n - m) dc, .slice (some ⟨w.heap.size, 0, none⟩) m sc]).run Try.prog wr.drew = .ok (goInt (cellsI (List.replicate k (-1))).length) (wr.drew.setCells w.heap.size m (cellsI (List.replicate k (-1)))) := fun ty dc sc =>
      run_copy_cells wr.drew _ _ ty 3 w.heap.size m (n - m) dc ⟨w.heap.size, 0, none⟩ m sc _ Try.underlying24 hsz (by rw [hkc, hk])
        (fun j v hj => by
          have hjk : j < k := by have := (List.getElem?_eq_some_iff.1 hj).1; rw [hkc] at this; exact this
          have hv : v = .int .i64 (-1) := by
            simp [cellsI, List.getElem?_replicate, hjk] at hj
            exact hj.symm
          rw [Go.WideShapes.add_plain, Nat.zero_add]
          have hc := World.ownsRow.cellAt hO j (by omega)
          have hys := hN.2 j (by omega)
          have hjl : j < ys.length := by rw [hN.1]; omega
          show wr.cell? _ = _
          rw [hc, getD_map_int ys j hjl, hys, hv])
        (fun j hj => by
          rw [hkc] at hj
          show (wr.cell? _).isSome = true
          rw [World.ownsRow.cellAt hO (m + j) (by omega), List.getElem?_eq_getElem (by rw [cellsI_length, hN.1]; omega)]
          try rfl)
        (fun j hj => World.ownsRow.frozenAt hO _) (fun v hv => cellsI_oneCell _ v hv)
    have hO2 : wr.drew.ownsRow w.heap.size 3 1 (.slice (some ⟨w.heap.size, 0, none⟩) n n) n (cellsI ys) := hO
    have hO3 := own_setCells (cellsI (List.replicate k (-1))) m hO2 (by rw [hkc, cellsI_length, hN.1]; omega)
    rw [overV_cellsI] at hO3
    have hN3 := neg_over hN hk hmn
    have hg3 : wr.drew.grownBy (wr.drew.setCells w.heap.size m (cellsI (List.replicate k (-1)))) (some w.heap.size) := grown_setCells15 _ _ _ _
    have hb3 : Below w.heap.size w (wr.drew.setCells w.heap.size m (cellsI (List.replicate k (-1)))) := (HB.out.drew).grown hg3 HB.out.size (fun q h => by cases h; exact Nat.le_refl _)
    rw [hkc] at hcp
    have hcq : ∀ ty dc sc, (Builtin.copy_ #[24, 24] ty #[.slice (some ⟨w.heap.size, m, none⟩) (n - m) dc, .slice (some ⟨w.heap.size, 0, none⟩) m sc]).run Try.prog wr.drew = .ok (.int .i64 (k : Int)) (wr.drew.setCells w.heap.size m (cellsI (List.replicate k (-1)))) := hcp
    clear hcp
    obtain ⟨W3, hW3⟩ : ∃ X, wr.drew.setCells w.heap.size m (cellsI (List.replicate k (-1))) = X := ⟨_, rfl⟩
    rw [hW3] at hcq hO3 hb3
    have HO3 : Hid (∃ ys, Neg n (m + k) ys ∧ W3.ownsRow w.heap.size 3 1 (.slice (some ⟨w.heap.size, 0, none⟩) n n) n (cellsI ys)) := ⟨_, hN3, hO3⟩
    have HB3 : Hid (Below w.heap.size w W3) := hb3
    have HMK : Hid (m + k ≤ n ∧ 1 ≤ k) := ⟨by omega, hk1⟩
    have hnm : ¬ n = m := by omega
    have hm00 : ¬ m = 0 := by omega
    clear hO hO2 hO3 hN hN3 hg3 hb3 hW3 hkc hk HO HB
    go_wp2_with fail
    refine wp_region_held_drew (S := (fun _ => True)) (by kernel_rfl) ?_ (fun hHeld => ?_)
    · trivial
    refine takeSO15 (i := 0) (oi := _) (v := ?_) (d := some 38) rfl (by kernel_rfl) (by kernel_rfl) (by kernel_rfl) (by kernel_rfl) (fun _ _ _ h => h) (Or.inl ⟨by rfl, ?_⟩) (by assumption) ?_
    rotate_left
    · (intro w hSw; (try dsimp only at hSw); go_simp <;> with_reducible rfl)
    try simp only [Act.put, List.setIfInBounds_toArray, List.set_cons_zero, List.set_cons_succ]
    refine takeSO15 (i := 1) (oi := _) (v := ?_) (d := some 39) rfl (by kernel_rfl) (by kernel_rfl) (by kernel_rfl) (by kernel_rfl) (fun _ _ _ h => h) (Or.inl ⟨by rfl, ?_⟩) (by assumption) ?_
    rotate_left
    · (intro w hSw; (try dsimp only at hSw); go_simp <;> with_reducible rfl)
    try simp only [Act.put, List.setIfInBounds_toArray, List.set_cons_zero, List.set_cons_succ]
    refine takeSO15 (i := 2) (oi := _) (v := ?_) (d := some 40) rfl (by kernel_rfl) (by kernel_rfl) (by kernel_rfl) (by kernel_rfl) (fun _ _ _ h => h) (Or.inl ⟨by rfl, ?_⟩) (by assumption) ?_
    rotate_left
    · (intro w hSw; (try dsimp only at hSw); go_simp <;> with_reducible rfl)
    try simp only [Act.put, List.setIfInBounds_toArray, List.set_cons_zero, List.set_cons_succ]
    refine takeSO15 (i := 3) (oi := _) (v := ?_) (d := some 41) rfl (by kernel_rfl) (by kernel_rfl) (by kernel_rfl) (by kernel_rfl) (fun _ _ _ h => h) (Or.inl ⟨by rfl, ?_⟩) (by assumption) ?_
    rotate_left
    · (intro w hSw; (try dsimp only at hSw); go_simp <;> with_reducible rfl)
    try simp only [Act.put, List.setIfInBounds_toArray, List.set_cons_zero, List.set_cons_succ]
    refine takeSO15 (i := 4) (oi := _) (v := ?_) (d := some 42) rfl (by kernel_rfl) (by kernel_rfl) (by kernel_rfl) (by kernel_rfl) (fun _ _ _ h => h) (Or.inl ⟨by rfl, ?_⟩) (by assumption) ?_
    rotate_left
    · (intro w hSw; (try dsimp only at hSw); go_simp <;> with_reducible rfl)
    try simp only [Act.put, List.setIfInBounds_toArray, List.set_cons_zero, List.set_cons_succ]
    refine takeSO15 (i := 5) (oi := _) (v := ?_) (d := some 43) rfl (by kernel_rfl) (by kernel_rfl) (by kernel_rfl) (by kernel_rfl) (fun _ _ _ h => h) (Or.inl ⟨by rfl, ?_⟩) (by assumption) ?_
    rotate_left
    · (intro w hSw; (try dsimp only at hSw); go_simp <;> with_reducible rfl)
    try simp only [Act.put, List.setIfInBounds_toArray, List.set_cons_zero, List.set_cons_succ]
    refine takeSO15 (i := 6) (oi := _) (v := ?_) (d := some 44) rfl (by kernel_rfl) (by kernel_rfl) (by kernel_rfl) (by kernel_rfl) (fun _ _ _ h => h) (Or.inl ⟨by rfl, ?_⟩) (by assumption) ?_
    rotate_left
    · (intro w hSw; (try dsimp only at hSw); go_simp <;> with_reducible rfl)
    try simp only [Act.put, List.setIfInBounds_toArray, List.set_cons_zero, List.set_cons_succ]
    refine wpAnyH_ready (rs := [7]) (by kernel_rfl) (by simp) ?_
    refine AllReadyH.cons (o := _) rfl (fun K hK => ?_) AllReadyH.nil
    rw [if_pos (by rfl)]
    refine wp_copy_run8 _ _ _ _ _ rfl (.slice (some ⟨w.heap.size, m, none⟩) (n - m) (n - m)) (.slice (some ⟨w.heap.size, 0, none⟩) m n) (by rfl) (by rfl) (hcq _ _ _) ?_
    clear hcq
    refine hK.out _ _ ?_ (fun hHeld => ?_)
    · trivial
    clear hK K
    try simp only [Act.put, List.setIfInBounds_toArray, List.set_cons_zero, List.set_cons_succ]
    simp only [List.getElem_toArray, List.getElem_cons_succ, List.getElem_cons_zero, Act.put, List.setIfInBounds_toArray, List.set_cons_zero, List.set_cons_succ]
    refine takeSO15 (i := 8) (oi := _) (v := ?_) (d := some 46) rfl (by kernel_rfl) (by kernel_rfl) (by kernel_rfl) (by kernel_rfl) (fun _ _ _ h => h) (Or.inl ⟨by rfl, ?_⟩) (by assumption) ?_
    rotate_left
    · (intro w hSw; (try dsimp only at hSw); go_simp <;> with_reducible rfl)
    try simp only [Act.put, List.setIfInBounds_toArray, List.set_cons_zero, List.set_cons_succ]
    refine takeSO15 (i := 9) (oi := _) (v := ?_) (d := some 8) rfl (by kernel_rfl) (by kernel_rfl) (by kernel_rfl) (by kernel_rfl) (fun _ _ _ h => h) (Or.inl ⟨by rfl, ?_⟩) (by assumption) ?_
    rotate_left
    · (intro w hSw; (try dsimp only at hSw); go_simp <;> with_reducible rfl)
    try simp only [Act.put, List.setIfInBounds_toArray, List.set_cons_zero, List.set_cons_succ]
    refine wpAnyH_done (by kernel_rfl) ?_ _
    clear hHeld
    go_wp2
    go_roundw
    case rel => exact ⟨m + k, by rw [show IntKind.i64.wrap ((m : Int) + (k : Int)) = ((m + k : Nat) : Int) by rw [IntKind.wrap_i64]; have := HMK.out; omega], by omega, HMK.out.1, HO3, HB3⟩
    case measure => have := HMK.out; have hw : IntKind.i64.wrap ((m : Int) + (k : Int)) = (m : Int) + (k : Int) := by rw [IntKind.wrap_i64]; omega
                    rw [hw]; simp only [intOf]; omega

end Go.Proofs.Ytbjpkklonjlmiaa
