/- Chapter 8: the library's insert; sets with one more. -/
import Derived.Test.YtjpegbodhpnflaaDoorH16
import Derived.Deep.RegionLaw
namespace Go.Proofs.YtjpegbodhpnflaaDoor
set_option linter.unusedVariables false
set_option maxRecDepth 1000000
set_option linter.unusedSimpArgs false
open Go.RowKit

theorem append_mixed {P : Program} (w : World) (t u ty e : TypeId) (ht : P.underlying t = some (.slice e)) (hu : P.underlying u = some (.slice e)) (b : Option Addr) (n c : Nat) (v : Value) : (Builtin.append_ #[t, u] ty #[.slice b n c, v]).run P w = (Builtin.append_ #[t, t] ty #[.slice b n c, v]).run P w := by
  simp [Builtin.append_, run_underlying ht, run_underlying hu]

/-- THE OPERATION 'copy(d, s)', where its run is known by an equation. -/
theorem wp_copy_run8 {P : Program} (w : World) {o : Oper} {a : Act} {K : Act → World → Prop} {Q : Exit → Act → World → Prop} (d s : Operand) (t t' : TypeId)
    (ho : o.op = .call { callee := .builtin .copy, args := #[d, s], argTypes := #[t, t'] }) (v u : Value) (hd : a.eval d = v) (hs : a.eval s = u) {v' : Value} {w' : World}
    (hr : (Builtin.copy_ #[t, t'] o.type #[v, u]).run P w = .ok v' w') (h : K (a.put o.dst v') w') : o.wp P a w K Q := by
  unfold Oper.wp execOp
  simp only [ho, resolve, invoke, builtin, Sem.run_bind, Sem.run_pure, Result.andThen_ok, List.map_toArray, List.map_cons, List.map_nil, hd, hs, hr]
  exact h
theorem wpList_copy_run8 {P : Program} (w : World) {ops : Array Oper} {rest : List Oper} {o : Oper} {a : Act} {Q : Exit → Act → World → Prop} (hgd : o.guard = none) (d s : Operand) (t t' : TypeId)
    (ho : o.op = .call { callee := .builtin .copy, args := #[d, s], argTypes := #[t, t'] }) (v u : Value) (hd : a.eval d = v) (hs : a.eval s = u) {v' : Value} {w' : World}
    (hr : (Builtin.copy_ #[t, t'] o.type #[v, u]).run P w = .ok v' w') (h : wpList P ops Q rest (a.put o.dst v') w') : wpList P ops Q (o :: rest) a w :=
  wpList_plain hgd fun _ hK => wp_copy_run8 w d s t t' ho v u hd hs hr (hK _ _ h)
theorem step_copy_run8 {P : Program} {ops : Array Oper} {o : Oper} {a : Act} {w : World} {K : Act → World → Prop} {Q : Exit → Act → World → Prop} {E : Prop}
    (hg : o.guard = none) (d x : Operand) (dT sT : TypeId) (hop : o.op = Op.call { callee := Callee.builtin Builtin.copy, args := #[d, x], argTypes := #[dT, sT] })
    (v u : Value) (hd : a.eval d = v) (hx : a.eval x = u) {v' : Value} {w' : World} (hr : (Builtin.copy_ #[dT, sT] o.type #[v, u]).run P w = .ok v' w') (hK : K (a.put o.dst v') w') :
    if Region.wanted o (yielded ops a.tmps) = true then Oper.wp P o a w K Q else E := by
  have hw : Region.wanted o (yielded ops a.tmps) = true := by simp [Region.wanted, hg]
  rw [if_pos hw]
  unfold Oper.wp
  simp [execOp, hop, resolve, invoke, builtin, hd, hx, hr, Result.andThen]
  exact hK

/-- Cells written over others. -/
def overV (l : List Value) (o : Nat) (m : List Value) : List Value := l.take o ++ (m ++ l.drop (o + m.length))
theorem overV_mid (P r R m : List Value) (h : r.length = m.length) : overV (P ++ (r ++ R)) P.length m = P ++ (m ++ R) := by
  unfold overV
  rw [List.take_left, ← h, ← List.length_append, show P ++ (r ++ R) = (P ++ r) ++ R by simp, List.drop_left]
theorem overV_shift (A : List Value) (y X : Value) (i : Nat) (h : i ≤ A.length) : overV (overV (A ++ [y]) (i + 1) (A.drop i)) i [X] = A.take i ++ X :: A.drop i := by
  obtain ⟨P, hP⟩ : ∃ P, A.take i = P := ⟨_, rfl⟩
  obtain ⟨Q, hQ⟩ : ∃ Q, A.drop i = Q := ⟨_, rfl⟩
  have hA : A = P ++ Q := by rw [← hP, ← hQ, List.take_append_drop]
  have hl : P.length = i := by rw [← hP, List.length_take]; omega
  rw [hP, hQ, hA]
  obtain ⟨r, R, hr, hR⟩ : ∃ r R, Q ++ [y] = r :: R ∧ R.length = Q.length := by
    cases Q with
    | nil => exact ⟨y, [], rfl, rfl⟩
    | cons q Q' => exact ⟨q, Q' ++ [y], rfl, by simp⟩
  have e1 : overV (P ++ Q ++ [y]) (i + 1) Q = P ++ ([r] ++ Q) := by
    have := overV_mid (P ++ [r]) R [] Q hR
    rw [show (P ++ [r]).length = i + 1 by simp [hl], List.append_nil, List.append_nil] at this
    rw [List.append_assoc, hr, show P ++ r :: R = P ++ [r] ++ R by simp, this, List.append_assoc]
  rw [e1]
  have := overV_mid P [r] Q [X] rfl
  rw [hl] at this
  rw [this]; rfl
theorem overV_new (A Z : List Value) (X : Value) (i : Nat) (h : i ≤ A.length) (hZ : Z.length = A.length + 1 - i) : overV (overV (A.take i ++ Z) i [X]) (i + 1) (A.drop i) = A.take i ++ X :: A.drop i := by
  obtain ⟨P, hP⟩ : ∃ P, A.take i = P := ⟨_, rfl⟩
  obtain ⟨Q, hQ⟩ : ∃ Q, A.drop i = Q := ⟨_, rfl⟩
  have hl : P.length = i := by rw [← hP, List.length_take]; omega
  have hq : Q.length = A.length - i := by rw [← hQ, List.length_drop]
  rw [hP, hQ]
  obtain ⟨z, Z', rfl⟩ : ∃ z Z', Z = z :: Z' := by
    cases Z with
    | nil => simp at hZ; omega
    | cons z Z' => exact ⟨z, Z', rfl⟩
  have e1 := overV_mid P [z] Z' [X] rfl
  rw [hl] at e1
  rw [show P ++ z :: Z' = P ++ ([z] ++ Z') from rfl, e1]
  have := overV_mid (P ++ [X]) Z' [] Q (by simp at hZ; omega)
  rw [show (P ++ [X]).length = i + 1 by simp [hl], List.append_nil, List.append_nil] at this
  rw [show P ++ ([X] ++ Z') = P ++ [X] ++ Z' by simp, this]
  simp
theorem own_setCells {base : Nat} {e : TypeId} {g n cap : Nat} : ∀ (vs : List Value) (o : Nat) {w : World} {xs : List Value}, w.ownsRow base e 1 (.slice (some ⟨g, 0, none⟩) n cap) n xs → o + vs.length ≤ xs.length →
    (w.setCells g o vs).ownsRow base e 1 (.slice (some ⟨g, 0, none⟩) n cap) n (overV xs o vs)
  | [], o, w, xs, h, hl => by
    rw [show overV xs o [] = xs by simp [overV]]
    exact h
  | v :: r, o, w, xs, h, hl => by
    rw [World.setCells]
    have h1 := (World.ownsRow.stored h o v).1
    have h2 := own_setCells r (o + 1) h1 (by simp at hl ⊢; omega)
    have e : overV (xs.set o v) (o + 1) r = overV xs o (v :: r) := by
      simp only [List.length_cons] at hl
      have ho : o < xs.length := by omega
      unfold overV
      rw [List.take_set, List.drop_set_of_lt (by omega), List.take_succ_eq_append_getElem ho, List.set_append_right _ _ (by simp; omega)]
      rw [show (o - (xs.take o).length) = 0 by simp; omega]
      simp only [List.set_cons_zero, List.append_assoc, List.length_cons, List.cons_append, List.nil_append]
      rw [show o + 1 + r.length = o + (r.length + 1) by omega]
    rw [← e]
    exact h2
theorem grown_drew {w w' : World} {row : Option Nat} (h : w.drew.grownBy w' row) : w.grownBy w' row := ⟨h.os, h.tape, h.output, h.size, h.block⟩
theorem owns_drew {w : World} {base : Nat} {e : TypeId} {s n : Nat} {v : Value} {xs : List Value} (h : w.ownsRow base e s v n xs) : w.drew.ownsRow base e s v n xs := h

theorem over_shiftI (xs : List Int) (y : Value) (x : Int) (i : Nat) (h : i ≤ xs.length) : overV (overV (cellsI xs ++ [y]) (i + 1) ((cellsI xs).drop i)) i [.int .i64 x] = cellsI (xs.take i ++ x :: xs.drop i) := by
  rw [overV_shift _ y _ i (by rw [cellsI_length]; exact h)]
  simp [cellsI, List.map_take, List.map_drop]
theorem over_newI (xs : List Int) (Z : List Value) (x : Int) (i : Nat) (h : i ≤ xs.length) (hZ : Z.length = xs.length + 1 - i) : overV (overV ((cellsI xs).take i ++ Z) i [.int .i64 x]) (i + 1) ((cellsI xs).drop i) = cellsI (xs.take i ++ x :: xs.drop i) := by
  rw [overV_new _ Z _ i (by rw [cellsI_length]; exact h) (by rw [cellsI_length]; exact hZ)]
  simp [cellsI, List.map_take, List.map_drop]

set_option maxHeartbeats 8000000 in
theorem insertI_c (base : Nat) (ao : Option Addr) (n c i vb : Nat) (xs : List Int) (x : Int) (w : World) (hx : xs.length = n) (hn : n ≤ 1000) (hi : i ≤ n) (hb0 : base ≤ w.heap.size) (ho : Own w base (.slice ao n c) xs)
    (hv : w.cell? ⟨vb, 0, none⟩ = some (.int .i64 x)) (hvs : w.shape? vb = some (3, 1)) (hvf : ∀ j, w.frozen? ⟨vb, j, none⟩ = false) (hne : (Value.slice ao n c).ownBlock ≠ some vb) :
    Calls Tryd.prog 60 #[.slice ao n c, .int .i64 (i : Nat), .slice (some ⟨vb, 0, none⟩) 1 1] w fun e w' => ∃ a' c', e = .returned (.slice a' (n + 1) c') ∧ Own w' base (.slice a' (n + 1) c') (xs.take i ++ x :: xs.drop i) ∧ Below base w w' := by
  obtain ⟨i0, hi0, hz0, hz1, hz2⟩ := info_parts Tryd.infoInt
  have hmix := fun (wx : World) ty b n c v => append_mixed (P := Tryd.prog) wx 64 23 ty 3 Tryd.underlying64 Tryd.underlying23 b n c v
  have hnew : ∀ j u, [Value.int .i64 x][j]? = some u → w.cell? ((⟨vb, 0, none⟩ : Addr).add j) = some u := fun j u hj => by
    cases j with
    | zero => simp at hj; subst hj; rw [Go.WideShapes.add_plain]; exact hv
    | succ j => simp at hj
  have hone : ∀ u ∈ [Value.int .i64 x], u.oneCell' = true := fun u hu => by simp at hu; subst hu; rfl
  have hown : w.ownsRow base 3 1 (.slice ao n c) n (cellsI xs) := by have h := ho; unfold Own at h; rw [hx] at h; exact h
  have hlt0 : ∀ k, (Value.slice ao n c).ownBlock = some k → base ≤ k := fun k e => (World.ownsRow.lt hown k e).1
  by_cases hin : i = n
  · subst hin
    obtain ⟨v', w', hrun, hown', hgrow, _⟩ := run_append_own (P := Tryd.prog) w base 64 64 3 i0 (.int .i64 0) 1 8 Tryd.underlying64 hi0 hz0 hz1 hz2 rfl (by decide) (.slice ao i c) i (cellsI xs) hown ⟨vb, 0, none⟩ 1 1 [.int .i64 x] rfl hnew hone (by unfold maxLen; omega) (by omega) hb0
    have hrun2 : ∀ ty, (Builtin.append_ #[64, 23] ty #[.slice ao i c, .slice (some ⟨vb, 0, none⟩) 1 1]).run Tryd.prog w = .ok v' w' := fun ty => by rw [hmix]; exact hrun
    have HO : Hid (Own w' base v' (xs.take i ++ x :: xs.drop i)) := by
      show Own _ _ _ _
      rw [List.take_of_length_le (by omega), List.drop_of_length_le (by omega)]
      unfold Own
      rw [show (xs ++ [x]).length = i + 1 by simp [hx]]
      simpa [cellsI] using hown'
    have HB : Hid (Below base w w') := (Below.refl _ _).grown hgrow hb0 hlt0
    have HX : Hid (xs.length = i) := hx
    have hnl : ∀ a, ao = some a → True := fun _ _ => trivial
    clear hx ho hv hvs hvf hne hnew hone hown hlt0 hmix hrun hgrow hown'
    cases ao with
    | none =>
      obtain ⟨a3, c3, hv3⟩ := HO.out.shape
      rw [show (xs.take i ++ x :: xs.drop i).length = i + 1 by simp; have := HX.out; omega] at hv3
      subst hv3
      go_enter Tryd.func60, Tryd.ntmps60
      go_wp2_with (at_builtin; refine Lib.wpList_append_run _ rfl _ _ _ _ rfl _ _ rfl rfl _ _ (hrun2 _) ?_)
      go_ret
      exact ⟨a3, c3, rfl, HO.out, HB.out⟩
    | some a =>
      obtain ⟨ab, aoff, asp⟩ := a
      obtain ⟨a3, c3, hv3⟩ := HO.out.shape
      rw [show (xs.take i ++ x :: xs.drop i).length = i + 1 by simp; have := HX.out; omega] at hv3
      subst hv3
      go_enter Tryd.func60, Tryd.ntmps60
      go_wp2_with (at_builtin; refine Lib.wpList_append_run _ rfl _ _ _ _ rfl _ _ rfl rfl _ _ (hrun2 _) ?_)
      all_goals (go_ret; exact ⟨a3, c3, rfl, HO.out, HB.out⟩)
  · have hilt : i < n := by omega
    rcases hown.2 with ⟨_, h0⟩ | ⟨g, cap, cur, hvv, hbg, hg, hnc, hcm, hcs, htake⟩
    · omega
    simp only [Value.slice.injEq, true_and] at hvv
    obtain ⟨rfl, rfl⟩ := hvv
    have hvg : vb ≠ g := fun e => hne (by simp [Value.ownBlock, e])
    have hz1' : ¬ ((i : Int) = (n : Int)) := by omega
    have hsz : (Tryd.prog.info? 3).map (·.size) = some 1 := by rw [hi0]; simp [hz1]
    have hglt := (Array.getElem?_eq_some_iff.1 hg).1
    have hdl : ((cellsI xs).drop i).length = n - i := by rw [List.length_drop, cellsI_length, hx]
    have hcell : ∀ j u, (cellsI xs)[j]? = some u → w.cell? ⟨g, j, none⟩ = some u := fun j u hj => by
      have hjl : j < n := by have := (List.getElem?_eq_some_iff.1 hj).1; rw [cellsI_length, hx] at this; exact this
      rw [World.ownsRow.cellAt hown j (by omega)]; exact hj
    have hw1 : IntKind.i64.wrap ((i : Int) + 1) = (i : Int) + 1 := by rw [IntKind.wrap_i64]; omega
    have hb1 : (0 : Int) ≤ (i : Int) + 1 := by omega
    have hin' : i ≤ n := by omega
    have htn : ((i : Int) + 1).toNat = i + 1 := by omega
    have hb3 : (i : Int) ≤ (n : Int) := by omega
    by_cases hroom : n + 1 ≤ c
    · -- there is room
      have hwide : w.ownsRow base 3 1 (.slice (some ⟨g, 0, none⟩) (n + 1) c) (n + 1) (cellsI xs ++ [cur[n]'(by omega)]) := by
        refine ⟨by simp [cellsI_length, hx], .inr ⟨g, c, cur, rfl, hbg, hg, hroom, hcm, hcs, ?_⟩⟩
        rw [Nat.mul_one] at htake ⊢
        rw [List.take_succ_eq_append_getElem (by simp; omega), htake, Array.getElem_toList]
      have hov : ∀ lb cb, (callFunc 73 #[.slice (some ⟨vb, 0, none⟩) 1 1, .slice (some ⟨g, 0 + (i + 1), none⟩) lb cb]).run Tryd.prog w = .ok (.value (.bool false)) w := fun lb cb => by
        rw [run_callFunc_extern Tryd.func73 (by kernel_rfl) (by kernel_rfl) (by kernel_rfl) (e := Extern.SlicesOverlaps.overlaps #[23, 23] #[4]) (by kernel_rfl),
          Lib.run_overlaps_apart (P := Tryd.prog) w 23 4 3 Tryd.underlying23 1 (fun w => by kernel_rfl) ⟨vb, 0, none⟩ ⟨g, 0 + (i + 1), none⟩ 1 1 lb cb hvg 3 3 1 cur.size hvs (by unfold World.shape?; rw [hg]) (by omega) (hvf 0) (hvf 1)]
        rfl
      rw [Nat.zero_add] at hov
      have hfz : ∀ j, w.frozen? ⟨g, j, none⟩ = false := fun j => World.ownsRow.frozenAt hown j
      have hsome : ∀ j, j < n + 1 → (w.cell? ⟨g, j, none⟩).isSome = true := fun j hj => by
        rw [World.ownsRow.cellAt hwide j (by omega), List.getElem?_eq_getElem (by simp [cellsI_length, hx]; omega)]; rfl
      have hcp1 : ∀ ty dc sc, (Builtin.copy_ #[64, 64] ty #[.slice (some ⟨g, i + 1, none⟩) (n - i) dc, .slice (some ⟨g, i, none⟩) (n + 1 - i) sc]).run Tryd.prog w.drew = .ok (goInt ((cellsI xs).drop i).length) (w.drew.setCells g (i + 1) ((cellsI xs).drop i)) := fun ty dc sc =>
        run_copy_cells w.drew _ _ ty 3 g (i + 1) (n - i) dc ⟨g, i, none⟩ (n + 1 - i) sc _ Tryd.underlying64 hsz (by rw [hdl]; simp only [Nat.min_def]; split <;> omega)
          (fun j v hj => by rw [Addr.add_lit]; exact hcell (i + j) v (by rwa [List.getElem?_drop] at hj))
          (fun j hj => hsome _ (by omega)) (fun j hj => hfz _) (fun v hv => cellsI_oneCell _ v (List.mem_of_mem_drop hv))
      have hw1o := own_setCells ((cellsI xs).drop i) (i + 1) (owns_drew hwide) (by rw [hdl]; simp [cellsI_length, hx]; omega)
      have hgr1 : w.grownBy (w.drew.setCells g (i + 1) ((cellsI xs).drop i)) (some g) := grown_drew (grown_setCells _ _ _ _)
      have hvW : (w.drew.setCells g (i + 1) ((cellsI xs).drop i)).cell? ⟨vb, 0, none⟩ = some (.int .i64 x) := hgr1.cell hv (by simp; exact hvg)
      obtain ⟨W1, hW1⟩ : ∃ W1, W1 = w.drew.setCells g (i + 1) ((cellsI xs).drop i) := ⟨_, rfl⟩
      rw [← hW1] at hcp1 hw1o hgr1 hvW
      have hcp2 : ∀ ty dc, (Builtin.copy_ #[64, 23] ty #[.slice (some ⟨g, i, none⟩) (n + 1 - i) dc, .slice (some ⟨vb, 0, none⟩) 1 1]).run Tryd.prog W1 = .ok (goInt 1) (W1.setCells g i [.int .i64 x]) := fun ty dc =>
        run_copy_cells W1 _ _ ty 3 g i (n + 1 - i) dc ⟨vb, 0, none⟩ 1 1 [.int .i64 x] Tryd.underlying64 hsz (by simp only [List.length_singleton, Nat.min_def]; split <;> omega)
          (fun j v hj => by
            cases j with
            | zero => simp at hj; subst hj; rw [Go.WideShapes.add_plain]; exact hvW
            | succ j => simp at hj)
          (fun j hj => by
            rw [List.length_singleton] at hj
            rw [World.ownsRow.cellAt hw1o (i + j) (by omega), List.getElem?_eq_getElem (by have := hw1o.1; omega)]; rfl) (fun j hj => World.ownsRow.frozenAt hw1o _) hone
      have hw2o := own_setCells [.int .i64 x] i hw1o (by have := hw1o.1; simp; omega)
      rw [over_shiftI xs _ x i (by omega)] at hw2o
      have HO : Hid (Own (W1.setCells g i [.int .i64 x]) base (.slice (some ⟨g, 0, none⟩) (n + 1) c) (xs.take i ++ x :: xs.drop i)) := by
        show Own _ _ _ _
        unfold Own
        rw [show (xs.take i ++ x :: xs.drop i).length = n + 1 by simp [hx]; omega]
        exact hw2o
      have HB : Hid (Below base w (W1.setCells g i [.int .i64 x])) := (below_grown hgr1 hbg hb0).trans (below_grown (grown_setCells _ _ _ _) hbg (Nat.le_trans hb0 hgr1.size))
      have hb2 : ¬ (c = i + 1) := by omega
      have hb4 : ¬ (c = i) := by omega
      have hb5 : (i : Int) ≤ (n : Int) + 1 := by omega
      have hnr : ¬ ((c : Int) < (n : Int) + 1) := by omega
      clear hW1 hw1o hw2o hgr1 hvW hwide hown ho hv hvs hvf hne hnew hone hlt0 hmix hcell hsome hfz hdl hx
      go_enter Tryd.func60, Tryd.ntmps60
      go_wp2_with (simp only [hov])
      go_region_law (refine step_copy_run8 rfl _ _ 64 64 rfl (.slice (some ⟨g, i + 1, none⟩) (n - i) (c - (i + 1))) (.slice (some ⟨g, i, none⟩) (n + 1 - i) (c - i)) (by simp [Act.eval, Act.put, hb2, hb4]) (by simp [Act.eval, Act.put, hb2, hb4]) (hcp1 3 _ _) ?_)
      go_wp2_with (at_builtin; refine wpList_copy_run8 _ rfl _ _ 64 23 rfl _ _ rfl rfl (hcp2 _ _) ?_)
      go_ret
      exact ⟨_, _, rfl, HO.out, HB.out⟩
    · -- a new row
      have hroom' : c < n + 1 := by omega
      have hkk : (n : Int) + 1 - (i : Int) = ((n + 1 - i : Nat) : Int) := by omega
      have hik : i + (n + 1 - i) = n + 1 := by omega
      have hold : (Builtin.firstCells i0.size i (.slice (some ⟨g, 0, none⟩) i c)).run Tryd.prog w.drew = .ok ((cellsI xs).take i).toArray w.drew := by
        rw [hz1]
        exact run_firstCells_some w.drew 1 i ⟨g, 0, none⟩ i c ((cellsI xs).take i) (by rw [List.length_take, cellsI_length]; omega) (fun j v hj => by
          rw [Go.WideShapes.add_plain, Nat.zero_add]
          rw [List.getElem?_take] at hj
          split at hj
          · exact hcell j v hj
          · cases hj)
      obtain ⟨G, hG⟩ : ∃ G, G = grownCap w (n + 1) c 3 := ⟨_, rfl⟩
      have hGe : n + 1 ≤ G := by rw [hG]; exact grownCap_ge _ _ _ _
      have hGm : G ≤ maxLen := by rw [hG]; exact grownCap_le_maxLen w (n + 1) c 3 (by unfold maxLen; omega)
      obtain ⟨ROW, hROW⟩ : ∃ ROW : Array Value, ROW = ((cellsI xs).take i).toArray ++ Builtin.zeroCells (Value.int .i64 0).cells (n + 1 - i) ++ Builtin.zeroCells (Value.int .i64 0).cells (G - (n + 1)) := ⟨_, rfl⟩
      have hrz : ∀ ty, (Builtin.append_ #[64, 3] ty #[.slice (some ⟨g, 0, none⟩) i c, .int .i64 ((n : Int) + 1 - (i : Int))]).run Tryd.prog w = .ok (.slice (some ⟨w.heap.size, 0, none⟩) (n + 1) G) (w.drew.alloc (.cells ROW 3)) := fun ty => by
        have h := Lib.run_append_grow_zeros (P := Tryd.prog) w 64 3 ty 3 i0 (.int .i64 0) .i64 .i64 Tryd.underlying64 Tryd.underlying3 hi0 hz0 (some ⟨g, 0, none⟩) i c _ hold (n + 1 - i) (by omega) (by omega) (by omega) (by omega) (by rw [hz2]; omega) (by rw [hz2, hik]; exact growslice_fits hroom' (by omega))
        rw [hik] at h
        rw [hkk, hROW, hG]
        exact h
      obtain ⟨Z, hZ, hZl⟩ : ∃ Z : List Value, Z = (Builtin.zeroCells (Value.int .i64 0).cells (n + 1 - i)).toList ∧ Z.length = xs.length + 1 - i := ⟨_, rfl, by simp [Builtin.zeroCells, Value.cells]; omega⟩
      have hrow0 : (w.drew.alloc (.cells ROW 3)).ownsRow base 3 1 (.slice (some ⟨w.heap.size, 0, none⟩) (n + 1) G) (n + 1) ((cellsI xs).take i ++ Z) := by
        have hl1 : ((cellsI xs).take i ++ Z).length = (n + 1) * 1 := by rw [List.length_append, List.length_take, cellsI_length, hZl]; omega
        refine ⟨hl1, .inr ⟨w.heap.size, G, ROW, rfl, hb0, heap_alloc_new w.drew _, hGe, hGm, ?_, ?_⟩⟩
        · rw [hROW]
          simp only [Array.size_append, List.size_toArray, size_zeroCells, List.length_take, cellsI_length]
          simp [Value.cells]
          omega
        · rw [hROW, Array.toList_append, Array.toList_append, ← hZ, ← hl1]
          exact List.take_left
      have hrow0' : (w.alloc (.cells ROW 3)).drew.ownsRow base 3 1 (.slice (some ⟨w.heap.size, 0, none⟩) (n + 1) G) (n + 1) ((cellsI xs).take i ++ Z) := hrow0
      have hgr0 : w.grownBy (w.alloc (.cells ROW 3)).drew (some w.heap.size) := ⟨rfl, rfl, rfl, by simp, fun k hk _ => heap_alloc_old w _ hk⟩
      have hvlt := World.block_lt_of_cell? w _ hv
      obtain ⟨W1, hW1⟩ : ∃ W1, W1 = (w.alloc (.cells ROW 3)).drew := ⟨_, rfl⟩
      rw [← hW1] at hrow0' hgr0
      have hrow1 := own_setCells [.int .i64 x] i hrow0' (by have := hrow0'.1; simp only [List.length_singleton]; omega)
      have hgr1 : w.grownBy (W1.setCells w.heap.size i [.int .i64 x]).drew (some w.heap.size) := by
        have h := grown_trans hgr0 (grown_setCells w.heap.size [.int .i64 x] i W1)
        exact ⟨h.os, h.tape, h.output, h.size, h.block⟩
      obtain ⟨W2, hW2⟩ : ∃ W2, W2 = (W1.setCells w.heap.size i [.int .i64 x]).drew := ⟨_, rfl⟩
      have hrow1' : W2.ownsRow base 3 1 (.slice (some ⟨w.heap.size, 0, none⟩) (n + 1) G) (n + 1) (overV ((cellsI xs).take i ++ Z) i [.int .i64 x]) := by rw [hW2]; exact owns_drew hrow1
      rw [← hW2] at hgr1
      have hrow2 := own_setCells ((cellsI xs).drop i) (i + 1) hrow1' (by have := hrow1'.1; rw [hdl]; omega)
      have hgr2 := grown_trans hgr1 (grown_setCells w.heap.size ((cellsI xs).drop i) (i + 1) _)
      rw [over_newI xs Z x i (by omega) hZl] at hrow2
      have hcpA : ∀ ty dc, (Builtin.copy_ #[64, 23] ty #[.slice (some ⟨w.heap.size, i, none⟩) (n + 1 - i) dc, .slice (some ⟨vb, 0, none⟩) 1 1]).run Tryd.prog W1 = .ok (goInt 1) (W1.setCells w.heap.size i [.int .i64 x]) := fun ty dc =>
        run_copy_cells W1 _ _ ty 3 w.heap.size i (n + 1 - i) dc ⟨vb, 0, none⟩ 1 1 [.int .i64 x] Tryd.underlying64 hsz (by simp only [List.length_singleton, Nat.min_def]; split <;> omega)
          (fun j v hj => by
            cases j with
            | zero => simp at hj; subst hj; rw [Go.WideShapes.add_plain]; exact hgr0.cell hv (fun e => absurd (Option.some.inj e) (Nat.ne_of_lt hvlt))
            | succ j => simp at hj)
          (fun j hj => by
            rw [List.length_singleton] at hj
            rw [World.ownsRow.cellAt hrow0' (i + j) (by omega), List.getElem?_eq_getElem (by have := hrow0'.1; omega)]; rfl) (fun j hj => World.ownsRow.frozenAt hrow0' _) hone
      have hcpB : ∀ ty dc sc, (Builtin.copy_ #[64, 64] ty #[.slice (some ⟨w.heap.size, i + 1, none⟩) (n - i) dc, .slice (some ⟨g, i, none⟩) (n - i) sc]).run Tryd.prog W2 = .ok (goInt ((cellsI xs).drop i).length) (W2.setCells w.heap.size (i + 1) ((cellsI xs).drop i)) := fun ty dc sc =>
        run_copy_cells W2 _ _ ty 3 w.heap.size (i + 1) (n - i) dc ⟨g, i, none⟩ (n - i) sc _ Tryd.underlying64 hsz (by rw [hdl]; simp only [Nat.min_def]; split <;> omega)
          (fun j v hj => by
            rw [Addr.add_lit]
            exact hgr1.cell (hcell (i + j) v (by rwa [List.getElem?_drop] at hj)) (fun e => absurd (Option.some.inj e) (Nat.ne_of_lt hglt)))
          (fun j hj => by
            rw [hdl] at hj
            rw [World.ownsRow.cellAt hrow1' (i + 1 + j) (by omega), List.getElem?_eq_getElem (by have := hrow1'.1; omega)]; rfl) (fun j hj => World.ownsRow.frozenAt hrow1' _) (fun v hv => cellsI_oneCell _ v (List.mem_of_mem_drop hv))
      have HO : Hid (Own (W2.setCells w.heap.size (i + 1) ((cellsI xs).drop i)) base (.slice (some ⟨w.heap.size, 0, none⟩) (n + 1) G) (xs.take i ++ x :: xs.drop i)) := by
        show Own _ _ _ _
        unfold Own
        rw [show (xs.take i ++ x :: xs.drop i).length = n + 1 by simp [hx]; omega]
        exact hrow2
      have HB : Hid (Below base w (W2.setCells w.heap.size (i + 1) ((cellsI xs).drop i))) := below_grown hgr2 hb0 hb0
      subst hW2
      subst hW1
      have hb2 : ¬ (G = i + 1) := by omega
      have hb4 : ¬ (c = i) := by omega
      have hb6 : ¬ (G = i) := by omega
      have hz3 : (c : Int) < (n : Int) + 1 := by omega
      clear hkk hik hold hROW hG hrow0 hrow0' hrow1 hrow1' hrow2 hgr0 hgr1 hgr2 hown ho hv hvs hvf hne hnew hone hlt0 hmix hcell hdl hx hZ hZl
      go_enter Tryd.func60, Tryd.ntmps60
      go_wp2_with (first
        | (at_builtin; refine Lib.wpList_append_run _ rfl _ _ _ _ rfl _ _ rfl rfl _ _ (hrz _) ?_)
        | (at_builtin; refine wpList_copy_run8 _ rfl _ _ 64 23 rfl _ _ rfl rfl (hcpA _ _) ?_)
        | (at_builtin; refine wpList_copy_run8 _ rfl _ _ 64 64 rfl _ _ rfl rfl (hcpB _ _ _) ?_))
      go_region_law (refine step_copy_run8 rfl _ _ 64 64 rfl (.slice (some ⟨w.heap.size, i + 1, none⟩) (n - i) (G - (i + 1))) (.slice (some ⟨g, i, none⟩) (n - i) (c - i)) (by simp [Act.eval, Act.put, hb2, hb4]) (by simp [Act.eval, Act.put, hb2, hb4]) (hcpB 3 (G - (i + 1)) (c - i)) ?_)
      go_wp2
      go_ret
      exact ⟨_, _, rfl, HO.out, HB.out⟩

theorem over_shiftS (xs : List ByteArray) (y : Value) (x : ByteArray) (i : Nat) (h : i ≤ xs.length) : overV (overV (cellsS xs ++ [y]) (i + 1) ((cellsS xs).drop i)) i [.string x] = cellsS (xs.take i ++ x :: xs.drop i) := by
  rw [overV_shift _ y _ i (by rw [cellsS_length]; exact h)]
  simp [cellsS, List.map_take, List.map_drop]
theorem over_newS (xs : List ByteArray) (Z : List Value) (x : ByteArray) (i : Nat) (h : i ≤ xs.length) (hZ : Z.length = xs.length + 1 - i) : overV (overV ((cellsS xs).take i ++ Z) i [.string x]) (i + 1) ((cellsS xs).drop i) = cellsS (xs.take i ++ x :: xs.drop i) := by
  rw [overV_new _ Z _ i (by rw [cellsS_length]; exact h) (by rw [cellsS_length]; exact hZ)]
  simp [cellsS, List.map_take, List.map_drop]

theorem vlitI (W : World) (x : Int) : (W.alloc (.cells #[.int .i64 x] 3)).cell? ⟨W.heap.size, 0, none⟩ = some (.int .i64 x) ∧ (W.alloc (.cells #[.int .i64 x] 3)).shape? W.heap.size = some (3, 1) ∧ ∀ j, (W.alloc (.cells #[.int .i64 x] 3)).frozen? ⟨W.heap.size, j, none⟩ = false := by
  refine ⟨by simp, ?_, fun j => ?_⟩
  · unfold World.shape?; rw [heap_alloc_new]; rfl
  · rw [World.frozen?_alloc_mark]; simp

set_option maxHeartbeats 1000000 in
theorem withI_c (ao : Option Addr) (n c : Nat) (xs : List Int) (x : Int) (w : World) (hx : xs.length = n) (hn : n ≤ 1000) (hr : Rd w ao xs) (hnil : ao = none → n = 0 ∧ c = 0) (hR : Ris ltI xs) :
    Calls Tryd.prog 43 #[.slice ao n c, .int .i64 x] w fun e w' => ∃ a' c', e = .returned (.slice a' (n + 1) c') ∧ Own w' w.heap.size (.slice a' (n + 1) c') (insL ltI x xs) ∧ Below w.heap.size w w' := by
  have q1 := searchI_c ao n c xs x w hx (by omega) hr hR
  have HC : Hid (∀ wx, Below w.heap.size w wx → Calls Tryd.prog 61 #[.slice ao n c] wx fun e w' => ∃ a' c', e = .returned (.slice a' n c') ∧ Own w' wx.heap.size (.slice a' n c') xs ∧ Below wx.heap.size wx w') := fun wx hb => cloneRI_c ao n c xs wx hx (by omega) (hr.later hb) hnil
  have hP : posL ltI x xs ≤ n := by rw [← hx]; exact posL_le _ _
  have HI : Hid (xs.take (posL ltI x xs) ++ x :: xs.drop (posL ltI x xs) = insL ltI x xs) := rfl
  have HX : Hid (xs.length = n) := hx
  generalize decide (x ∈ xs) = zb at q1
  generalize insL ltI x xs = zs at HI ⊢
  generalize posL ltI x xs = P at q1 hP HI
  clear hx hr hR hnil
  go_enter Tryd.func43, Tryd.ntmps43
  go_wp2_with fail
  refine q1.mono ?_
  clear q1
  rintro e w1 ⟨rfl, hb1⟩
  have HB1 : Hid (Below w.heap.size w w1) := hb1
  clear hb1
  go_wp2_with fail
  refine (HC.out _ HB1.out).mono ?_
  rintro e w2 ⟨a2, c2, rfl, ho2, hb2⟩
  have HB2 : Hid (Below w.heap.size w w2) := HB1.out.trans (hb2.mono HB1.out.size)
  have HO2 : Hid (Own w2 w.heap.size (.slice a2 n c2) xs) := ho2.mono HB1.out.size
  clear ho2 hb2 HC
  have hv := vlitI w2 x
  have HQ : Hid (Calls Tryd.prog 60 #[.slice a2 n c2, .int .i64 (P : Nat), .slice (some ⟨w2.heap.size, 0, none⟩) 1 1] (w2.alloc (.cells #[.int .i64 x] 3)) fun e w' => ∃ a' c', e = .returned (.slice a' (n + 1) c') ∧ Own w' w.heap.size (.slice a' (n + 1) c') zs ∧ Below w.heap.size (w2.alloc (.cells #[.int .i64 x] 3)) w') := by
    show Calls _ _ _ _ _
    rw [← HI.out]
    exact insertI_c w.heap.size a2 n c2 P w2.heap.size xs x _ HX.out hn hP (by have := HB2.out.size; simp; omega) (HO2.out.later (balloc _ _)) hv.1 hv.2.1 hv.2.2 (fun e => by have := (World.ownsRow.lt HO2.out _ e).2; omega)
  clear hv
  go_wp2_with fail
  refine HQ.out.mono ?_
  clear HQ
  rintro e w3 ⟨a3, c3, rfl, ho3, hb3⟩
  have HO3 : Hid (Own w3 w.heap.size (.slice a3 (n + 1) c3) zs) := ho3
  have HB3 : Hid (Below w.heap.size w w3) := (HB2.out.alloc HB2.out.size _).trans hb3
  clear ho3 hb3
  go_wp2
  go_ret
  exact ⟨a3, c3, rfl, HO3.out, HB3.out⟩

theorem vlitS (W : World) (x : ByteArray) : (W.alloc (.cells #[.string x] 9)).cell? ⟨W.heap.size, 0, none⟩ = some (.string x) ∧ (W.alloc (.cells #[.string x] 9)).shape? W.heap.size = some (9, 1) ∧ ∀ j, (W.alloc (.cells #[.string x] 9)).frozen? ⟨W.heap.size, j, none⟩ = false := by
  refine ⟨by simp, ?_, fun j => ?_⟩
  · unfold World.shape?; rw [heap_alloc_new]; rfl
  · rw [World.frozen?_alloc_mark]; simp

end Go.Proofs.YtjpegbodhpnflaaDoor
