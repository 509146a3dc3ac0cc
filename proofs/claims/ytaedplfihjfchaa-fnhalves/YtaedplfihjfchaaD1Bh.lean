/- What chapter 1 draws: pairs of numbers of limbs. -/
import Derived.Test.YtaedplfihjfchaaD1h
import Derived.Test.YtaedplfihjfchaaBigOfh
import Derived.Laws.AppendOwnNone
import Derived.Deep.RegionHeld3
import Derived.Deep.DeepCutAuto
import Derived.Deep.Light
namespace Go.Proofs.Ytaedplfihjfchaa
set_option linter.unusedVariables false
set_option maxRecDepth 1000000
set_option linter.unusedSimpArgs false
open Go.RowKit

theorem append_nil_own {P : Program} {w : World} {o : Oper} {a : Act} {K : Act → World → Prop} {Q : Exit → Act → World → Prop} (s x : Operand) (t : TypeId)
    (ho : o.op = .call { callee := .builtin .append, args := #[s, x], argTypes := #[t, t] }) (base : Nat) (e : TypeId) (i : TypeInfo) (size : Nat) (ht : P.underlying t = some (.slice e)) (hi : P.info? e = some i)
    (v : Value) (n : Nat) (xs : List Value) (hs : a.eval s = v) (hown : w.ownsRow base e size v n xs) (hx : a.eval x = .slice none 0 0) (h : K (a.put o.dst v) w) : o.wp P a w K Q := by
  have hrun := run_append_owned_none (P := P) (w := w) base t o.type e i size ht hi v n xs hown
  unfold Oper.wp
  simp [execOp, ho, resolve, invoke, builtin, hs, hx, hrun, Result.andThen]
  exact h

/-- Two numbers of limbs are answered, each in rows of its own. -/
def Drawn2 (w : World) (e : Ending) (w' : World) : Prop := (∃ a1 q1 c1 xs a2 q2 c2 ys, e = .returned (.tuple #[.agg #[.slice a1 q1 c1], .agg #[.slice a2 q2 c2]]) ∧ q1 ≤ 7 ∧ q2 ≤ 7 ∧ xs.length = q1 ∧ ys.length = q2 ∧ Own w' w.heap.size (.slice a1 q1 c1) xs ∧ Own w' w.heap.size (.slice a2 q2 c2) ys) ∧ Below w.heap.size w w'

/-- Two boxes for the answers. -/
structure Two (w W : World) : Prop where
  c1 : W.cell? ⟨w.heap.size, 0, none⟩ = some (.slice none 0 0)
  f1 : W.frozen? ⟨w.heap.size, 0, none⟩ = false
  c2 : W.cell? ⟨w.heap.size + 1, 0, none⟩ = some (.slice none 0 0)
  f2 : W.frozen? ⟨w.heap.size + 1, 0, none⟩ = false
  size : w.heap.size + 2 ≤ W.heap.size
  below : Below w.heap.size w W

theorem two_new (w : World) : Two w ((w.alloc (Obj.cells #[Value.slice none 0 0] 25)).alloc (Obj.cells #[Value.slice none 0 0] 25)) :=
  ⟨calloc (cnew _ _ _), by simp, by simp, by simp, by simp, below_two _ _ _⟩

theorem Two.later {w W W' : World} (h : Two w W) (hb : Below W.heap.size W W') : Two w W' :=
  have hs := h.size
  ⟨by rw [hb.cell (p := ⟨w.heap.size, 0, none⟩) (by simp; omega)]; exact h.c1, by rw [hb.frozen (p := ⟨w.heap.size, 0, none⟩) (by simp; omega)]; exact h.f1, by rw [hb.cell (p := ⟨w.heap.size + 1, 0, none⟩) (by simp; omega)]; exact h.c2, by rw [hb.frozen (p := ⟨w.heap.size + 1, 0, none⟩) (by simp; omega)]; exact h.f2, Nat.le_trans h.size hb.size, h.below.trans (hb.mono h.below.size)⟩

theorem start_cur (ao : Option Addr) (n c : Nat) (w : World) (hn : n ≤ 9223372036854775807) (h : CodeOk w w.heap.size ao n) {W : World} (hW : ((w.alloc (Obj.cells #[Value.slice none 0 0] 25)).alloc (Obj.cells #[Value.slice none 0 0] 25)).alloc (Obj.cells #[Value.slice ao n c, Value.int IntKind.i64 0, Value.int IntKind.u64 0] 55) = W) : Cur W (w.heap.size + 1 + 1) ao n c 0 ∧ Two w W ∧ W.heap.size = w.heap.size + 1 + 1 + 1 := by
  have e0 : ((w.alloc (Obj.cells #[Value.slice none 0 0] 25)).alloc (Obj.cells #[Value.slice none 0 0] 25)).heap.size = w.heap.size + 1 + 1 := by simp
  refine ⟨?_, by rw [← hW]; exact (two_new w).later (balloc _ _), by rw [← hW]; simp⟩
  rw [← hW]
  have h1 := cur_new (c := c) 55 hn (h.later (g' := ((w.alloc (Obj.cells #[Value.slice none 0 0] 25)).alloc (Obj.cells #[Value.slice none 0 0] 25)).heap.size) (below_two w (Obj.cells #[Value.slice none 0 0] 25) (Obj.cells #[Value.slice none 0 0] 25)) (by rw [e0]; omega))
  rw [e0] at h1
  exact h1

theorem Two.grown {w W W' : World} {g : Nat} (h : Two w W) (hg : GB g W W') (h2 : w.heap.size + 2 ≤ g) : Two w W' := by
  have hs := h.size
  have k1 := box_kept hg (r := w.heap.size) (by omega) (by omega)
  have k2 := box_kept hg (r := w.heap.size + 1) (by omega) (by omega)
  exact ⟨k1.1 _ h.c1, k1.2 h.f1, k2.1 _ h.c2, k2.2 h.f2, Nat.le_trans h.size hg.size, h.below.trans (hg.below (Nat.le_of_lt (by omega)) (by omega))⟩

theorem two_end {w wz : World} {a1 a2 : Option Addr} {q1 c1 q2 c2 : Nat} {xs ys : List Int} (T : Two w wz) (h1 : q1 ≤ 7) (h2 : q2 ≤ 7) (hx : xs.length = q1) (hy : ys.length = q2) (O1 : Own wz (w.heap.size + 2) (.slice a1 q1 c1) xs) (O2 : Own wz (w.heap.size + 2) (.slice a2 q2 c2) ys) :
    Drawn2 w (.returned (.tuple #[.agg #[.slice a1 q1 c1], .agg #[.slice a2 q2 c2]])) ((wz.setCell ⟨w.heap.size, 0, none⟩ (.slice a1 q1 c1)).setCell ⟨w.heap.size + 1, 0, none⟩ (.slice a2 q2 c2)) :=
  ⟨⟨a1, q1, c1, xs, a2, q2, c2, ys, rfl, h1, h2, hx, hy, (own_set_below (own_set_below O1 (by omega) _) (by omega) _).mono (by omega), (own_set_below (own_set_below O2 (by omega) _) (by omega) _).mono (by omega)⟩, (T.below.setCell (by simp) _).setCell (by simp) _⟩

set_option maxHeartbeats 2000000 in
set_option maxRecDepth 1000000 in
theorem drawAddBig_c (ao : Option Addr) (n c : Nat) (w : World) (hn : n ≤ 9223372036854775807) (h : CodeOk w w.heap.size ao n) :
    Calls Try.prog 21 #[.slice ao n c] w (Drawn2 w) := by
  obtain ⟨W, hW⟩ : ∃ W, ((w.alloc (Obj.cells #[Value.slice none 0 0] 25)).alloc (Obj.cells #[Value.slice none 0 0] 25)).alloc (Obj.cells #[Value.slice ao n c, Value.int IntKind.i64 0, Value.int IntKind.u64 0] 55) = W := ⟨_, rfl⟩
  obtain ⟨C0', T0', hs0⟩ := start_cur ao n c w hn h hW
  have C0 : Hid (Cur W (w.heap.size + 1 + 1) ao n c 0) := C0'
  have T0 : Hid (Two w W) := T0'
  clear h C0' T0'
  go_enter Try.func21, Try.ntmps21
  go_wp2_with fail
  clear hW
  refine (big_c (w.heap.size + 1 + 1) ao n c 0 _ (by omega) C0.out).mono ?_
  rintro e w1 ⟨a1, q1, c1, xs, rfl, hq1, hx, ho, hc1, hg1⟩
  have C1 : Hid (Cur w1 (w.heap.size + 1 + 1) ao n c 100) := hc1
  have T1 : Hid (Two w w1) := T0.out.grown hg1 (by omega)
  have O1 : Hid (Own w1 W.heap.size (.slice a1 q1 c1) xs) := ho
  have HX : Hid (xs.length = q1) := hx
  have hs1 : W.heap.size ≤ w1.heap.size := hg1.size
  clear hc1 hg1 ho hx C0 T0
  go_wp2_with fail
  refine (big_c (w.heap.size + 1 + 1) ao n c 100 _ (by omega) C1.out).mono ?_
  rintro e w2 ⟨a2, q2, c2, ys, rfl, hq2, hy, ho, hc1, hg1⟩
  have T2 : Hid (Two w w2) := T1.out.grown hg1 (by omega)
  have O2 : Hid (Own w2 W.heap.size (.slice a1 q1 c1) xs) := O1.out.kept hg1 (sep_own O1.out (by omega))
  have O3 : Hid (Own w2 w1.heap.size (.slice a2 q2 c2) ys) := ho
  have HY : Hid (ys.length = q2) := hy
  clear hc1 hg1 ho hy C1 T1 O1
  have k1 := T2.out.c1
  have k2 := T2.out.c2
  have k3 := T2.out.f1
  have k4 := T2.out.f2
  go_wp2
  refine bodyPost_ret (v := .tuple #[.agg #[.slice a1 q1 c1], .agg #[.slice a2 q2 c2]]) (by simp [results, Try.results21, go_sem, k1, k2]) rfl ?_
  with_reducible exact two_end T2.out hq1 hq2 HX.out HY.out (O2.out.mono (by omega)) (O3.out.mono (by omega))

set_option maxHeartbeats 2000000 in
set_option maxRecDepth 1000000 in
theorem drawHalves_c (ao : Option Addr) (n c : Nat) (w : World) (hn : n ≤ 9223372036854775807) (h : CodeOk w w.heap.size ao n) :
    Calls Try.prog 4 #[.slice ao n c] w (Drawn2 w) := by
  obtain ⟨W, hW⟩ : ∃ W, (w.alloc (Obj.cells #[Value.slice none 0 0] 25)).alloc (Obj.cells #[Value.slice none 0 0] 25) = W := ⟨_, rfl⟩
  have T0 : Hid (Two w W) := by rw [← hW]; exact two_new w
  have K0 : Hid (CodeOk W W.heap.size ao n) := h.later T0.out.below T0.out.below.size
  have KW : Hid (CodeOk w w.heap.size ao n) := h
  clear h
  clear KW
  go_enter Try.func4, Try.ntmps4
  go_wp2_with fail
  clear hW
  refine (drawAddBig_c ao n c _ hn K0.out).mono ?_
  rintro e w1 ⟨⟨a1, q1, c1, xs, a2, q2, c2, ys, rfl, hq1, hq2, hx, hy, ho1, ho2⟩, hb⟩
  have T1 : Hid (Two w w1) := T0.out.later hb
  have hs0 := T0.out.size
  have hs1 := T1.out.size
  have O1 : Hid (Own w1 (w.heap.size + 2) (.slice a1 q1 c1) xs) := ho1.mono (by omega)
  have O2 : Hid (Own w1 (w.heap.size + 2) (.slice a2 q2 c2) ys) := ho2.mono (by omega)
  have HX : Hid (xs.length = q1) := hx
  have HY : Hid (ys.length = q2) := hy
  clear ho1 ho2 hx hy hb T0 K0
  have k1 := T1.out.c1
  have k2 := T1.out.c2
  have k3 := T1.out.f1
  have k4 := T1.out.f2
  go_wp2
  refine bodyPost_ret (v := .tuple #[.agg #[.slice a1 q1 c1], .agg #[.slice a2 q2 c2]]) (by simp [results, Try.results4, go_sem, k1, k2]) rfl ?_
  with_reducible exact two_end T1.out hq1 hq2 HX.out HY.out O1.out O2.out

set_option maxHeartbeats 2000000 in
set_option maxRecDepth 1000000 in
theorem drawLess_c (ao : Option Addr) (n c : Nat) (w : World) (hn : n ≤ 9223372036854775807) (h : CodeOk w w.heap.size ao n) :
    Calls Try.prog 16 #[.slice ao n c] w (Drawn2 w) := by
  obtain ⟨W, hW⟩ : ∃ W, (w.alloc (Obj.cells #[Value.slice none 0 0] 25)).alloc (Obj.cells #[Value.slice none 0 0] 25) = W := ⟨_, rfl⟩
  have T0 : Hid (Two w W) := by rw [← hW]; exact two_new w
  have K0 : Hid (CodeOk W W.heap.size ao n) := h.later T0.out.below T0.out.below.size
  have KW : Hid (CodeOk w w.heap.size ao n) := h
  clear h
  clear KW
  go_enter Try.func16, Try.ntmps16
  go_wp2_with fail
  clear hW
  refine (drawAddBig_c ao n c _ hn K0.out).mono ?_
  rintro e w1 ⟨⟨a1, q1, c1, xs, a2, q2, c2, ys, rfl, hq1, hq2, hx, hy, ho1, ho2⟩, hb⟩
  have T1 : Hid (Two w w1) := T0.out.later hb
  have hs0 := T0.out.size
  have hs1 := T1.out.size
  have O1 : Hid (Own w1 (w.heap.size + 2) (.slice a1 q1 c1) xs) := ho1.mono (by omega)
  have O2 : Hid (Own w1 (w.heap.size + 2) (.slice a2 q2 c2) ys) := ho2.mono (by omega)
  have HX : Hid (xs.length = q1) := hx
  have HY : Hid (ys.length = q2) := hy
  clear ho1 ho2 hx hy hb T0 K0
  obtain ⟨zs, fb, hF⟩ : ∃ zs fb, addF xs ys = (zs, fb) := ⟨_, _, rfl⟩
  have HF : Hid (addF xs ys = (zs, fb)) := hF
  obtain ⟨p, hp⟩ : ∃ p, zs.length = p := ⟨_, rfl⟩
  have HP : Hid (zs.length = p) := hp
  have hp6 : p ≤ 6 := by rw [← hp]; exact addF_short hF
  clear hF hp
  obtain ⟨v2, hv2⟩ : ∃ v2, (w1.alloc (Obj.cells #[Value.slice a1 q1 c1] 25)).alloc (Obj.cells #[Value.slice a2 q2 c2] 25) = v2 := ⟨_, rfl⟩
  have hb2 : Below w1.heap.size w1 v2 := by rw [← hv2]; exact below_two _ _ _
  have kA : v2.cell? ⟨w1.heap.size, 0, none⟩ = some (.slice a1 q1 c1) := by rw [← hv2]; exact calloc (cnew _ _ _)
  have kB : v2.cell? ⟨w1.heap.size + 1, 0, none⟩ = some (.slice a2 q2 c2) := by rw [← hv2]; simp
  have hsv : v2.heap.size = w1.heap.size + 1 + 1 := by rw [← hv2]; simp
  have T2 : Hid (Two w v2) := T1.out.later hb2
  have O3 : Hid (Own v2 (w.heap.size + 2) (.slice a1 q1 c1) xs) := O1.out.later hb2
  have O4 : Hid (Own v2 (w.heap.size + 2) (.slice a2 q2 c2) ys) := O2.out.later hb2
  clear hb2 T1 O1 O2
  go_wp2_with fail
  clear hv2
  refine (specAdd_c a1 a2 q1 q2 c1 c2 xs ys _ HX.out HY.out (by omega) (by omega) O3.out.rd'.2 O4.out.rd'.2 zs fb p HF.out HP.out).mono ?_
  rintro e v3 ⟨a3, c3, rfl, ho, hb⟩
  have hbk : Below v2.heap.size v2 (v3.alloc (Obj.cells #[Value.slice a3 p c3] 25)) := hb.alloc hb.size _
  obtain ⟨v4, hv4⟩ : ∃ v4, v3.alloc (Obj.cells #[Value.slice a3 p c3] 25) = v4 := ⟨_, rfl⟩
  have T4 : Hid (Two w v4) := by rw [← hv4]; exact T2.out.later hbk
  have O5 : Hid (Own v4 (w.heap.size + 2) (.slice a3 p c3) zs) := by rw [← hv4]; exact (ho.later (balloc _ _)).mono (by omega)
  have O6 : Hid (Own v4 (w.heap.size + 2) (.slice a1 q1 c1) xs) := by rw [← hv4]; exact O3.out.later hbk
  have O7 : Hid (Own v4 (w.heap.size + 2) (.slice a2 q2 c2) ys) := by rw [← hv4]; exact O4.out.later hbk
  have hs3 := hb.size
  have kA4 : v4.cell? ⟨w1.heap.size, 0, none⟩ = some (.slice a1 q1 c1) := by rw [← hv4, hbk.cell (p := ⟨w1.heap.size, 0, none⟩) (by simp; omega)]; exact kA
  have kB4 : v4.cell? ⟨w1.heap.size + 1, 0, none⟩ = some (.slice a2 q2 c2) := by rw [← hv4, hbk.cell (p := ⟨w1.heap.size + 1, 0, none⟩) (by simp; omega)]; exact kB
  have kC4 : v4.cell? ⟨v3.heap.size, 0, none⟩ = some (.slice a3 p c3) := by rw [← hv4]; exact cnew _ _ _
  clear hbk hb ho T2 O3 O4 HF kA kB
  cases fb
  · skip
    go_wp2
    refine wp_region_held_drew (S := fun w' => w'.cell? ⟨w1.heap.size, 0, none⟩ = some (.slice a1 q1 c1) ∧ w'.cell? ⟨w1.heap.size + 1, 0, none⟩ = some (.slice a2 q2 c2)) (by kernel_rfl) ?_ (fun hHeld => ?_)
    · exact ⟨kA4, kB4⟩
    have TD : Hid (Two w v4.drew) := T4.out.later (Below.refl _ _).drew
    have OX : Hid (Own v4.drew (w.heap.size + 2) (.slice a1 q1 c1) xs) := O6.out.later (Below.refl _ _).drew
    have OY : Hid (Own v4.drew (w.heap.size + 2) (.slice a2 q2 c2) ys) := O7.out.later (Below.refl _ _).drew
    generalize v4.drew = wy at TD OX OY hHeld ⊢
    have k1 := TD.out.c1
    have k2 := TD.out.c2
    have k3 := TD.out.f1
    have k4 := TD.out.f2
    refine takeG (i := 0) (oi := _) (v := ?_) (d := some 22) rfl (by kernel_rfl) (by kernel_rfl) (by kernel_rfl) (by kernel_rfl) (fun _ _ _ h => h) (Or.inl ⟨by rfl, ?_⟩) (by assumption) ?_
    rotate_left
    · (intro w hSw; (try dsimp only at hSw); go_simp <;> with_reducible rfl)
    try simp only [Act.put, List.setIfInBounds_toArray, List.set_cons_zero, List.set_cons_succ]
    refine takeG (i := 1) (oi := _) (v := ?_) (d := some 23) rfl (by kernel_rfl) (by kernel_rfl) (by kernel_rfl) (by kernel_rfl) (fun _ _ _ h => h) (Or.inl ⟨by rfl, ?_⟩) (by assumption) ?_
    rotate_left
    · (intro w hSw; (try dsimp only at hSw); go_simp <;> with_reducible rfl)
    try simp only [Act.put, List.setIfInBounds_toArray, List.set_cons_zero, List.set_cons_succ]
    refine wpAnyH_ready (rs := [2]) (by kernel_rfl) (by simp) ?_
    refine AllReadyH.cons (o := _) rfl (fun K hK => ?_) AllReadyH.nil
    go_simp
    refine hK.out _ _ ?_ (fun hHeld => ?_)
    · exact ⟨(World.cell?_setCell_other _ _ _ _ (fun e => by first | (simp at e; done) | (simp at e; omega))).trans hHeld.1, (World.cell?_setCell_other _ _ _ _ (fun e => by first | (simp at e; done) | (simp at e; omega))).trans hHeld.2⟩
    clear hK K
    try simp only [Act.put, List.setIfInBounds_toArray, List.set_cons_zero, List.set_cons_succ]
    refine wpAnyH_ready (rs := [3]) (by kernel_rfl) (by simp) ?_
    refine AllReadyH.cons (o := _) rfl (fun K hK => ?_) AllReadyH.nil
    go_simp
    refine hK.out _ _ ?_ (fun hHeld => ?_)
    · exact ⟨(World.cell?_setCell_other _ _ _ _ (fun e => by first | (simp at e; done) | (simp at e; omega))).trans hHeld.1, (World.cell?_setCell_other _ _ _ _ (fun e => by first | (simp at e; done) | (simp at e; omega))).trans hHeld.2⟩
    clear hK K
    try simp only [Act.put, List.setIfInBounds_toArray, List.set_cons_zero, List.set_cons_succ]
    refine wpAnyH_done (by kernel_rfl) ?_ _
    go_wp2
    refine bodyPost_ret (v := .tuple #[.agg #[.slice a1 q1 c1], .agg #[.slice a2 q2 c2]]) (by simp [results, Try.results16, go_sem, k1, k2]) rfl ?_
    with_reducible exact two_end TD.out hq1 hq2 HX.out HY.out OX.out OY.out
  · skip
    go_wp2
    refine wp_region_held_drew (S := fun w' => w'.cell? ⟨v3.heap.size, 0, none⟩ = some (.slice a3 p c3) ∧ w'.cell? ⟨w1.heap.size + 1, 0, none⟩ = some (.slice a2 q2 c2)) (by kernel_rfl) ?_ (fun hHeld => ?_)
    · exact ⟨kC4, kB4⟩
    have TD : Hid (Two w v4.drew) := T4.out.later (Below.refl _ _).drew
    have OX : Hid (Own v4.drew (w.heap.size + 2) (.slice a3 p c3) zs) := O5.out.later (Below.refl _ _).drew
    have OY : Hid (Own v4.drew (w.heap.size + 2) (.slice a2 q2 c2) ys) := O7.out.later (Below.refl _ _).drew
    generalize v4.drew = wy at TD OX OY hHeld ⊢
    have k1 := TD.out.c1
    have k2 := TD.out.c2
    have k3 := TD.out.f1
    have k4 := TD.out.f2
    refine takeG (i := 0) (oi := _) (v := ?_) (d := some 20) rfl (by kernel_rfl) (by kernel_rfl) (by kernel_rfl) (by kernel_rfl) (fun _ _ _ h => h) (Or.inl ⟨by rfl, ?_⟩) (by assumption) ?_
    rotate_left
    · (intro w hSw; (try dsimp only at hSw); go_simp <;> with_reducible rfl)
    try simp only [Act.put, List.setIfInBounds_toArray, List.set_cons_zero, List.set_cons_succ]
    refine takeG (i := 1) (oi := _) (v := ?_) (d := some 21) rfl (by kernel_rfl) (by kernel_rfl) (by kernel_rfl) (by kernel_rfl) (fun _ _ _ h => h) (Or.inl ⟨by rfl, ?_⟩) (by assumption) ?_
    rotate_left
    · (intro w hSw; (try dsimp only at hSw); go_simp <;> with_reducible rfl)
    try simp only [Act.put, List.setIfInBounds_toArray, List.set_cons_zero, List.set_cons_succ]
    refine wpAnyH_ready (rs := [2]) (by kernel_rfl) (by simp) ?_
    refine AllReadyH.cons (o := _) rfl (fun K hK => ?_) AllReadyH.nil
    go_simp
    refine hK.out _ _ ?_ (fun hHeld => ?_)
    · exact ⟨(World.cell?_setCell_other _ _ _ _ (fun e => by first | (simp at e; done) | (simp at e; omega))).trans hHeld.1, (World.cell?_setCell_other _ _ _ _ (fun e => by first | (simp at e; done) | (simp at e; omega))).trans hHeld.2⟩
    clear hK K
    try simp only [Act.put, List.setIfInBounds_toArray, List.set_cons_zero, List.set_cons_succ]
    refine wpAnyH_ready (rs := [3]) (by kernel_rfl) (by simp) ?_
    refine AllReadyH.cons (o := _) rfl (fun K hK => ?_) AllReadyH.nil
    go_simp
    refine hK.out _ _ ?_ (fun hHeld => ?_)
    · exact ⟨(World.cell?_setCell_other _ _ _ _ (fun e => by first | (simp at e; done) | (simp at e; omega))).trans hHeld.1, (World.cell?_setCell_other _ _ _ _ (fun e => by first | (simp at e; done) | (simp at e; omega))).trans hHeld.2⟩
    clear hK K
    try simp only [Act.put, List.setIfInBounds_toArray, List.set_cons_zero, List.set_cons_succ]
    refine wpAnyH_done (by kernel_rfl) ?_ _
    go_wp2
    refine bodyPost_ret (v := .tuple #[.agg #[.slice a3 p c3], .agg #[.slice a2 q2 c2]]) (by simp [results, Try.results16, go_sem, k1, k2]) rfl ?_
    with_reducible exact two_end TD.out (by omega) hq2 HP.out HY.out OX.out OY.out

set_option maxHeartbeats 2000000 in
set_option maxRecDepth 1000000 in
theorem drawCompare_c (ao : Option Addr) (n c : Nat) (w : World) (hn : n ≤ 9223372036854775807) (h : CodeOk w w.heap.size ao n) :
    Calls Try.prog 19 #[.slice ao n c] w (Drawn2 w) := by
  obtain ⟨W, hW⟩ : ∃ W, (w.alloc (Obj.cells #[Value.slice none 0 0] 25)).alloc (Obj.cells #[Value.slice none 0 0] 25) = W := ⟨_, rfl⟩
  have T0 : Hid (Two w W) := by rw [← hW]; exact two_new w
  have K0 : Hid (CodeOk W W.heap.size ao n) := h.later T0.out.below T0.out.below.size
  have KW : Hid (CodeOk w w.heap.size ao n) := h
  clear h
  obtain ⟨i0, hi, hz0, hz1, hz2⟩ := info_parts Try.infoInt
  go_enter Try.func19, Try.ntmps19
  go_wp2_with fail
  clear hW
  refine (drawAddBig_c ao n c _ hn K0.out).mono ?_
  rintro e w1 ⟨⟨a1, q1, c1, xs, a2, q2, c2, ys, rfl, hq1, hq2, hx, hy, ho1, ho2⟩, hb⟩
  have T1 : Hid (Two w w1) := T0.out.later hb
  have hs0 := T0.out.size
  have hs1 := T1.out.size
  have O1 : Hid (Own w1 (w.heap.size + 2) (.slice a1 q1 c1) xs) := ho1.mono (by omega)
  have O2 : Hid (Own w1 (w.heap.size + 2) (.slice a2 q2 c2) ys) := ho2.mono (by omega)
  have HX : Hid (xs.length = q1) := hx
  have HY : Hid (ys.length = q2) := hy
  clear ho1 ho2 hx hy hb T0 K0
  obtain ⟨v2, hv2⟩ : ∃ v2, (w1.alloc (Obj.cells #[Value.slice a1 q1 c1] 25)).alloc (Obj.cells #[Value.slice a2 q2 c2] 25) = v2 := ⟨_, rfl⟩
  have hb2 : Below w1.heap.size w1 v2 := by rw [← hv2]; exact below_two _ _ _
  have kA : v2.cell? ⟨w1.heap.size, 0, none⟩ = some (.slice a1 q1 c1) := by rw [← hv2]; exact calloc (cnew _ _ _)
  have kB : v2.cell? ⟨w1.heap.size + 1, 0, none⟩ = some (.slice a2 q2 c2) := by rw [← hv2]; simp
  have hsv : v2.heap.size = w1.heap.size + 1 + 1 := by rw [← hv2]; simp
  have T2 : Hid (Two w v2) := T1.out.later hb2
  have O3 : Hid (Own v2 (w.heap.size + 2) (.slice a1 q1 c1) xs) := O1.out.later hb2
  have O4 : Hid (Own v2 (w.heap.size + 2) (.slice a2 q2 c2) ys) := O2.out.later hb2
  clear hb2 T1 O1 O2
  have KC : Hid (CodeOk v2 v2.heap.size ao n) := KW.out.later T2.out.below T2.out.below.size
  obtain ⟨v3, hv3⟩ : ∃ v3, v2.alloc (Obj.cells #[Value.slice ao n c, Value.int IntKind.i64 0, Value.int IntKind.u64 0] 55) = v3 := ⟨_, rfl⟩
  have C1 : Hid (Cur v3 (w1.heap.size + 1 + 1) ao n c 0) := by
    have h1 := cur_new (c := c) 55 hn KC.out
    rw [hv3, hsv] at h1
    exact h1
  have hb3 : Below v2.heap.size v2 v3 := by rw [← hv3]; exact balloc _ _
  have hs3 : v3.heap.size = w1.heap.size + 1 + 1 + 1 := by rw [← hv3]; simp [hsv]
  have T3 : Hid (Two w v3) := T2.out.later hb3
  have O5 : Hid (Own v3 (w.heap.size + 2) (.slice a1 q1 c1) xs) := O3.out.later hb3
  have O6 : Hid (Own v3 (w.heap.size + 2) (.slice a2 q2 c2) ys) := O4.out.later hb3
  have kA3 : v3.cell? ⟨w1.heap.size, 0, none⟩ = some (.slice a1 q1 c1) := by rw [← hv3]; exact calloc kA
  have kB3 : v3.cell? ⟨w1.heap.size + 1, 0, none⟩ = some (.slice a2 q2 c2) := by rw [← hv3]; exact calloc kB
  have hst := sep_top O3.out (g := w1.heap.size + 1 + 1) (by omega)
  have hst2 := sep_top O4.out (g := w1.heap.size + 1 + 1) (by omega)
  clear hb3 T2 O3 O4 KC KW kA kB
  go_wp2_with fail
  clear hv2 hv3
  refine (one_c (w1.heap.size + 1 + 1) ao n c 0 6 _ (by omega) (by omega) C1.out).mono ?_
  rintro e w2 ⟨b1, rfl, hc1, hg1⟩
  have T4 : Hid (Two w w2) := T3.out.grown hg1 (by omega)
  have O7 : Hid (Own w2 (w.heap.size + 2) (.slice a1 q1 c1) xs) := O5.out.kept hg1 hst
  have O8 : Hid (Own w2 (w.heap.size + 2) (.slice a2 q2 c2) ys) := O6.out.kept hg1 hst2
  have kA := (box_kept hg1 (r := w1.heap.size) (by omega) (by omega)).1 _ kA3
  have kB := (box_kept hg1 (r := w1.heap.size + 1) (by omega) (by omega)).1 _ kB3
  have hsw : w1.heap.size + 1 + 1 < w2.heap.size := by have := hg1.size; omega
  clear hc1 hg1 T3 O5 O6 C1 hst hst2 kA3 kB3
  cases b1
  · skip
    go_wp2
    refine wp_region_held_drew (S := fun w' => w'.cell? ⟨w1.heap.size, 0, none⟩ = some (.slice a1 q1 c1) ∧ w'.cell? ⟨w1.heap.size + 1, 0, none⟩ = some (.slice a2 q2 c2)) (by kernel_rfl) ?_ (fun hHeld => ?_)
    · exact ⟨kA, kB⟩
    have TD : Hid (Two w w2.drew) := T4.out.later (Below.refl _ _).drew
    have OX : Hid (Own w2.drew (w.heap.size + 2) (.slice a1 q1 c1) xs) := O7.out.later (Below.refl _ _).drew
    have OY : Hid (Own w2.drew (w.heap.size + 2) (.slice a2 q2 c2) ys) := O8.out.later (Below.refl _ _).drew
    generalize w2.drew = wy at TD OX OY hHeld ⊢
    have k1 := TD.out.c1
    have k2 := TD.out.c2
    have k3 := TD.out.f1
    have k4 := TD.out.f2
    refine takeG (i := 0) (oi := _) (v := ?_) (d := some 23) rfl (by kernel_rfl) (by kernel_rfl) (by kernel_rfl) (by kernel_rfl) (fun _ _ _ h => h) (Or.inl ⟨by rfl, ?_⟩) (by assumption) ?_
    rotate_left
    · (intro w hSw; (try dsimp only at hSw); go_simp <;> with_reducible rfl)
    try simp only [Act.put, List.setIfInBounds_toArray, List.set_cons_zero, List.set_cons_succ]
    refine takeG (i := 1) (oi := _) (v := ?_) (d := some 24) rfl (by kernel_rfl) (by kernel_rfl) (by kernel_rfl) (by kernel_rfl) (fun _ _ _ h => h) (Or.inl ⟨by rfl, ?_⟩) (by assumption) ?_
    rotate_left
    · (intro w hSw; (try dsimp only at hSw); go_simp <;> with_reducible rfl)
    try simp only [Act.put, List.setIfInBounds_toArray, List.set_cons_zero, List.set_cons_succ]
    refine wpAnyH_ready (rs := [2]) (by kernel_rfl) (by simp) ?_
    refine AllReadyH.cons (o := _) rfl (fun K hK => ?_) AllReadyH.nil
    go_simp
    refine hK.out _ _ ?_ (fun hHeld => ?_)
    · exact ⟨(World.cell?_setCell_other _ _ _ _ (fun e => by first | (simp at e; done) | (simp at e; omega))).trans hHeld.1, (World.cell?_setCell_other _ _ _ _ (fun e => by first | (simp at e; done) | (simp at e; omega))).trans hHeld.2⟩
    clear hK K
    try simp only [Act.put, List.setIfInBounds_toArray, List.set_cons_zero, List.set_cons_succ]
    refine wpAnyH_ready (rs := [3]) (by kernel_rfl) (by simp) ?_
    refine AllReadyH.cons (o := _) rfl (fun K hK => ?_) AllReadyH.nil
    go_simp
    refine hK.out _ _ ?_ (fun hHeld => ?_)
    · exact ⟨(World.cell?_setCell_other _ _ _ _ (fun e => by first | (simp at e; done) | (simp at e; omega))).trans hHeld.1, (World.cell?_setCell_other _ _ _ _ (fun e => by first | (simp at e; done) | (simp at e; omega))).trans hHeld.2⟩
    clear hK K
    try simp only [Act.put, List.setIfInBounds_toArray, List.set_cons_zero, List.set_cons_succ]
    refine wpAnyH_done (by kernel_rfl) ?_ _
    go_wp2
    refine bodyPost_ret (v := .tuple #[.agg #[.slice a1 q1 c1], .agg #[.slice a2 q2 c2]]) (by simp [results, Try.results19, go_sem, k1, k2]) rfl ?_
    with_reducible exact two_end TD.out hq1 hq2 HX.out HY.out OX.out OY.out
  · clear kB O8 HY hq2
    go_wp2
    refine wp_region_held_drew (S := fun w' => w'.cell? ⟨w1.heap.size, 0, none⟩ = some (.slice a1 q1 c1)) (by kernel_rfl) ?_ (fun hHeld => ?_)
    · exact kA
    have TD : Hid (Two w w2.drew) := T4.out.later (Below.refl _ _).drew
    have OX : Hid (Own w2.drew (w.heap.size + 2) (.slice a1 q1 c1) xs) := O7.out.later (Below.refl _ _).drew
    have hsy : w1.heap.size + 1 + 1 < w2.drew.heap.size := hsw
    generalize w2.drew = wy at TD OX hsy hHeld ⊢
    clear kA T4 O7
    refine takeG (i := 0) (oi := _) (v := ?_) (d := some 17) rfl (by kernel_rfl) (by kernel_rfl) (by kernel_rfl) (by kernel_rfl) (fun _ _ _ h => h) (Or.inl ⟨by rfl, ?_⟩) (by assumption) ?_
    rotate_left
    · (intro w hSw; (try dsimp only at hSw); go_simp <;> with_reducible rfl)
    try simp only [Act.put, List.setIfInBounds_toArray, List.set_cons_zero, List.set_cons_succ]
    refine takeG (i := 2) (oi := _) (v := ?_) (d := some 19) rfl (by kernel_rfl) (by kernel_rfl) (by kernel_rfl) (by kernel_rfl) (fun _ _ _ h => h) (Or.inl ⟨by rfl, ?_⟩) (by assumption) ?_
    rotate_left
    · (intro w hSw; (try dsimp only at hSw); go_simp <;> with_reducible rfl)
    try simp only [Act.put, List.setIfInBounds_toArray, List.set_cons_zero, List.set_cons_succ]
    refine takeG (i := 3) (oi := _) (v := ?_) (d := some 20) rfl (by kernel_rfl) (by kernel_rfl) (by kernel_rfl) (by kernel_rfl) (fun _ _ _ h => h) (Or.inl ⟨by rfl, ?_⟩) (by assumption) ?_
    rotate_left
    · (intro w hSw; (try dsimp only at hSw); go_simp <;> with_reducible rfl)
    try simp only [Act.put, List.setIfInBounds_toArray, List.set_cons_zero, List.set_cons_succ]
    refine wpAnyH_ready (rs := [1]) (by kernel_rfl) (by simp) ?_
    refine AllReadyH.cons (o := _) rfl (fun K hK => ?_) AllReadyH.nil
    go_simp
    refine hK.out _ _ ?_ (fun hHeld => ?_)
    · exact calloc hHeld
    clear hK K
    try simp only [Act.put, List.setIfInBounds_toArray, List.set_cons_zero, List.set_cons_succ]
    have hown := own_empty wy (w.heap.size + 2) (by omega) #[] rfl
    have HE : Hid (Own (wy.alloc (Obj.cells #[] 3)) (w.heap.size + 2) (.slice a1 q1 c1) xs) := OX.out.later (balloc _ _)
    have TE : Hid (Two w (wy.alloc (Obj.cells #[] 3))) := TD.out.later (balloc _ _)
    rcases OX.out.form with ⟨hv, hl⟩ | ⟨g, cap, hv, hg, _⟩
    · simp only [Value.slice.injEq] at hv
      obtain ⟨rfl, rfl, rfl⟩ := hv
      refine wpAnyH_ready (rs := [4]) (by kernel_rfl) (by simp) ?_
      refine AllReadyH.cons (o := _) rfl (fun K hK => ?_) AllReadyH.nil
      rw [if_pos (by rfl)]
      refine append_nil_own _ _ 23 rfl (w.heap.size + 2) 3 i0 1 Try.underlying23 hi (.slice (some ⟨wy.heap.size, 0, none⟩) 0 0) 0 [] rfl hown rfl ?_
      refine hK.out _ _ ?_ (fun hHeld => ?_)
      · exact hHeld
      clear hK K
      try simp only [Act.put, List.setIfInBounds_toArray, List.set_cons_zero, List.set_cons_succ]
      have hx0 : xs = [] := List.length_eq_zero_iff.1 HX.out
      subst hx0
      obtain ⟨a4, ha4⟩ : ∃ a4 : Option Addr, a4 = some ⟨wy.heap.size, 0, none⟩ := ⟨_, rfl⟩
      have OK2 : Hid (Own (wy.alloc (Obj.cells #[] 3)) (w.heap.size + 2) (.slice (some ⟨wy.heap.size, 0, none⟩) 0 0) []) := hown
      have OK1 := HE
      have TK := TE
      clear hown ha4
      have k1 := TK.out.c1
      have k2 := TK.out.c2
      have k3 := TK.out.f1
      have k4 := TK.out.f2
      refine takeG (i := 5) (oi := _) (v := ?_) (d := some 22) rfl (by kernel_rfl) (by kernel_rfl) (by kernel_rfl) (by kernel_rfl) (fun _ _ _ h => h) (Or.inl ⟨by rfl, ?_⟩) (by assumption) ?_
      rotate_left
      · (intro w hSw; (try dsimp only at hSw); go_simp <;> with_reducible rfl)
      try simp only [Act.put, List.setIfInBounds_toArray, List.set_cons_zero, List.set_cons_succ]
      refine wpAnyH_ready (rs := [6]) (by kernel_rfl) (by simp) ?_
      refine AllReadyH.cons (o := _) rfl (fun K hK => ?_) AllReadyH.nil
      go_simp
      refine hK.out _ _ ?_ (fun hHeld => ?_)
      · exact (World.cell?_setCell_other _ _ _ _ (fun e => by first | (simp at e; done) | (simp at e; omega))).trans hHeld
      clear hK K
      try simp only [Act.put, List.setIfInBounds_toArray, List.set_cons_zero, List.set_cons_succ]
      refine wpAnyH_ready (rs := [7]) (by kernel_rfl) (by simp) ?_
      refine AllReadyH.cons (o := _) rfl (fun K hK => ?_) AllReadyH.nil
      go_simp
      refine hK.out _ _ ?_ (fun hHeld => ?_)
      · exact (World.cell?_setCell_other _ _ _ _ (fun e => by first | (simp at e; done) | (simp at e; omega))).trans hHeld
      clear hK K
      try simp only [Act.put, List.setIfInBounds_toArray, List.set_cons_zero, List.set_cons_succ]
      refine wpAnyH_done (by kernel_rfl) ?_ _
      go_wp2
      refine bodyPost_ret (v := .tuple #[.agg #[.slice none 0 0], .agg #[.slice (some ⟨wy.heap.size, 0, none⟩) 0 0]]) (by simp [results, Try.results19, go_sem, k1, k2]) rfl ?_
      with_reducible exact two_end TK.out hq1 hq1 HX.out HX.out OK1.out OK2.out
    · simp only [Value.slice.injEq] at hv
      obtain ⟨rfl, h8, h9⟩ := hv
      clear h8 h9
      have HNEWS := HE.out.rdS.cells
      have hql : (cellsI xs).length = q1 * 1 := by rw [cellsI_length, HX.out]; omega
      have hst := sep_top OX.out (g := wy.heap.size) (Nat.le_refl _)
      have hsz := TD.out.size
      refine wpAnyH_ready (rs := [4]) (by kernel_rfl) (by simp) ?_
      refine AllReadyH.cons (o := _) rfl (fun K hK => ?_) AllReadyH.nil
      rw [if_pos (by rfl)]
      refine wp_append_own _ _ _ 23 rfl (w.heap.size + 2) 3 i0 (.int .i64 0) 1 8 Try.underlying23 hi hz0 hz1 hz2 rfl (by decide) (.slice (some ⟨wy.heap.size, 0, none⟩) 0 0) 0 [] rfl hown ⟨g, 0, none⟩ q1 c1 (cellsI xs) rfl hql HNEWS (cellsI_oneCell _) (by unfold maxLen; omega) (by omega) (by simp; omega) ?_
      intro v' wk hown' hgrow _
      have hgk : (wy.alloc (Obj.cells #[] 3)).grownBy wk (some wy.heap.size) := hgrow
      have HO2 : Own wk (w.heap.size + 2) v' xs := by show World.ownsRow _ _ _ _ _ _ _; rw [HX.out]; simpa using hown'
      have OK1 : Hid (Own wk (w.heap.size + 2) (.slice (some ⟨g, 0, none⟩) q1 c1) xs) := HE.out.kept hgk hst
      have TK : Hid (Two w wk) := TE.out.grown hgk (by omega)
      have hHk : wk.cell? ⟨w1.heap.size, 0, none⟩ = some (.slice (some ⟨g, 0, none⟩) q1 c1) := hgk.cell (a := ⟨w1.heap.size, 0, none⟩) hHeld (by simp; omega)
      obtain ⟨a4, c4, hv⟩ := HO2.shape
      rw [HX.out] at hv
      subst hv
      have OK2 : Hid (Own wk (w.heap.size + 2) (.slice a4 q1 c4) xs) := HO2
      refine hK.out _ _ ?_ (fun hHeld => ?_)
      · exact hHk
      clear hK K hown' hgrow hgk hown HNEWS HO2 HE TE OX TD hst
      try simp only [Act.put, List.setIfInBounds_toArray, List.set_cons_zero, List.set_cons_succ]
      have k1 := TK.out.c1
      have k2 := TK.out.c2
      have k3 := TK.out.f1
      have k4 := TK.out.f2
      refine takeG (i := 5) (oi := _) (v := ?_) (d := some 22) rfl (by kernel_rfl) (by kernel_rfl) (by kernel_rfl) (by kernel_rfl) (fun _ _ _ h => h) (Or.inl ⟨by rfl, ?_⟩) (by assumption) ?_
      rotate_left
      · (intro w hSw; (try dsimp only at hSw); go_simp <;> with_reducible rfl)
      try simp only [Act.put, List.setIfInBounds_toArray, List.set_cons_zero, List.set_cons_succ]
      refine wpAnyH_ready (rs := [6]) (by kernel_rfl) (by simp) ?_
      refine AllReadyH.cons (o := _) rfl (fun K hK => ?_) AllReadyH.nil
      go_simp
      refine hK.out _ _ ?_ (fun hHeld => ?_)
      · exact (World.cell?_setCell_other _ _ _ _ (fun e => by first | (simp at e; done) | (simp at e; omega))).trans hHeld
      clear hK K
      try simp only [Act.put, List.setIfInBounds_toArray, List.set_cons_zero, List.set_cons_succ]
      refine wpAnyH_ready (rs := [7]) (by kernel_rfl) (by simp) ?_
      refine AllReadyH.cons (o := _) rfl (fun K hK => ?_) AllReadyH.nil
      go_simp
      refine hK.out _ _ ?_ (fun hHeld => ?_)
      · exact (World.cell?_setCell_other _ _ _ _ (fun e => by first | (simp at e; done) | (simp at e; omega))).trans hHeld
      clear hK K
      try simp only [Act.put, List.setIfInBounds_toArray, List.set_cons_zero, List.set_cons_succ]
      refine wpAnyH_done (by kernel_rfl) ?_ _
      go_wp2
      refine bodyPost_ret (v := .tuple #[.agg #[.slice (some ⟨g, 0, none⟩) q1 c1], .agg #[.slice a4 q1 c4]]) (by simp [results, Try.results19, go_sem, k1, k2]) rfl ?_
      with_reducible exact two_end TK.out hq1 hq1 HX.out HX.out OK1.out OK2.out


end Go.Proofs.Ytaedplfihjfchaa
