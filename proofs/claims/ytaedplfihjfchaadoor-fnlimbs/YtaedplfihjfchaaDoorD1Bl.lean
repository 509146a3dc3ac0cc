/- What chapter 1 draws: pairs of numbers of limbs. -/
import Derived.Test.YtaedplfihjfchaaDoorD1l
import Derived.Test.YtaedplfihjfchaaDoorBigOfl
import Derived.Laws.AppendOwnNone
import Derived.Deep.RegionHeld3
import Derived.Deep.DeepCutAuto
import Derived.Deep.Light
namespace Go.Proofs.YtaedplfihjfchaaDoor
set_option linter.unusedVariables false
set_option maxRecDepth 1000000
set_option linter.unusedSimpArgs false
open Go.RowKit

theorem append_nil_own {P : Program} {w : World} {o : Oper} {a : Act} {K : Act → World → Prop} {Q : Exit → Act → World → Prop} (s x : Operand) (t : TypeId)
    (ho : o.op = .call { callee := .builtin .append, args := #[s, x], argTypes := #[t, t] }) (base : Nat) (e : TypeId) (i : TypeInfo) (size : Nat) (ht : P.underlying t = some (.slice e)) (hi : P.info? e = some i)
    (v : Value) (n : Nat) (xs : List Value) (hs : a.eval s = v) (hown : w.ownsRow base e size v n xs) (hx : a.eval x = .slice none 0 0) (h : K (a.put o.dst v) w) : o.wp P a w K Q := by
  have hrun := run_append_owned_none (P := P) (w := w) base t o.type e i size ht hi v n xs hown
  unfold Oper.wp
  simp [execOp, ho, resolve, invoke, builtin, hs, hx, hrun, Result.andThen]
  exact h

/-- Two numbers of limbs are answered, each in rows of its own. -/
def Drawn2 (w : World) (e : Ending) (w' : World) : Prop := (∃ a1 q1 c1 xs a2 q2 c2 ys, e = .returned (.tuple #[.agg #[.slice a1 q1 c1], .agg #[.slice a2 q2 c2]]) ∧ q1 ≤ 7 ∧ q2 ≤ 7 ∧ xs.length = q1 ∧ ys.length = q2 ∧ Own w' w.heap.size (.slice a1 q1 c1) xs ∧ Own w' w.heap.size (.slice a2 q2 c2) ys) ∧ Below w.heap.size w w'

/-- Two boxes for the answers. -/
structure Two (w W : World) : Prop where
  c1 : W.cell? ⟨w.heap.size, 0, none⟩ = some (.slice none 0 0)
  f1 : W.frozen? ⟨w.heap.size, 0, none⟩ = false
  c2 : W.cell? ⟨w.heap.size + 1, 0, none⟩ = some (.slice none 0 0)
  f2 : W.frozen? ⟨w.heap.size + 1, 0, none⟩ = false
  size : w.heap.size + 2 ≤ W.heap.size
  below : Below w.heap.size w W

theorem two_new (w : World) : Two w ((w.alloc (Obj.cells #[Value.slice none 0 0] 25)).alloc (Obj.cells #[Value.slice none 0 0] 25)) :=
  ⟨calloc (cnew _ _ _), by simp, by simp, by simp, by simp, below_two _ _ _⟩

theorem Two.later {w W W' : World} (h : Two w W) (hb : Below W.heap.size W W') : Two w W' :=
  have hs := h.size
  ⟨by rw [hb.cell (p := ⟨w.heap.size, 0, none⟩) (by simp; omega)]; exact h.c1, by rw [hb.frozen (p := ⟨w.heap.size, 0, none⟩) (by simp; omega)]; exact h.f1, by rw [hb.cell (p := ⟨w.heap.size + 1, 0, none⟩) (by simp; omega)]; exact h.c2, by rw [hb.frozen (p := ⟨w.heap.size + 1, 0, none⟩) (by simp; omega)]; exact h.f2, Nat.le_trans h.size hb.size, h.below.trans (hb.mono h.below.size)⟩

theorem start_cur (ao : Option Addr) (n c : Nat) (w : World) (hn : n ≤ 9223372036854775807) (h : CodeOk w w.heap.size ao n) {W : World} (hW : ((w.alloc (Obj.cells #[Value.slice none 0 0] 25)).alloc (Obj.cells #[Value.slice none 0 0] 25)).alloc (Obj.cells #[Value.slice ao n c, Value.int IntKind.i64 0, Value.int IntKind.u64 0] 50) = W) : Cur W (w.heap.size + 1 + 1) ao n c 0 ∧ Two w W ∧ W.heap.size = w.heap.size + 1 + 1 + 1 := by
  have e0 : ((w.alloc (Obj.cells #[Value.slice none 0 0] 25)).alloc (Obj.cells #[Value.slice none 0 0] 25)).heap.size = w.heap.size + 1 + 1 := by simp
  refine ⟨?_, by rw [← hW]; exact (two_new w).later (balloc _ _), by rw [← hW]; simp⟩
  rw [← hW]
  have h1 := cur_new (c := c) 50 hn (h.later (g' := ((w.alloc (Obj.cells #[Value.slice none 0 0] 25)).alloc (Obj.cells #[Value.slice none 0 0] 25)).heap.size) (below_two w (Obj.cells #[Value.slice none 0 0] 25) (Obj.cells #[Value.slice none 0 0] 25)) (by rw [e0]; omega))
  rw [e0] at h1
  exact h1

theorem Two.grown {w W W' : World} {g : Nat} (h : Two w W) (hg : GB g W W') (h2 : w.heap.size + 2 ≤ g) : Two w W' := by
  have hs := h.size
  have k1 := box_kept hg (r := w.heap.size) (by omega) (by omega)
  have k2 := box_kept hg (r := w.heap.size + 1) (by omega) (by omega)
  exact ⟨k1.1 _ h.c1, k1.2 h.f1, k2.1 _ h.c2, k2.2 h.f2, Nat.le_trans h.size hg.size, h.below.trans (hg.below (Nat.le_of_lt (by omega)) (by omega))⟩

theorem two_end {w wz : World} {a1 a2 : Option Addr} {q1 c1 q2 c2 : Nat} {xs ys : List Int} (T : Two w wz) (h1 : q1 ≤ 7) (h2 : q2 ≤ 7) (hx : xs.length = q1) (hy : ys.length = q2) (O1 : Own wz (w.heap.size + 2) (.slice a1 q1 c1) xs) (O2 : Own wz (w.heap.size + 2) (.slice a2 q2 c2) ys) :
    Drawn2 w (.returned (.tuple #[.agg #[.slice a1 q1 c1], .agg #[.slice a2 q2 c2]])) ((wz.setCell ⟨w.heap.size, 0, none⟩ (.slice a1 q1 c1)).setCell ⟨w.heap.size + 1, 0, none⟩ (.slice a2 q2 c2)) :=
  ⟨⟨a1, q1, c1, xs, a2, q2, c2, ys, rfl, h1, h2, hx, hy, (own_set_below (own_set_below O1 (by omega) _) (by omega) _).mono (by omega), (own_set_below (own_set_below O2 (by omega) _) (by omega) _).mono (by omega)⟩, (T.below.setCell (by simp) _).setCell (by simp) _⟩

set_option maxHeartbeats 2000000 in
set_option maxRecDepth 1000000 in
theorem drawAddBig_c (ao : Option Addr) (n c : Nat) (w : World) (hn : n ≤ 9223372036854775807) (h : CodeOk w w.heap.size ao n) :
    Calls Tryd.prog 4 #[.slice ao n c] w (Drawn2 w) := by
  obtain ⟨W, hW⟩ : ∃ W, ((w.alloc (Obj.cells #[Value.slice none 0 0] 25)).alloc (Obj.cells #[Value.slice none 0 0] 25)).alloc (Obj.cells #[Value.slice ao n c, Value.int IntKind.i64 0, Value.int IntKind.u64 0] 50) = W := ⟨_, rfl⟩
  obtain ⟨C0', T0', hs0⟩ := start_cur ao n c w hn h hW
  have C0 : Hid (Cur W (w.heap.size + 1 + 1) ao n c 0) := C0'
  have T0 : Hid (Two w W) := T0'
  clear h C0' T0'
  go_enter Tryd.func4, Tryd.ntmps4
  go_wp2_with fail
  clear hW
  refine (big_c (w.heap.size + 1 + 1) ao n c 0 _ (by omega) C0.out).mono ?_
  rintro e w1 ⟨a1, q1, c1, xs, rfl, hq1, hx, ho, hc1, hg1⟩
  have C1 : Hid (Cur w1 (w.heap.size + 1 + 1) ao n c 100) := hc1
  have T1 : Hid (Two w w1) := T0.out.grown hg1 (by omega)
  have O1 : Hid (Own w1 W.heap.size (.slice a1 q1 c1) xs) := ho
  have HX : Hid (xs.length = q1) := hx
  have hs1 : W.heap.size ≤ w1.heap.size := hg1.size
  clear hc1 hg1 ho hx C0 T0
  go_wp2_with fail
  refine (big_c (w.heap.size + 1 + 1) ao n c 100 _ (by omega) C1.out).mono ?_
  rintro e w2 ⟨a2, q2, c2, ys, rfl, hq2, hy, ho, hc1, hg1⟩
  have T2 : Hid (Two w w2) := T1.out.grown hg1 (by omega)
  have O2 : Hid (Own w2 W.heap.size (.slice a1 q1 c1) xs) := O1.out.kept hg1 (sep_own O1.out (by omega))
  have O3 : Hid (Own w2 w1.heap.size (.slice a2 q2 c2) ys) := ho
  have HY : Hid (ys.length = q2) := hy
  clear hc1 hg1 ho hy C1 T1 O1
  have k1 := T2.out.c1
  have k2 := T2.out.c2
  have k3 := T2.out.f1
  have k4 := T2.out.f2
  go_wp2
  refine bodyPost_ret (v := .tuple #[.agg #[.slice a1 q1 c1], .agg #[.slice a2 q2 c2]]) (by simp [results, Tryd.results4, go_sem, k1, k2]) rfl ?_
  with_reducible exact two_end T2.out hq1 hq2 HX.out HY.out (O2.out.mono (by omega)) (O3.out.mono (by omega))


end Go.Proofs.YtaedplfihjfchaaDoor
