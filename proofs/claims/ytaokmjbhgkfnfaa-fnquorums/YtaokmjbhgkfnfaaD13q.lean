/- Chapter 13: what is drawn: liars, steps. Nothing is said of what is drawn but how much it is. -/
import Derived.Test.YtaokmjbhgkfnfaaD3Gq
import Derived.Test.YtaokmjbhgkfnfaaCQ13q
namespace Go.Proofs.Ytaokmjbhgkfnfaa
set_option linter.unusedVariables false
set_option maxRecDepth 1000000
set_option linter.unusedSimpArgs false
open Go.RowKit

theorem hidOf {p : Prop} (h : p) : Hid p := h
theorem sepT {w : World} {base g : Nat} {v : Value} {xs : List (Int × Int × Int)} (h : OwnT w base v xs) (hg : g < base) : v.ownBlock = none ∨ v.ownBlock ≠ some g := by
 rcases hb : v.ownBlock with _ | b
 ·exact Or.inl rfl
 ·exact Or.inr (fun e => by have := own_block_geT h b hb; simp at e; omega)

theorem grow_runT {w wr : World} {g B n c p : Nat} {ao : Option Addr} {M : Int} {u : Value} {xs : List (Int × Int × Int)} (x y z : Int) (hgB : g < B) (hOB : Old ao n B) (hW : w.heap.size = B) (hB : B ≤ wr.heap.size) (hX : xs.length = p) (hp : p ≤ 1000) (hY : OwnT wr B u xs) (hC : Cur wr g ao n c M) (hG : GB g w wr) :
  ∃ a' c' w', (∀ ty, (Builtin.append_ #[24, 24] ty #[u, .slice (some ⟨wr.heap.size, 0, none⟩) 1 1]).run Try.prog (wr.alloc (.cells #[.int .i64 x, .int .i64 y, .int .i64 z] 40)) = .ok (.slice a' (p + 1) c') w') ∧ OwnT w' B (.slice a' (p + 1) c') (xs ++ [(x, y, z)]) ∧ Cur w' g ao n c M ∧ GB g w w' ∧ B ≤ w'.heap.size := by
 have bA := balloc wr (.cells #[.int .i64 x, .int .i64 y, .int .i64 z] 40)
 obtain ⟨v', w', r1, o1, g1, b1⟩ := appendT_run (wr.alloc (.cells #[.int .i64 x, .int .i64 y, .int .i64 z] 40)) B u xs [(x, y, z)] (some ⟨wr.heap.size, 0, none⟩) 1 1 (hY.later bA) (litT wr x y z) rfl (fun e => by cases e) (by omega) (Nat.le_trans hB bA.size)
 obtain ⟨a', c', hv⟩ := o1.shape
 rw [show (xs ++ [(x, y, z)]).length = p + 1 by rw [List.length_append, hX]; rfl] at hv
 subst hv
 have hob : ∀ k', u.ownBlock = some k' → B ≤ k' := own_block_geT hY
 exact ⟨a', c', w', r1, o1, (hC.alloc _).grown g1 hob hgB hOB, (hG.alloc _).grown g1 (fun k hk => by have := hob k hk; omega), Nat.le_trans hB (Nat.le_trans bA.size g1.size)⟩

structure DSt (w wr : World) (g B n c r : Nat) (ao : Option Addr) (M : Int) (u : Value) (xs : List (Int × Int × Int)) (x y z : Int) : Prop where
 cur : Cur wr g ao n c M
 gb : GB g w wr
 own : OwnT wr B u xs
 box : X3 wr r (.int .i64 x) (.int .i64 y) (.int .i64 z)
 size : B ≤ wr.heap.size
 rB : B ≤ r
 sep : u.ownBlock = none ∨ u.ownBlock ≠ some r
theorem DSt.new {w wr : World} {g B n c : Nat} {ao : Option Addr} {M : Int} {u : Value} {xs : List (Int × Int × Int)} (x y z : Int) (t : TypeId) (hC : Cur wr g ao n c M) (hG : GB g w wr) (hY : OwnT wr B u xs) (hB : B ≤ wr.heap.size) : DSt w (wr.alloc (.cells #[.int .i64 x, .int .i64 y, .int .i64 z] t)) g B n c wr.heap.size ao M u xs x y z :=
 ⟨hC.alloc _, hG.alloc _, hY.later (balloc _ _), x3_new _ _ _ _ _ _ rfl, Nat.le_trans hB (balloc _ _).size, hB, by
  rcases hb : u.ownBlock with _ | b
  ·exact Or.inl rfl
  ·exact Or.inr (fun e => by have := (World.ownsRow.lt hY b hb).2; simp at e; omega)⟩
theorem DSt.alloc {w wr : World} {g B n c r : Nat} {ao : Option Addr} {M : Int} {u : Value} {xs : List (Int × Int × Int)} {x y z : Int} (h : DSt w wr g B n c r ao M u xs x y z) (o : Obj) : DSt w (wr.alloc o) g B n c r ao M u xs x y z :=
 ⟨h.cur.alloc _, h.gb.alloc _, h.own.later (balloc _ _), h.box.later (balloc _ _), Nat.le_trans h.size (balloc _ _).size, h.rB, h.sep⟩
theorem DSt.drew {w wr wr' : World} {g B n c r : Nat} {ao : Option Addr} {M M' : Int} {u : Value} {xs : List (Int × Int × Int)} {x y z : Int} (h : DSt w wr g B n c r ao M u xs x y z) (hgB : g < B) (hC : Cur wr' g ao n c M') (hG : GB g wr wr') : DSt w wr' g B n c r ao M' u xs x y z :=
 ⟨hC, h.gb.trans hG, h.own.kept hG (sepT h.own hgB), h.box.grown hG (fun e => by have := h.rB; simp at e; omega), Nat.le_trans h.size hG.size, h.rB, h.sep⟩
theorem DSt.grown {w wr wr' : World} {g B n c r : Nat} {ao : Option Addr} {M : Int} {u : Value} {xs : List (Int × Int × Int)} {x x' y y' z z' : Int} (h : DSt w wr g B n c r ao M u xs x y z) (hgB : g < B) (hW : w.heap.size = B) (hOB : Old ao n B) (hG : GB r wr wr') (hX : X3 wr' r (.int .i64 x') (.int .i64 y') (.int .i64 z')) : DSt w wr' g B n c r ao M u xs x' y' z' :=
 ⟨h.cur.grown hG (fun k e => by have := h.rB; simp at e; omega) hgB hOB, h.gb.grown hG (fun k e => by have := h.rB; simp at e; omega), h.own.kept hG h.sep, hX, Nat.le_trans h.size hG.size, h.rB, h.sep⟩
theorem DSt.set1 {w wr : World} {g B n c r : Nat} {ao : Option Addr} {M : Int} {u : Value} {xs : List (Int × Int × Int)} {x y z : Int} (h : DSt w wr g B n c r ao M u xs x y z) (hgB : g < B) (hW : w.heap.size = B) (hOB : Old ao n B) (y' : Int) : DSt w (wr.setCell ⟨r, 1, none⟩ (.int .i64 y')) g B n c r ao M u xs x y' z :=
 h.grown hgB hW hOB ((GB.refl r wr).setCell 1 _) (h.box.set1 _)
theorem DSt.set0 {w wr : World} {g B n c r : Nat} {ao : Option Addr} {M : Int} {u : Value} {xs : List (Int × Int × Int)} {x y z : Int} (h : DSt w wr g B n c r ao M u xs x y z) (hgB : g < B) (hW : w.heap.size = B) (hOB : Old ao n B) (x' : Int) : DSt w (wr.setCell ⟨r, 0, none⟩ (.int .i64 x')) g B n c r ao M u xs x' y z :=
 h.grown hgB hW hOB ((GB.refl r wr).setCell 0 _) (h.box.set0 _)

theorem DSt.set2 {w wr : World} {g B n c r : Nat} {ao : Option Addr} {M : Int} {u : Value} {xs : List (Int × Int × Int)} {x y z : Int} (h : DSt w wr g B n c r ao M u xs x y z) (hgB : g < B) (hW : w.heap.size = B) (hOB : Old ao n B) (z' : Int) : DSt w (wr.setCell ⟨r, 2, none⟩ (.int .i64 z')) g B n c r ao M u xs x y z' :=
 h.grown hgB hW hOB ((GB.refl r wr).setCell 2 _) (h.box.set2 _)

theorem DSt.grow {w wr : World} {g B n c r p : Nat} {ao : Option Addr} {M : Int} {u : Value} {xs : List (Int × Int × Int)} {x y z : Int} (h : DSt w wr g B n c r ao M u xs x y z) (hgB : g < B) (hW : w.heap.size = B) (hOB : Old ao n B) (hX : xs.length = p) (hp : p ≤ 1000) (H : Nat) (hH : wr.heap.size = H) :
  ∃ a' c' w', (∀ ty, (Builtin.append_ #[24, 24] ty #[u, .slice (some ⟨H, 0, none⟩) 1 1]).run Try.prog (wr.alloc (.cells #[.int .i64 x, .int .i64 y, .int .i64 z] 40)) = .ok (.slice a' (p + 1) c') w') ∧ OwnT w' B (.slice a' (p + 1) c') (xs ++ [(x, y, z)]) ∧ Cur w' g ao n c M ∧ GB g w w' ∧ B ≤ w'.heap.size := by
 subst hH
 exact grow_runT x y z hgB hOB hW h.size hX hp h.own h.cur h.gb

theorem l1Put_any (B : Nat) (ao : Option Addr) (n c : Nat) (xs : List Int) (x : Int) (w : World) (hn : n ≤ 1000) (ho : Own w B (.slice ao n c) xs) (hR : Ris ltI xs) (hB : B ≤ w.heap.size) :
  Calls Try.prog 91 #[.slice ao n c, .int .i64 x] w fun e w' => ∃ a' n' c' ys, e = .returned (.slice a' n' c') ∧ n' ≤ n + 1 ∧ Own w' B (.slice a' n' c') ys ∧ Ris ltI ys ∧ Below w.heap.size w w' := by
 have hx := ho.rd'.1
 by_cases hi : x ∈ xs
 ·refine (l1Put_in ao n c xs x w hx hn ho.rd'.2 hR hi).mono ?_
  rintro e w' ⟨rfl, rfl⟩
  exact ⟨ao, n, c, xs, rfl, by omega, ho, hR, Below.refl _ _⟩
 ·refine (l1Put_c B ao n c xs x w hx hn ho hi).mono ?_
  rintro e w' ⟨a', c', rfl, h, hb⟩
  exact ⟨a', n + 1, c', _, rfl, by omega, h.mono hB, insL_ris ordI _ hR hi, hb⟩
structure DRw (w wr : World) (g B n c : Nat) (ao : Option Addr) (M : Int) (v : Value) (xs : List Int) : Prop where
 cur : Cur wr g ao n c M
 gb : GB g w wr
 own : Own wr B v xs
 ris : Ris ltI xs
 size : B ≤ wr.heap.size
theorem DRw.drew {w wr wr' : World} {g B n c : Nat} {ao : Option Addr} {M M' : Int} {v : Value} {xs : List Int} (h : DRw w wr g B n c ao M v xs) (hgB : g < B) (hC : Cur wr' g ao n c M') (hG : GB g wr wr') : DRw w wr' g B n c ao M' v xs :=
 ⟨hC, h.gb.trans hG, h.own.kept hG (sep_own h.own hgB), h.ris, Nat.le_trans h.size hG.size⟩
theorem DRw.put {w wr wr' : World} {g B n c : Nat} {ao : Option Addr} {M : Int} {v v' : Value} {xs ys : List Int} (h : DRw w wr g B n c ao M v xs) (ho : Own wr' B v' ys) (hR : Ris ltI ys) (hb : Below wr.heap.size wr wr') : DRw w wr' g B n c ao M v' ys :=
 ⟨h.cur.later hb, h.gb.trans (GB.of_below hb (Nat.le_refl _)), ho, hR, Nat.le_trans h.size hb.size⟩
theorem DRw.alloc {w wr : World} {g B n c : Nat} {ao : Option Addr} {M : Int} {v : Value} {xs : List Int} (h : DRw w wr g B n c ao M v xs) (o : Obj) : DRw w (wr.alloc o) g B n c ao M v xs :=
 ⟨h.cur.alloc _, h.gb.alloc _, h.own.later (balloc _ _), h.ris, Nat.le_trans h.size (balloc _ _).size⟩
theorem DRw.mono {w wr : World} {g B n c : Nat} {ao : Option Addr} {M M' : Int} {v : Value} {xs : List Int} (h : DRw w wr g B n c ao M v xs) (hM : M ≤ M') : DRw w wr g B n c ao M' v xs := ⟨h.cur.mono hM, h.gb, h.own, h.ris, h.size⟩

set_option maxHeartbeats 4000000 in
theorem taps_c (g : Nat) (ao : Option Addr) (n c : Nat) (M : Int) (w : World) (hM : M ≤ 1000000) (h : Cur w g ao n c M) :
  Calls Try.prog 93 #[.pointer (some ⟨g, 0, none⟩)] w fun e w' => ∃ a' n' c' ys, e = .returned (.slice a' n' c') ∧ n' ≤ 5 ∧ Own w' w.heap.size (.slice a' n' c') ys ∧ Cur w' g ao n c (M + 30) ∧ GB g w w' := by
 obtain ⟨B, hB⟩ : ∃ B, w.heap.size = B := ⟨_, rfl⟩
 have hgB : g < B := by rw [← hB]; exact h.lt
 have D0 : Hid (DRw w w g B n c ao M (.slice none 0 0) []) := ⟨h, GB.refl _ _, World.ownsRow_nil _ _ _ _, List.Pairwise.nil, by omega⟩
 have HEQ : Hid (w.heap.size = B) := hB
 clear h hB
 go_enter Try.func93, Try.ntmps93
 go_wp2_with fail
 refine (pick_c g ao n c _ 4 _ (by omega) (by omega) D0.out.cur).mono ?_
 rintro e w1 ⟨z, rfl, z0, z1, hc, hg⟩
 have D1 := hidOf (D0.out.drew hgB hc hg)
 clear hc hg D0
 obtain ⟨k0, rfl⟩ : ∃ k0 : Nat, z = k0 := ⟨z.toNat, by omega⟩
 go_wp2
 go_loopw [3, 4] (fun v i wr => ∃ (k p : Nat) (a' : Option Addr) (c' : Nat) (xs : List Int), i = .int .i64 k ∧ v = .slice a' p c' ∧ k + p ≤ 4 ∧ Hid (DRw w wr g B n c ao (M + 12 - 2 * k) (.slice a' p c') xs)) (fun _ i _ => (intOf i).toNat)
 case atStart => exact ⟨k0, 0, none, 0, [], rfl, rfl, by omega, D1.out.mono (by omega)⟩
 case round =>
  clear D1
  obtain ⟨k, p, a', c', xs, rfl, rfl, hkp, D2⟩ := hrel
  by_cases hk : 0 < k
  ·have hki : (0 : Int) < (k : Int) := by omega
   go_wp2_with fail
   refine (pick_c g ao n c _ 7 _ (by omega) (by omega) D2.out.cur).mono ?_
   rintro e w3 ⟨x, rfl, x0, x1, hc, hg⟩
   have D3 := hidOf (D2.out.drew hgB hc hg)
   clear hc hg D2
   go_wp2_with fail
   refine (l1Put_any B a' p c' xs (1 + x) _ (by omega) D3.out.own D3.out.ris D3.out.size).mono ?_
   rintro e w4 ⟨a9, n9, c9, ys, rfl, hn9, ho, hR, hb⟩
   have D4 := hidOf (D3.out.put ho hR hb)
   clear ho hR hb D3
   go_wp2
   go_roundw
   case rel => exact ⟨k - 1, n9, a9, c9, ys, by go_num, rfl, by omega, D4.out.mono (by omega)⟩
   case measure => simp [intOf]; omega
  ·have hki : ¬ (0 : Int) < (k : Int) := by omega
   obtain rfl : k = 0 := by omega
   go_wp2_with fail
   refine (one_c g ao n c _ 12 _ (by omega) (by omega) D2.out.cur).mono ?_
   rintro e w3 ⟨b, rfl, hc, hg⟩
   have D3 := hidOf (D2.out.drew hgB hc hg)
   clear hc hg D2
   cases b
   ·go_wp2
    go_ret
    exact ⟨a', p, c', xs, rfl, by omega, by rw [HEQ.out]; exact D3.out.own, D3.out.cur.mono (by omega), D3.out.gb⟩
   ·have hgl := D3.out.cur.lt
    have hlit := lit_cells (fun _ => True) w3 #[.int .i64 12, .int .i64 13, .int .i64 0] 3 3 rfl ⟨trivial, trivial, trivial, trivial⟩
    go_wp2_with fail
    refine (among_p (fun _ => True) g ao n c _ w3.heap.size 3 _ (by omega) (by omega) hlit (by omega) (D3.out.cur.alloc _)).mono ?_
    rintro e w4 ⟨y, rfl, _, hc, hg⟩
    have D4 := hidOf ((D3.out.alloc _).drew hgB hc hg)
    clear hc hg D3 hlit
    go_wp2_with fail
    refine (l1Put_any B a' p c' xs y _ (by omega) D4.out.own D4.out.ris D4.out.size).mono ?_
    rintro e w5 ⟨a9, n9, c9, ys, rfl, hn9, ho, hR, hb⟩
    have D5 := hidOf (D4.out.put ho hR hb)
    clear ho hR hb D4
    go_wp2
    go_ret
    exact ⟨a9, n9, c9, ys, rfl, by omega, by rw [HEQ.out]; exact D5.out.own, D5.out.cur.mono (by omega), D5.out.gb⟩

def DrawnBo (g : Nat) (ao : Option Addr) (n c : Nat) (M : Int) (w : World) (e : Ending) (w' : World) : Prop := ∃ (f : Int) (a' : Option Addr) (p c' : Nat) (xs : List Int), e = .returned (.tuple #[.int .i64 f, .slice a' p c']) ∧ p ≤ 5 ∧ Own w' w.heap.size (.slice a' p c') xs ∧ Cur w' g ao n c (M + 60) ∧ GB g w w'
set_option maxHeartbeats 4000000 in
theorem boardOf_c (g : Nat) (ao : Option Addr) (n c : Nat) (M : Int) (w : World) (hM : M ≤ 100000) (h : Cur w g ao n c M) :
  Calls Try.prog 52 #[.pointer (some ⟨g, 0, none⟩)] w fun e w' => DrawnBo g ao n c M w e w' := by
 obtain ⟨B, hB⟩ : ∃ B, w.heap.size = B := ⟨_, rfl⟩
 have hgB : g < B := by rw [← hB]; exact h.lt
 have D0 : Hid (DRw w w g B n c ao M (.slice none 0 0) []) := ⟨h, GB.refl _ _, World.ownsRow_nil _ _ _ _, List.Pairwise.nil, by omega⟩
 have HEQ : Hid (w.heap.size = B) := hB
 clear h hB
 go_enter Try.func52, Try.ntmps52
 go_wp2_with fail
 refine (pick_c g ao n c _ 3 _ (by omega) (by omega) D0.out.cur).mono ?_
 rintro e w1 ⟨f, rfl, f0, f1, hc, hg⟩
 have D1 := hidOf (D0.out.drew hgB hc hg)
 clear hc hg D0
 go_wp2_with fail
 refine (pick_c g ao n c _ (f + 1) _ (by omega) (by omega) D1.out.cur).mono ?_
 rintro e w2 ⟨z, rfl, z0, z1, hc, hg⟩
 have D2 := hidOf (D1.out.drew hgB hc hg)
 clear hc hg D1
 obtain ⟨k0, rfl⟩ : ∃ k0 : Nat, z = k0 := ⟨z.toNat, by omega⟩
 have hk02 : k0 ≤ 2 := by omega
 go_wp2
 go_loopw [5, 6] (fun v i wr => ∃ (k p : Nat) (a' : Option Addr) (c' : Nat) (xs : List Int), i = .int .i64 k ∧ v = .slice a' p c' ∧ k + p ≤ 3 ∧ Hid (DRw w wr g B n c ao (M + 12 - 2 * k) (.slice a' p c') xs)) (fun _ i _ => (intOf i).toNat)
 case atStart => exact ⟨k0, 0, none, 0, [], rfl, rfl, by omega, D2.out.mono (by omega)⟩
 case round =>
  clear D2
  obtain ⟨k, p, a', c', xs, rfl, rfl, hkp, D2⟩ := hrel
  by_cases hk : 0 < k
  ·have hki : (0 : Int) < (k : Int) := by omega
   go_wp2_with fail
   refine (pick_c g ao n c _ (3 * f + 1) _ (by omega) (by omega) D2.out.cur).mono ?_
   rintro e w3 ⟨x, rfl, x0, x1, hc, hg⟩
   have D3 := hidOf (D2.out.drew hgB hc hg)
   clear hc hg D2
   go_wp2_with fail
   refine (l1Put_any B a' p c' xs x _ (by omega) D3.out.own D3.out.ris D3.out.size).mono ?_
   rintro e w4 ⟨a9, n9, c9, ys, rfl, hn9, ho, hR, hb⟩
   have D4 := hidOf (D3.out.put ho hR hb)
   clear ho hR hb D3
   go_wp2
   go_roundw
   case rel => exact ⟨k - 1, n9, a9, c9, ys, by go_num, rfl, by omega, D4.out.mono (by omega)⟩
   case measure => simp [intOf]; omega
  ·have hki : ¬ (0 : Int) < (k : Int) := by omega
   obtain rfl : k = 0 := by omega
   go_wp2_with fail
   refine (one_c g ao n c _ 20 _ (by omega) (by omega) D2.out.cur).mono ?_
   rintro e w3 ⟨b, rfl, hc, hg⟩
   have D3 := hidOf (D2.out.drew hgB hc hg)
   clear hc hg D2
   cases b
   ·go_wp2
    refine bodyPost_ret (v := .tuple #[.int .i64 f, .slice a' p c']) (by simp [results, Try.results52, go_sem]; try rfl) rfl ?_
    exact ⟨f, a', p, c', xs, rfl, by omega, by rw [HEQ.out]; exact D3.out.own, D3.out.cur.mono (by omega), D3.out.gb⟩
   ·go_wp2_with fail
    refine (pick_c g ao n c _ 5 _ (by omega) (by omega) D3.out.cur).mono ?_
    rintro e w4 ⟨x, rfl, x0, x1, hc, hg⟩
    have D4 := hidOf (D3.out.drew hgB hc hg)
    clear hc hg D3
    go_wp2_with fail
    refine (taps_c g ao n c _ _ (by omega) D4.out.cur).mono ?_
    rintro e w5 ⟨a8, n8, c8, zs, rfl, hn8, ho, hc, hg⟩
    have HO : Hid (Own w5 B (.slice a8 n8 c8) zs) := ho.mono D4.out.size
    have HC : Hid (Cur w5 g ao n c (M + 60)) := hc.mono (by omega)
    have HG : Hid (GB g w w5) := D4.out.gb.trans hg
    clear ho hc hg D4
    go_wp2
    refine bodyPost_ret (v := .tuple #[.int .i64 (x - 1), .slice a8 n8 c8]) (by simp [results, Try.results52, go_sem]; try rfl) rfl ?_
    exact ⟨x - 1, a8, n8, c8, zs, rfl, by omega, by rw [HEQ.out]; exact HO.out, HC.out, HG.out⟩

def DrawnBs (g : Nat) (ao : Option Addr) (n c : Nat) (M : Int) (w : World) (e : Ending) (w' : World) : Prop := ∃ (a' : Option Addr) (p c' : Nat) (xs : List (Int × Int × Int)), e = .returned (.slice a' p c') ∧ p ≤ 61 ∧ OwnT w' w.heap.size (.slice a' p c') xs ∧ Cur w' g ao n c (M + 2000) ∧ GB g w w'
set_option maxHeartbeats 16000000 in
theorem boardSteps_c (g : Nat) (ao : Option Addr) (n c : Nat) (M : Int) (w : World) (hM : M ≤ 100000) (h : Cur w g ao n c M) :
  Calls Try.prog 53 #[.pointer (some ⟨g, 0, none⟩)] w fun e w' => DrawnBs g ao n c M w e w' := by
 have HC : Hid (Cur w g ao n c M) := h
 obtain ⟨B, hB⟩ : ∃ B, w.heap.size = B := ⟨_, rfl⟩
 have hOB : Hid (Old ao n B) := by rw [← hB]; exact h.code.old
 have hgB : g < B := by rw [← hB]; exact h.lt
 have HEQ : Hid (w.heap.size = B) := hB
 clear h hB
 go_enter Try.func53, Try.ntmps53
 go_wp2_with fail
 refine (pick_c g ao n c M 40 _ (by omega) (by omega) HC.out).mono ?_
 rintro e w1 ⟨z, rfl, hz0', hz1', hc1, hg1⟩
 have C1 : Hid (Cur w1 g ao n c (M + 2)) := hc1
 have G1 : Hid (GB g w w1) := hg1
 clear hc1 hg1 HC
 go_wp2_with fail
 refine (one_c g ao n c (M + 2) 20 _ (by omega) (by omega) C1.out).mono ?_
 rintro e w2 ⟨b, rfl, hc1, hg1⟩
 have C2 : Hid (Cur w2 g ao n c (M + 4)) := hc1.mono (by omega)
 have G2 : Hid (GB g w w2) := G1.out.trans hg1
 clear hc1 hg1 C1 G1
 cases b with
 | false =>
  obtain ⟨n0, rfl⟩ : ∃ n0 : Nat, z = (n0 : Int) := ⟨z.toNat, by omega⟩
  have hn0 : n0 ≤ 61 := by omega
  have C3 : Hid (Cur w2 g ao n c (M + 6)) := C2.out.mono (by omega)
  have G3 : Hid (GB g w w2) := G2
  have hB3 : B ≤ w2.heap.size := by rw [← HEQ.out]; exact G2.out.size
  clear C2 G2 hz0' hz1'
  go_wp2
  go_loopw [3, 4] (fun u i wr => ∃ (k p : Nat) (xs : List (Int × Int × Int)), i = .int .i64 k ∧ p + k = n0 ∧ Hid (xs.length = p) ∧ Hid (OwnT wr B u xs) ∧ Hid (Cur wr g ao n c (M + 10 + 16 * p)) ∧ Hid (GB g w wr) ∧ B ≤ wr.heap.size) (fun _ i _ => (intOf i).toNat)
  case atStart => exact ⟨n0, 0, [], by first | rfl | go_num, by omega, rfl, World.ownsRow_nil _ _ _ _, C3.out.mono (by omega), G3, hB3⟩
  case round =>
   clear C3 G3 hB3
   obtain ⟨k, p, xs, rfl, hkp, HP, hY, hC, hG, hBr⟩ := hrel
   have hp4 : p ≤ 61 := by omega
   by_cases hlt : 0 < k
   ·have k1 : (0 : Int) < (k : Int) := by omega
    have kk : (k : Int) ≤ 61 := by omega
    have HKP : Hid (p + k = n0 ∧ 0 < k) := ⟨hkp, hlt⟩
    clear hkp
    have hgl := hC.out.lt
    have hlit := lit_cells (fun x => x = 1 ∨ x = 2) wr #[.int .i64 1, .int .i64 2, .int .i64 2, .int .i64 2, .int .i64 2, .int .i64 2, .int .i64 2, .int .i64 2, .int .i64 2] 3 9 rfl ⟨Or.inl rfl, Or.inr rfl, Or.inr rfl, Or.inr rfl, Or.inr rfl, Or.inr rfl, Or.inr rfl, Or.inr rfl, Or.inr rfl, trivial⟩
    have hbl := balloc wr (.cells #[.int .i64 1, .int .i64 2, .int .i64 2, .int .i64 2, .int .i64 2, .int .i64 2, .int .i64 2, .int .i64 2, .int .i64 2] 3)
    go_wp2_with fail
    refine (among_p (fun x => x = 1 ∨ x = 2) g ao n c _ wr.heap.size 9 _ (by omega) (by omega) hlit (by omega) (hC.out.alloc _)).mono ?_
    rintro e wa ⟨z, rfl, hz, hc1, hg1⟩
    have HC1 : Hid (Cur wa g ao n c (M + 10 + 16 * p + 2)) := hc1
    have HG1 : Hid (GB g w wa) := (hG.out.alloc _).trans hg1
    have HY1 : Hid (OwnT wa B u3 xs) := (hY.out.later hbl).kept hg1 (sepT hY.out hgB)
    have hBa : B ≤ wa.heap.size := Nat.le_trans hBr (Nat.le_trans hbl.size hg1.size)
    clear hc1 hg1 hC hG hY hBr hlit hgl hbl
    have DA : Hid (DSt w (wa.alloc (.cells #[.int .i64 z, .int .i64 0, .int .i64 0] 40)) g B n c wa.heap.size ao (M + 10 + 16 * p + 2) u3 xs z 0 0) := DSt.new _ _ _ _ HC1.out HG1.out HY1.out hBa
    clear HC1 HG1 HY1
    go_wp2_with fail
    refine (one_c g ao n c _ 30 _ (by omega) (by omega) DA.out.cur).mono ?_
    rintro e wb ⟨b, rfl, hc1, hg1⟩
    have DB := hidOf (DA.out.drew hgB hc1 hg1)
    clear hc1 hg1 DA
    cases b
    case true =>
     obtain ⟨⟨x0, x1, x2⟩, xf⟩ := id DB.out.box
     have xf0 := xf 0
     have DC := hidOf (DB.out.set0 hgB HEQ.out hOB.out 3)
     clear xf DB
     go_wp2_with fail
     refine (one_c g ao n c _ 40 _ (by omega) (by omega) DC.out.cur).mono ?_
     rintro e wm ⟨bq, rfl, hc1, hg1⟩
     have DM := hidOf (DC.out.drew hgB hc1 hg1)
     clear hc1 hg1 DC
     cases bq with
     | false =>
      obtain ⟨⟨x0, x1, x2⟩, xf⟩ := id DM.out.box
      obtain ⟨a', c', wd, r1, o1, cb, gb, bb⟩ := DM.out.grow hgB HEQ.out hOB.out HP.out (by omega) wm.heap.size rfl
      have HO1 : Hid (OwnT wd B (.slice a' (p + 1) c') (xs ++ [(3, 0, 0)])) := o1
      have HC1 : Hid (Cur wd g ao n c (M + 10 + 16 * p + 16)) := cb.mono (by omega)
      have HG1 : Hid (GB g w wd) := gb
      have HL1 : Hid ((xs ++ [(3, 0, 0)]).length = p + 1) := by show _ = _; rw [List.length_append, HP.out]; rfl
      clear o1 cb gb DM HP xf
      go_wp2_with (at_builtin; refine Lib.wpList_append_run _ rfl _ _ _ _ rfl _ _ rfl rfl _ _ (r1 _) ?_; clear r1)
      go_roundw
      case rel => exact ⟨k - 1, p + 1, xs ++ [(3, 0, 0)], by have := HKP.out; go_num, by have := HKP.out; omega, HL1, HO1, HC1.out.mono (by push_cast; omega), HG1, bb⟩
      case measure => have := HKP.out; simp [intOf]; omega
     | true =>
      go_wp2_with fail
      refine (pick_c g ao n c _ 5 _ (by omega) (by omega) DM.out.cur).mono ?_
      rintro e wn ⟨z4, rfl, _, _, hc1, hg1⟩
      have DN := hidOf (DM.out.drew hgB hc1 hg1)
      clear hc1 hg1 DM
      have hgl := DN.out.cur.lt
      have hlit := lit_cells (fun _ => True) wn #[.int .i64 (-1), .int .i64 0, .int .i64 6, .int .i64 7] 3 4 rfl ⟨trivial, trivial, trivial, trivial, trivial⟩
      go_wp2_with fail
      refine (among_p (fun _ => True) g ao n c _ wn.heap.size 4 _ (by omega) (by omega) hlit (by omega) (DN.out.cur.alloc _)).mono ?_
      rintro e wo ⟨z5, rfl, _, hc1, hg1⟩
      have DO := hidOf ((DN.out.alloc _).drew hgB hc1 hg1)
      clear hc1 hg1 DN hlit hgl
      have hgl := DO.out.cur.lt
      have hlit := lit_cells (fun _ => True) wo #[.int .i64 (-1), .int .i64 0, .int .i64 9, .int .i64 10] 3 4 rfl ⟨trivial, trivial, trivial, trivial, trivial⟩
      go_wp2_with fail
      refine (among_p (fun _ => True) g ao n c _ wo.heap.size 4 _ (by omega) (by omega) hlit (by omega) (DO.out.cur.alloc _)).mono ?_
      rintro e wp ⟨z6, rfl, _, hc1, hg1⟩
      have DQ := hidOf ((DO.out.alloc _).drew hgB hc1 hg1)
      clear hc1 hg1 DO hlit hgl
      obtain ⟨⟨x0, x1, x2⟩, xf⟩ := id DQ.out.box
      have xf0 := xf 0
      have xf1 := xf 1
      have xf2 := xf 2
      have DS := ((DQ.out.set0 hgB HEQ.out hOB.out z4).set1 hgB HEQ.out hOB.out z5).set2 hgB HEQ.out hOB.out z6
      obtain ⟨a', c', wd, r1, o1, cb, gb, bb⟩ := DS.grow hgB HEQ.out hOB.out HP.out (by omega) wp.heap.size (by simp)
      have HO1 : Hid (OwnT wd B (.slice a' (p + 1) c') (xs ++ [(z4, z5, z6)])) := o1
      have HC1 : Hid (Cur wd g ao n c (M + 10 + 16 * p + 16)) := cb.mono (by omega)
      have HG1 : Hid (GB g w wd) := gb
      have HL1 : Hid ((xs ++ [(z4, z5, z6)]).length = p + 1) := by show _ = _; rw [List.length_append, HP.out]; rfl
      clear o1 cb gb DS DQ HP xf
      go_wp2_with (at_builtin; refine Lib.wpList_append_run _ rfl _ _ _ _ rfl _ _ rfl rfl _ _ (r1 _) ?_; clear r1)
      go_roundw
      case rel => exact ⟨k - 1, p + 1, xs ++ [(z4, z5, z6)], by have := HKP.out; go_num, by have := HKP.out; omega, HL1, HO1, HC1.out.mono (by push_cast; omega), HG1, bb⟩
      case measure => have := HKP.out; simp [intOf]; omega
    case false =>
     obtain rfl | rfl := hz
     ·skip
      obtain ⟨⟨x0, x1, x2⟩, xf⟩ := id DB.out.box
      clear xf
      go_wp2_with fail
      refine (pick_c g ao n c _ 2 _ (by omega) (by omega) DB.out.cur).mono ?_
      rintro e wc ⟨y2, rfl, _, _, hc1, hg1⟩
      have DC := hidOf (DB.out.drew hgB hc1 hg1)
      clear hc1 hg1 DB x0 x1 x2
      obtain ⟨⟨x0, x1, x2⟩, xf⟩ := id DC.out.box
      have xf2 := xf 2
      have DD := hidOf (DC.out.set2 hgB HEQ.out hOB.out y2)
      clear xf DC
      go_wp2_with fail
      refine (one_c g ao n c _ 40 _ (by omega) (by omega) DD.out.cur).mono ?_
      rintro e wm ⟨bq, rfl, hc1, hg1⟩
      have DM := hidOf (DD.out.drew hgB hc1 hg1)
      clear hc1 hg1 DD
      cases bq with
      | false =>
       obtain ⟨⟨x0, x1, x2⟩, xf⟩ := id DM.out.box
       obtain ⟨a', c', wd, r1, o1, cb, gb, bb⟩ := DM.out.grow hgB HEQ.out hOB.out HP.out (by omega) wm.heap.size rfl
       have HO1 : Hid (OwnT wd B (.slice a' (p + 1) c') (xs ++ [(1, 0, y2)])) := o1
       have HC1 : Hid (Cur wd g ao n c (M + 10 + 16 * p + 16)) := cb.mono (by omega)
       have HG1 : Hid (GB g w wd) := gb
       have HL1 : Hid ((xs ++ [(1, 0, y2)]).length = p + 1) := by show _ = _; rw [List.length_append, HP.out]; rfl
       clear o1 cb gb DM HP xf
       go_wp2_with (at_builtin; refine Lib.wpList_append_run _ rfl _ _ _ _ rfl _ _ rfl rfl _ _ (r1 _) ?_; clear r1)
       go_roundw
       case rel => exact ⟨k - 1, p + 1, xs ++ [(1, 0, y2)], by have := HKP.out; go_num, by have := HKP.out; omega, HL1, HO1, HC1.out.mono (by push_cast; omega), HG1, bb⟩
       case measure => have := HKP.out; simp [intOf]; omega
      | true =>
       go_wp2_with fail
       refine (pick_c g ao n c _ 5 _ (by omega) (by omega) DM.out.cur).mono ?_
       rintro e wn ⟨z4, rfl, _, _, hc1, hg1⟩
       have DN := hidOf (DM.out.drew hgB hc1 hg1)
       clear hc1 hg1 DM
       have hgl := DN.out.cur.lt
       have hlit := lit_cells (fun _ => True) wn #[.int .i64 (-1), .int .i64 0, .int .i64 6, .int .i64 7] 3 4 rfl ⟨trivial, trivial, trivial, trivial, trivial⟩
       go_wp2_with fail
       refine (among_p (fun _ => True) g ao n c _ wn.heap.size 4 _ (by omega) (by omega) hlit (by omega) (DN.out.cur.alloc _)).mono ?_
       rintro e wo ⟨z5, rfl, _, hc1, hg1⟩
       have DO := hidOf ((DN.out.alloc _).drew hgB hc1 hg1)
       clear hc1 hg1 DN hlit hgl
       have hgl := DO.out.cur.lt
       have hlit := lit_cells (fun _ => True) wo #[.int .i64 (-1), .int .i64 0, .int .i64 9, .int .i64 10] 3 4 rfl ⟨trivial, trivial, trivial, trivial, trivial⟩
       go_wp2_with fail
       refine (among_p (fun _ => True) g ao n c _ wo.heap.size 4 _ (by omega) (by omega) hlit (by omega) (DO.out.cur.alloc _)).mono ?_
       rintro e wp ⟨z6, rfl, _, hc1, hg1⟩
       have DQ := hidOf ((DO.out.alloc _).drew hgB hc1 hg1)
       clear hc1 hg1 DO hlit hgl
       obtain ⟨⟨x0, x1, x2⟩, xf⟩ := id DQ.out.box
       have xf0 := xf 0
       have xf1 := xf 1
       have xf2 := xf 2
       have DS := ((DQ.out.set0 hgB HEQ.out hOB.out z4).set1 hgB HEQ.out hOB.out z5).set2 hgB HEQ.out hOB.out z6
       obtain ⟨a', c', wd, r1, o1, cb, gb, bb⟩ := DS.grow hgB HEQ.out hOB.out HP.out (by omega) wp.heap.size (by simp)
       have HO1 : Hid (OwnT wd B (.slice a' (p + 1) c') (xs ++ [(z4, z5, z6)])) := o1
       have HC1 : Hid (Cur wd g ao n c (M + 10 + 16 * p + 16)) := cb.mono (by omega)
       have HG1 : Hid (GB g w wd) := gb
       have HL1 : Hid ((xs ++ [(z4, z5, z6)]).length = p + 1) := by show _ = _; rw [List.length_append, HP.out]; rfl
       clear o1 cb gb DS DQ HP xf
       go_wp2_with (at_builtin; refine Lib.wpList_append_run _ rfl _ _ _ _ rfl _ _ rfl rfl _ _ (r1 _) ?_; clear r1)
       go_roundw
       case rel => exact ⟨k - 1, p + 1, xs ++ [(z4, z5, z6)], by have := HKP.out; go_num, by have := HKP.out; omega, HL1, HO1, HC1.out.mono (by push_cast; omega), HG1, bb⟩
       case measure => have := HKP.out; simp [intOf]; omega
     ·skip
      obtain ⟨⟨x0, x1, x2⟩, xf⟩ := id DB.out.box
      clear xf
      go_wp2_with fail
      refine (pick_c g ao n c _ 2 _ (by omega) (by omega) DB.out.cur).mono ?_
      rintro e wc ⟨y2, rfl, _, _, hc1, hg1⟩
      have DC := hidOf (DB.out.drew hgB hc1 hg1)
      clear hc1 hg1 DB x0 x1 x2
      obtain ⟨⟨x0, x1, x2⟩, xf⟩ := id DC.out.box
      have xf2 := xf 2
      have DD := hidOf (DC.out.set2 hgB HEQ.out hOB.out y2)
      clear xf DC
      go_wp2_with fail
      refine (pick_c g ao n c _ 7 _ (by omega) (by omega) DD.out.cur).mono ?_
      rintro e we ⟨y1, rfl, _, _, hc1, hg1⟩
      have DE := hidOf (DD.out.drew hgB hc1 hg1)
      clear hc1 hg1 DD xf2 x0 x1 x2
      obtain ⟨⟨x0, x1, x2⟩, xf⟩ := id DE.out.box
      have xf1 := xf 1
      have DF := hidOf (DE.out.set1 hgB HEQ.out hOB.out y1)
      clear xf DE
      go_wp2_with fail
      refine (one_c g ao n c _ 40 _ (by omega) (by omega) DF.out.cur).mono ?_
      rintro e wm ⟨bq, rfl, hc1, hg1⟩
      have DM := hidOf (DF.out.drew hgB hc1 hg1)
      clear hc1 hg1 DF
      cases bq with
      | false =>
       obtain ⟨⟨x0, x1, x2⟩, xf⟩ := id DM.out.box
       obtain ⟨a', c', wd, r1, o1, cb, gb, bb⟩ := DM.out.grow hgB HEQ.out hOB.out HP.out (by omega) wm.heap.size rfl
       have HO1 : Hid (OwnT wd B (.slice a' (p + 1) c') (xs ++ [(2, y1, y2)])) := o1
       have HC1 : Hid (Cur wd g ao n c (M + 10 + 16 * p + 16)) := cb.mono (by omega)
       have HG1 : Hid (GB g w wd) := gb
       have HL1 : Hid ((xs ++ [(2, y1, y2)]).length = p + 1) := by show _ = _; rw [List.length_append, HP.out]; rfl
       clear o1 cb gb DM HP xf
       go_wp2_with (at_builtin; refine Lib.wpList_append_run _ rfl _ _ _ _ rfl _ _ rfl rfl _ _ (r1 _) ?_; clear r1)
       go_roundw
       case rel => exact ⟨k - 1, p + 1, xs ++ [(2, y1, y2)], by have := HKP.out; go_num, by have := HKP.out; omega, HL1, HO1, HC1.out.mono (by push_cast; omega), HG1, bb⟩
       case measure => have := HKP.out; simp [intOf]; omega
      | true =>
       go_wp2_with fail
       refine (pick_c g ao n c _ 5 _ (by omega) (by omega) DM.out.cur).mono ?_
       rintro e wn ⟨z4, rfl, _, _, hc1, hg1⟩
       have DN := hidOf (DM.out.drew hgB hc1 hg1)
       clear hc1 hg1 DM
       have hgl := DN.out.cur.lt
       have hlit := lit_cells (fun _ => True) wn #[.int .i64 (-1), .int .i64 0, .int .i64 6, .int .i64 7] 3 4 rfl ⟨trivial, trivial, trivial, trivial, trivial⟩
       go_wp2_with fail
       refine (among_p (fun _ => True) g ao n c _ wn.heap.size 4 _ (by omega) (by omega) hlit (by omega) (DN.out.cur.alloc _)).mono ?_
       rintro e wo ⟨z5, rfl, _, hc1, hg1⟩
       have DO := hidOf ((DN.out.alloc _).drew hgB hc1 hg1)
       clear hc1 hg1 DN hlit hgl
       have hgl := DO.out.cur.lt
       have hlit := lit_cells (fun _ => True) wo #[.int .i64 (-1), .int .i64 0, .int .i64 9, .int .i64 10] 3 4 rfl ⟨trivial, trivial, trivial, trivial, trivial⟩
       go_wp2_with fail
       refine (among_p (fun _ => True) g ao n c _ wo.heap.size 4 _ (by omega) (by omega) hlit (by omega) (DO.out.cur.alloc _)).mono ?_
       rintro e wp ⟨z6, rfl, _, hc1, hg1⟩
       have DQ := hidOf ((DO.out.alloc _).drew hgB hc1 hg1)
       clear hc1 hg1 DO hlit hgl
       obtain ⟨⟨x0, x1, x2⟩, xf⟩ := id DQ.out.box
       have xf0 := xf 0
       have xf1 := xf 1
       have xf2 := xf 2
       have DS := ((DQ.out.set0 hgB HEQ.out hOB.out z4).set1 hgB HEQ.out hOB.out z5).set2 hgB HEQ.out hOB.out z6
       obtain ⟨a', c', wd, r1, o1, cb, gb, bb⟩ := DS.grow hgB HEQ.out hOB.out HP.out (by omega) wp.heap.size (by simp)
       have HO1 : Hid (OwnT wd B (.slice a' (p + 1) c') (xs ++ [(z4, z5, z6)])) := o1
       have HC1 : Hid (Cur wd g ao n c (M + 10 + 16 * p + 16)) := cb.mono (by omega)
       have HG1 : Hid (GB g w wd) := gb
       have HL1 : Hid ((xs ++ [(z4, z5, z6)]).length = p + 1) := by show _ = _; rw [List.length_append, HP.out]; rfl
       clear o1 cb gb DS DQ HP xf
       go_wp2_with (at_builtin; refine Lib.wpList_append_run _ rfl _ _ _ _ rfl _ _ rfl rfl _ _ (r1 _) ?_; clear r1)
       go_roundw
       case rel => exact ⟨k - 1, p + 1, xs ++ [(z4, z5, z6)], by have := HKP.out; go_num, by have := HKP.out; omega, HL1, HO1, HC1.out.mono (by push_cast; omega), HG1, bb⟩
       case measure => have := HKP.out; simp [intOf]; omega
   ·have k1 : (k : Int) ≤ 0 := by omega
    obtain rfl : k = 0 := by omega
    obtain ⟨a2, c2, hv⟩ := hY.out.shape
    rw [HP.out] at hv
    subst hv
    have HKP : Hid (p + 0 = n0) := hkp
    clear hkp
    go_wp2
    go_ret
    exact ⟨a2, p, c2, xs, rfl, hp4, by rw [HEQ.out]; exact hY.out, hC.out.mono (by omega), hG.out⟩
 | true =>
  clear hz0' hz1'
  go_wp2_with fail
  refine (pick_c g ao n c (M + 4) 3 _ (by omega) (by omega) C2.out).mono ?_
  rintro e w3 ⟨z3, rfl, hz0', hz1', hc1, hg1⟩
  obtain ⟨n1, rfl⟩ : ∃ n1 : Nat, z3 = (n1 : Int) := ⟨z3.toNat, by omega⟩
  have hn1 : (n1 : Int) ≤ 2 := by omega
  have hn2 : (0 : Int) ≤ (n1 : Int) := by omega
  obtain ⟨n0, hn01⟩ : ∃ n0 : Nat, n0 = 59 + n1 := ⟨_, rfl⟩
  have hn0 : n0 ≤ 61 := by omega
  have C3 : Hid (Cur w3 g ao n c (M + 6)) := hc1.mono (by omega)
  have G3 : Hid (GB g w w3) := G2.out.trans hg1
  have hB3 : B ≤ w3.heap.size := by rw [← HEQ.out]; exact G3.out.size
  clear C2 G2 hc1 hg1
  go_wp2
  go_loopw [3, 4] (fun u i wr => ∃ (k p : Nat) (xs : List (Int × Int × Int)), i = .int .i64 k ∧ p + k = n0 ∧ Hid (xs.length = p) ∧ Hid (OwnT wr B u xs) ∧ Hid (Cur wr g ao n c (M + 10 + 16 * p)) ∧ Hid (GB g w wr) ∧ B ≤ wr.heap.size) (fun _ i _ => (intOf i).toNat)
  case atStart => exact ⟨n0, 0, [], by first | rfl | go_num, by omega, rfl, World.ownsRow_nil _ _ _ _, C3.out.mono (by omega), G3, hB3⟩
  case round =>
   clear C3 G3 hB3
   obtain ⟨k, p, xs, rfl, hkp, HP, hY, hC, hG, hBr⟩ := hrel
   have hp4 : p ≤ 61 := by omega
   by_cases hlt : 0 < k
   ·have k1 : (0 : Int) < (k : Int) := by omega
    have kk : (k : Int) ≤ 61 := by omega
    have HKP : Hid (p + k = n0 ∧ 0 < k) := ⟨hkp, hlt⟩
    clear hkp
    have hgl := hC.out.lt
    have hlit := lit_cells (fun x => x = 1 ∨ x = 2) wr #[.int .i64 1, .int .i64 2, .int .i64 2, .int .i64 2, .int .i64 2, .int .i64 2, .int .i64 2, .int .i64 2, .int .i64 2] 3 9 rfl ⟨Or.inl rfl, Or.inr rfl, Or.inr rfl, Or.inr rfl, Or.inr rfl, Or.inr rfl, Or.inr rfl, Or.inr rfl, Or.inr rfl, trivial⟩
    have hbl := balloc wr (.cells #[.int .i64 1, .int .i64 2, .int .i64 2, .int .i64 2, .int .i64 2, .int .i64 2, .int .i64 2, .int .i64 2, .int .i64 2] 3)
    go_wp2_with fail
    refine (among_p (fun x => x = 1 ∨ x = 2) g ao n c _ wr.heap.size 9 _ (by omega) (by omega) hlit (by omega) (hC.out.alloc _)).mono ?_
    rintro e wa ⟨z, rfl, hz, hc1, hg1⟩
    have HC1 : Hid (Cur wa g ao n c (M + 10 + 16 * p + 2)) := hc1
    have HG1 : Hid (GB g w wa) := (hG.out.alloc _).trans hg1
    have HY1 : Hid (OwnT wa B u3 xs) := (hY.out.later hbl).kept hg1 (sepT hY.out hgB)
    have hBa : B ≤ wa.heap.size := Nat.le_trans hBr (Nat.le_trans hbl.size hg1.size)
    clear hc1 hg1 hC hG hY hBr hlit hgl hbl
    have DA : Hid (DSt w (wa.alloc (.cells #[.int .i64 z, .int .i64 0, .int .i64 0] 40)) g B n c wa.heap.size ao (M + 10 + 16 * p + 2) u3 xs z 0 0) := DSt.new _ _ _ _ HC1.out HG1.out HY1.out hBa
    clear HC1 HG1 HY1
    go_wp2_with fail
    refine (one_c g ao n c _ 30 _ (by omega) (by omega) DA.out.cur).mono ?_
    rintro e wb ⟨b, rfl, hc1, hg1⟩
    have DB := hidOf (DA.out.drew hgB hc1 hg1)
    clear hc1 hg1 DA
    cases b
    case true =>
     obtain ⟨⟨x0, x1, x2⟩, xf⟩ := id DB.out.box
     have xf0 := xf 0
     have DC := hidOf (DB.out.set0 hgB HEQ.out hOB.out 3)
     clear xf DB
     go_wp2_with fail
     refine (one_c g ao n c _ 40 _ (by omega) (by omega) DC.out.cur).mono ?_
     rintro e wm ⟨bq, rfl, hc1, hg1⟩
     have DM := hidOf (DC.out.drew hgB hc1 hg1)
     clear hc1 hg1 DC
     cases bq with
     | false =>
      obtain ⟨⟨x0, x1, x2⟩, xf⟩ := id DM.out.box
      obtain ⟨a', c', wd, r1, o1, cb, gb, bb⟩ := DM.out.grow hgB HEQ.out hOB.out HP.out (by omega) wm.heap.size rfl
      have HO1 : Hid (OwnT wd B (.slice a' (p + 1) c') (xs ++ [(3, 0, 0)])) := o1
      have HC1 : Hid (Cur wd g ao n c (M + 10 + 16 * p + 16)) := cb.mono (by omega)
      have HG1 : Hid (GB g w wd) := gb
      have HL1 : Hid ((xs ++ [(3, 0, 0)]).length = p + 1) := by show _ = _; rw [List.length_append, HP.out]; rfl
      clear o1 cb gb DM HP xf
      go_wp2_with (at_builtin; refine Lib.wpList_append_run _ rfl _ _ _ _ rfl _ _ rfl rfl _ _ (r1 _) ?_; clear r1)
      go_roundw
      case rel => exact ⟨k - 1, p + 1, xs ++ [(3, 0, 0)], by have := HKP.out; go_num, by have := HKP.out; omega, HL1, HO1, HC1.out.mono (by push_cast; omega), HG1, bb⟩
      case measure => have := HKP.out; simp [intOf]; omega
     | true =>
      go_wp2_with fail
      refine (pick_c g ao n c _ 5 _ (by omega) (by omega) DM.out.cur).mono ?_
      rintro e wn ⟨z4, rfl, _, _, hc1, hg1⟩
      have DN := hidOf (DM.out.drew hgB hc1 hg1)
      clear hc1 hg1 DM
      have hgl := DN.out.cur.lt
      have hlit := lit_cells (fun _ => True) wn #[.int .i64 (-1), .int .i64 0, .int .i64 6, .int .i64 7] 3 4 rfl ⟨trivial, trivial, trivial, trivial, trivial⟩
      go_wp2_with fail
      refine (among_p (fun _ => True) g ao n c _ wn.heap.size 4 _ (by omega) (by omega) hlit (by omega) (DN.out.cur.alloc _)).mono ?_
      rintro e wo ⟨z5, rfl, _, hc1, hg1⟩
      have DO := hidOf ((DN.out.alloc _).drew hgB hc1 hg1)
      clear hc1 hg1 DN hlit hgl
      have hgl := DO.out.cur.lt
      have hlit := lit_cells (fun _ => True) wo #[.int .i64 (-1), .int .i64 0, .int .i64 9, .int .i64 10] 3 4 rfl ⟨trivial, trivial, trivial, trivial, trivial⟩
      go_wp2_with fail
      refine (among_p (fun _ => True) g ao n c _ wo.heap.size 4 _ (by omega) (by omega) hlit (by omega) (DO.out.cur.alloc _)).mono ?_
      rintro e wp ⟨z6, rfl, _, hc1, hg1⟩
      have DQ := hidOf ((DO.out.alloc _).drew hgB hc1 hg1)
      clear hc1 hg1 DO hlit hgl
      obtain ⟨⟨x0, x1, x2⟩, xf⟩ := id DQ.out.box
      have xf0 := xf 0
      have xf1 := xf 1
      have xf2 := xf 2
      have DS := ((DQ.out.set0 hgB HEQ.out hOB.out z4).set1 hgB HEQ.out hOB.out z5).set2 hgB HEQ.out hOB.out z6
      obtain ⟨a', c', wd, r1, o1, cb, gb, bb⟩ := DS.grow hgB HEQ.out hOB.out HP.out (by omega) wp.heap.size (by simp)
      have HO1 : Hid (OwnT wd B (.slice a' (p + 1) c') (xs ++ [(z4, z5, z6)])) := o1
      have HC1 : Hid (Cur wd g ao n c (M + 10 + 16 * p + 16)) := cb.mono (by omega)
      have HG1 : Hid (GB g w wd) := gb
      have HL1 : Hid ((xs ++ [(z4, z5, z6)]).length = p + 1) := by show _ = _; rw [List.length_append, HP.out]; rfl
      clear o1 cb gb DS DQ HP xf
      go_wp2_with (at_builtin; refine Lib.wpList_append_run _ rfl _ _ _ _ rfl _ _ rfl rfl _ _ (r1 _) ?_; clear r1)
      go_roundw
      case rel => exact ⟨k - 1, p + 1, xs ++ [(z4, z5, z6)], by have := HKP.out; go_num, by have := HKP.out; omega, HL1, HO1, HC1.out.mono (by push_cast; omega), HG1, bb⟩
      case measure => have := HKP.out; simp [intOf]; omega
    case false =>
     obtain rfl | rfl := hz
     ·skip
      obtain ⟨⟨x0, x1, x2⟩, xf⟩ := id DB.out.box
      clear xf
      go_wp2_with fail
      refine (pick_c g ao n c _ 2 _ (by omega) (by omega) DB.out.cur).mono ?_
      rintro e wc ⟨y2, rfl, _, _, hc1, hg1⟩
      have DC := hidOf (DB.out.drew hgB hc1 hg1)
      clear hc1 hg1 DB x0 x1 x2
      obtain ⟨⟨x0, x1, x2⟩, xf⟩ := id DC.out.box
      have xf2 := xf 2
      have DD := hidOf (DC.out.set2 hgB HEQ.out hOB.out y2)
      clear xf DC
      go_wp2_with fail
      refine (one_c g ao n c _ 40 _ (by omega) (by omega) DD.out.cur).mono ?_
      rintro e wm ⟨bq, rfl, hc1, hg1⟩
      have DM := hidOf (DD.out.drew hgB hc1 hg1)
      clear hc1 hg1 DD
      cases bq with
      | false =>
       obtain ⟨⟨x0, x1, x2⟩, xf⟩ := id DM.out.box
       obtain ⟨a', c', wd, r1, o1, cb, gb, bb⟩ := DM.out.grow hgB HEQ.out hOB.out HP.out (by omega) wm.heap.size rfl
       have HO1 : Hid (OwnT wd B (.slice a' (p + 1) c') (xs ++ [(1, 0, y2)])) := o1
       have HC1 : Hid (Cur wd g ao n c (M + 10 + 16 * p + 16)) := cb.mono (by omega)
       have HG1 : Hid (GB g w wd) := gb
       have HL1 : Hid ((xs ++ [(1, 0, y2)]).length = p + 1) := by show _ = _; rw [List.length_append, HP.out]; rfl
       clear o1 cb gb DM HP xf
       go_wp2_with (at_builtin; refine Lib.wpList_append_run _ rfl _ _ _ _ rfl _ _ rfl rfl _ _ (r1 _) ?_; clear r1)
       go_roundw
       case rel => exact ⟨k - 1, p + 1, xs ++ [(1, 0, y2)], by have := HKP.out; go_num, by have := HKP.out; omega, HL1, HO1, HC1.out.mono (by push_cast; omega), HG1, bb⟩
       case measure => have := HKP.out; simp [intOf]; omega
      | true =>
       go_wp2_with fail
       refine (pick_c g ao n c _ 5 _ (by omega) (by omega) DM.out.cur).mono ?_
       rintro e wn ⟨z4, rfl, _, _, hc1, hg1⟩
       have DN := hidOf (DM.out.drew hgB hc1 hg1)
       clear hc1 hg1 DM
       have hgl := DN.out.cur.lt
       have hlit := lit_cells (fun _ => True) wn #[.int .i64 (-1), .int .i64 0, .int .i64 6, .int .i64 7] 3 4 rfl ⟨trivial, trivial, trivial, trivial, trivial⟩
       go_wp2_with fail
       refine (among_p (fun _ => True) g ao n c _ wn.heap.size 4 _ (by omega) (by omega) hlit (by omega) (DN.out.cur.alloc _)).mono ?_
       rintro e wo ⟨z5, rfl, _, hc1, hg1⟩
       have DO := hidOf ((DN.out.alloc _).drew hgB hc1 hg1)
       clear hc1 hg1 DN hlit hgl
       have hgl := DO.out.cur.lt
       have hlit := lit_cells (fun _ => True) wo #[.int .i64 (-1), .int .i64 0, .int .i64 9, .int .i64 10] 3 4 rfl ⟨trivial, trivial, trivial, trivial, trivial⟩
       go_wp2_with fail
       refine (among_p (fun _ => True) g ao n c _ wo.heap.size 4 _ (by omega) (by omega) hlit (by omega) (DO.out.cur.alloc _)).mono ?_
       rintro e wp ⟨z6, rfl, _, hc1, hg1⟩
       have DQ := hidOf ((DO.out.alloc _).drew hgB hc1 hg1)
       clear hc1 hg1 DO hlit hgl
       obtain ⟨⟨x0, x1, x2⟩, xf⟩ := id DQ.out.box
       have xf0 := xf 0
       have xf1 := xf 1
       have xf2 := xf 2
       have DS := ((DQ.out.set0 hgB HEQ.out hOB.out z4).set1 hgB HEQ.out hOB.out z5).set2 hgB HEQ.out hOB.out z6
       obtain ⟨a', c', wd, r1, o1, cb, gb, bb⟩ := DS.grow hgB HEQ.out hOB.out HP.out (by omega) wp.heap.size (by simp)
       have HO1 : Hid (OwnT wd B (.slice a' (p + 1) c') (xs ++ [(z4, z5, z6)])) := o1
       have HC1 : Hid (Cur wd g ao n c (M + 10 + 16 * p + 16)) := cb.mono (by omega)
       have HG1 : Hid (GB g w wd) := gb
       have HL1 : Hid ((xs ++ [(z4, z5, z6)]).length = p + 1) := by show _ = _; rw [List.length_append, HP.out]; rfl
       clear o1 cb gb DS DQ HP xf
       go_wp2_with (at_builtin; refine Lib.wpList_append_run _ rfl _ _ _ _ rfl _ _ rfl rfl _ _ (r1 _) ?_; clear r1)
       go_roundw
       case rel => exact ⟨k - 1, p + 1, xs ++ [(z4, z5, z6)], by have := HKP.out; go_num, by have := HKP.out; omega, HL1, HO1, HC1.out.mono (by push_cast; omega), HG1, bb⟩
       case measure => have := HKP.out; simp [intOf]; omega
     ·skip
      obtain ⟨⟨x0, x1, x2⟩, xf⟩ := id DB.out.box
      clear xf
      go_wp2_with fail
      refine (pick_c g ao n c _ 2 _ (by omega) (by omega) DB.out.cur).mono ?_
      rintro e wc ⟨y2, rfl, _, _, hc1, hg1⟩
      have DC := hidOf (DB.out.drew hgB hc1 hg1)
      clear hc1 hg1 DB x0 x1 x2
      obtain ⟨⟨x0, x1, x2⟩, xf⟩ := id DC.out.box
      have xf2 := xf 2
      have DD := hidOf (DC.out.set2 hgB HEQ.out hOB.out y2)
      clear xf DC
      go_wp2_with fail
      refine (pick_c g ao n c _ 7 _ (by omega) (by omega) DD.out.cur).mono ?_
      rintro e we ⟨y1, rfl, _, _, hc1, hg1⟩
      have DE := hidOf (DD.out.drew hgB hc1 hg1)
      clear hc1 hg1 DD xf2 x0 x1 x2
      obtain ⟨⟨x0, x1, x2⟩, xf⟩ := id DE.out.box
      have xf1 := xf 1
      have DF := hidOf (DE.out.set1 hgB HEQ.out hOB.out y1)
      clear xf DE
      go_wp2_with fail
      refine (one_c g ao n c _ 40 _ (by omega) (by omega) DF.out.cur).mono ?_
      rintro e wm ⟨bq, rfl, hc1, hg1⟩
      have DM := hidOf (DF.out.drew hgB hc1 hg1)
      clear hc1 hg1 DF
      cases bq with
      | false =>
       obtain ⟨⟨x0, x1, x2⟩, xf⟩ := id DM.out.box
       obtain ⟨a', c', wd, r1, o1, cb, gb, bb⟩ := DM.out.grow hgB HEQ.out hOB.out HP.out (by omega) wm.heap.size rfl
       have HO1 : Hid (OwnT wd B (.slice a' (p + 1) c') (xs ++ [(2, y1, y2)])) := o1
       have HC1 : Hid (Cur wd g ao n c (M + 10 + 16 * p + 16)) := cb.mono (by omega)
       have HG1 : Hid (GB g w wd) := gb
       have HL1 : Hid ((xs ++ [(2, y1, y2)]).length = p + 1) := by show _ = _; rw [List.length_append, HP.out]; rfl
       clear o1 cb gb DM HP xf
       go_wp2_with (at_builtin; refine Lib.wpList_append_run _ rfl _ _ _ _ rfl _ _ rfl rfl _ _ (r1 _) ?_; clear r1)
       go_roundw
       case rel => exact ⟨k - 1, p + 1, xs ++ [(2, y1, y2)], by have := HKP.out; go_num, by have := HKP.out; omega, HL1, HO1, HC1.out.mono (by push_cast; omega), HG1, bb⟩
       case measure => have := HKP.out; simp [intOf]; omega
      | true =>
       go_wp2_with fail
       refine (pick_c g ao n c _ 5 _ (by omega) (by omega) DM.out.cur).mono ?_
       rintro e wn ⟨z4, rfl, _, _, hc1, hg1⟩
       have DN := hidOf (DM.out.drew hgB hc1 hg1)
       clear hc1 hg1 DM
       have hgl := DN.out.cur.lt
       have hlit := lit_cells (fun _ => True) wn #[.int .i64 (-1), .int .i64 0, .int .i64 6, .int .i64 7] 3 4 rfl ⟨trivial, trivial, trivial, trivial, trivial⟩
       go_wp2_with fail
       refine (among_p (fun _ => True) g ao n c _ wn.heap.size 4 _ (by omega) (by omega) hlit (by omega) (DN.out.cur.alloc _)).mono ?_
       rintro e wo ⟨z5, rfl, _, hc1, hg1⟩
       have DO := hidOf ((DN.out.alloc _).drew hgB hc1 hg1)
       clear hc1 hg1 DN hlit hgl
       have hgl := DO.out.cur.lt
       have hlit := lit_cells (fun _ => True) wo #[.int .i64 (-1), .int .i64 0, .int .i64 9, .int .i64 10] 3 4 rfl ⟨trivial, trivial, trivial, trivial, trivial⟩
       go_wp2_with fail
       refine (among_p (fun _ => True) g ao n c _ wo.heap.size 4 _ (by omega) (by omega) hlit (by omega) (DO.out.cur.alloc _)).mono ?_
       rintro e wp ⟨z6, rfl, _, hc1, hg1⟩
       have DQ := hidOf ((DO.out.alloc _).drew hgB hc1 hg1)
       clear hc1 hg1 DO hlit hgl
       obtain ⟨⟨x0, x1, x2⟩, xf⟩ := id DQ.out.box
       have xf0 := xf 0
       have xf1 := xf 1
       have xf2 := xf 2
       have DS := ((DQ.out.set0 hgB HEQ.out hOB.out z4).set1 hgB HEQ.out hOB.out z5).set2 hgB HEQ.out hOB.out z6
       obtain ⟨a', c', wd, r1, o1, cb, gb, bb⟩ := DS.grow hgB HEQ.out hOB.out HP.out (by omega) wp.heap.size (by simp)
       have HO1 : Hid (OwnT wd B (.slice a' (p + 1) c') (xs ++ [(z4, z5, z6)])) := o1
       have HC1 : Hid (Cur wd g ao n c (M + 10 + 16 * p + 16)) := cb.mono (by omega)
       have HG1 : Hid (GB g w wd) := gb
       have HL1 : Hid ((xs ++ [(z4, z5, z6)]).length = p + 1) := by show _ = _; rw [List.length_append, HP.out]; rfl
       clear o1 cb gb DS DQ HP xf
       go_wp2_with (at_builtin; refine Lib.wpList_append_run _ rfl _ _ _ _ rfl _ _ rfl rfl _ _ (r1 _) ?_; clear r1)
       go_roundw
       case rel => exact ⟨k - 1, p + 1, xs ++ [(z4, z5, z6)], by have := HKP.out; go_num, by have := HKP.out; omega, HL1, HO1, HC1.out.mono (by push_cast; omega), HG1, bb⟩
       case measure => have := HKP.out; simp [intOf]; omega
   ·have k1 : (k : Int) ≤ 0 := by omega
    obtain rfl : k = 0 := by omega
    obtain ⟨a2, c2, hv⟩ := hY.out.shape
    rw [HP.out] at hv
    subst hv
    have HKP : Hid (p + 0 = n0) := hkp
    clear hkp
    go_wp2
    go_ret
    exact ⟨a2, p, c2, xs, rfl, hp4, by rw [HEQ.out]; exact hY.out, hC.out.mono (by omega), hG.out⟩

end Go.Proofs.Ytaokmjbhgkfnfaa
