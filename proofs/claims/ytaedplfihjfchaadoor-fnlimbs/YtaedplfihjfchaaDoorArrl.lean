/- Rows of six limbs in blocks of their own: how they are read and written; the contract of rowOf. -/
import Derived.Test.YtaedplfihjfchaaDoorGoodl
import Derived.Test.YtaedplfihjfchaaDoorNuml
namespace Go.Proofs.YtaedplfihjfchaaDoor
set_option linter.unusedVariables false
set_option maxRecDepth 1000000
set_option linter.unusedSimpArgs false
open Go.RowKit

/-- Block g is an array (of type t) that holds the numbers L. -/
def OwnA (t : TypeId) (w : World) (g : Nat) (L : List Int) : Prop := w.ownsRow 0 t 1 (.slice (some ⟨g, 0, none⟩) L.length L.length) L.length (cellsI L)

theorem OwnA.cell {t : TypeId} {w : World} {g : Nat} {L : List Int} (h : OwnA t w g L) (j : Nat) (hj : j < L.length) : w.cell? ⟨g, j, none⟩ = some (.int .i64 (L.getD j 0)) := by
  rw [World.ownsRow.cellAt h j (by omega)]; exact getD_map_int L j hj
theorem OwnA.free {t : TypeId} {w : World} {g : Nat} {L : List Int} (h : OwnA t w g L) (j : Nat) : w.frozen? ⟨g, j, none⟩ = false := World.ownsRow.frozenAt h j
theorem OwnA.lt {t : TypeId} {w : World} {g : Nat} {L : List Int} (h : OwnA t w g L) : g < w.heap.size := (World.ownsRow.lt h g rfl).2
theorem OwnA.stored {t : TypeId} {w : World} {g : Nat} {L : List Int} (h : OwnA t w g L) (j : Nat) (x : Int) : OwnA t (w.setCell ⟨g, j, none⟩ (.int .i64 x)) g (L.set j x) := by
  have := (World.ownsRow.stored h j (.int .i64 x)).1
  rw [cellsI_set] at this
  unfold OwnA
  simpa using this
theorem OwnA.other {t : TypeId} {w : World} {g : Nat} {L : List Int} (h : OwnA t w g L) (a : Addr) (u : Value) (hne : g ≠ a.block) : OwnA t (w.setCell a u) g L := by
  refine World.ownsRow.kept (row := some a.block) h ⟨rfl, rfl, rfl, by simp, fun k _ hk => heap_setCell_other w a k u (fun e => hk (by simp [e]))⟩ (Or.inr ?_)
  simpa [Value.ownBlock] using hne
theorem OwnA.later {t : TypeId} {w w' : World} {g : Nat} {L : List Int} (h : OwnA t w g L) (hb : Below w.heap.size w w') : OwnA t w' g L :=
  World.ownsRow.kept (row := none) h ⟨hb.os, hb.tape, hb.output, hb.size, fun k hk _ => hb.block k hk⟩ (Or.inr (by simp [Value.ownBlock]))
theorem OwnA.alloc {t : TypeId} {w : World} {g : Nat} {L : List Int} (h : OwnA t w g L) (o : Obj) : OwnA t (w.alloc o) g L := World.ownsRow.alloc h o
theorem OwnA.drewN {t : TypeId} {w : World} {g : Nat} {L : List Int} (h : OwnA t w g L) (n : Nat) : OwnA t (w.drewN n) g L := h.later (below_drewN (Below.refl _ _) n)
theorem ownA_new (t : TypeId) (w : World) (L : List Int) (cs : Array Value) (e : cs.toList = cellsI L) (hl : L.length ≤ 100) : OwnA t (w.alloc (.cells cs t)) w.heap.size L := by
  have hs : cs.size = L.length * 1 := by rw [← Array.length_toList, e, cellsI_length]; omega
  have := World.ownsRow_lit (base := 0) (e := t) (size := 1) w cs L.length (Nat.zero_le _) (by unfold maxLen; omega) hs
  unfold OwnA
  rw [← e]
  exact this

theorem ownA_at (t : TypeId) (w : World) (g : Nat) (L : List Int) (cs : Array Value) (e : cs.toList = cellsI L) (hl : L.length ≤ 100) (hg : w.heap.size = g) : OwnA t (w.alloc (.cells cs t)) g L := by
  rw [← hg]; exact ownA_new t w L cs e hl

theorem below_set6 {B : Nat} {a w : World} (h : Below B a w) {g : Nat} (hg : B ≤ g) {v0 v1 v2 v3 v4 v5 : Value} :
    Below B a ((((((w.setCell ⟨g, 0, none⟩ v0).setCell ⟨g, 1, none⟩ v1).setCell ⟨g, 2, none⟩ v2).setCell ⟨g, 3, none⟩ v3).setCell ⟨g, 4, none⟩ v4).setCell ⟨g, 5, none⟩ v5) :=
  (((((h.setCell hg _).setCell hg _).setCell hg _).setCell hg _).setCell hg _).setCell hg _

/-- Six limbs, noughts behind the number. -/
def pad6 (xs : List Int) : List Int := xs ++ List.replicate (6 - xs.length) 0

theorem pad6_length {xs : List Int} (h : xs.length ≤ 6) : (pad6 xs).length = 6 := by simp [pad6]; omega
theorem pad6_val (xs : List Int) : val (pad6 xs) = val xs := val_append_zeros _ _
theorem pad6_digs {xs : List Int} (h : Digs xs) : Digs (pad6 xs) := h.append (digs_replicate _)

theorem list6 {L : List Int} (h : L.length = 6) : ∃ a0 a1 a2 a3 a4 a5, L = [a0, a1, a2, a3, a4, a5] := by
  match L, h with
  | [a0, a1, a2, a3, a4, a5], _ => exact ⟨a0, a1, a2, a3, a4, a5, rfl⟩

theorem OwnA.cells6 {t : TypeId} {w : World} {g : Nat} {a0 a1 a2 a3 a4 a5 : Int} (h : OwnA t w g [a0, a1, a2, a3, a4, a5]) :
    w.cell? ⟨g, 0, none⟩ = some (.int .i64 a0) ∧ w.cell? ⟨g, 1, none⟩ = some (.int .i64 a1) ∧ w.cell? ⟨g, 2, none⟩ = some (.int .i64 a2) ∧ w.cell? ⟨g, 3, none⟩ = some (.int .i64 a3) ∧ w.cell? ⟨g, 4, none⟩ = some (.int .i64 a4) ∧ w.cell? ⟨g, 5, none⟩ = some (.int .i64 a5) :=
  ⟨h.cell 0 (by simp), h.cell 1 (by simp), h.cell 2 (by simp), h.cell 3 (by simp), h.cell 4 (by simp), h.cell 5 (by simp)⟩

theorem set_pad (xs : List Int) (k : Nat) (h : k < xs.length) (h6 : k < 6) : (xs.take k ++ List.replicate (6 - k) 0).set k (xs.getD k 0) = xs.take (k + 1) ++ List.replicate (6 - (k + 1)) 0 := by
  have e : List.replicate (6 - k) (0 : Int) = 0 :: List.replicate (6 - (k + 1)) 0 := by
    rw [show 6 - k = (6 - (k + 1)) + 1 by omega, List.replicate_succ]
  rw [e, List.set_append_right _ _ (by simp; omega)]
  simp only [List.length_take, Nat.min_eq_left (Nat.le_of_lt h), Nat.sub_self, List.set_cons_zero]
  rw [List.take_succ_eq_append_getElem h]
  simp only [List.getD, List.getElem?_eq_getElem h, Option.getD_some, List.append_assoc, List.cons_append, List.nil_append]

set_option maxHeartbeats 1000000 in
theorem rowOf_at (b o n c : Nat) (xs : List Int) (w : World) (hx : xs.length = n) (hn : n ≤ 6) (hc : ∀ j, j < n → w.cell? ⟨b, o + j, none⟩ = some (.int .i64 (xs.getD j 0))) :
    Calls Tryd.prog 29 #[.agg #[.slice (some ⟨b, o, none⟩) n c]] w fun e w' => ∃ a0 a1 a2 a3 a4 a5 : Int, e = .returned (.agg #[.int .i64 a0, .int .i64 a1, .int .i64 a2, .int .i64 a3, .int .i64 a4, .int .i64 a5]) ∧ Hid (pad6 xs = [a0, a1, a2, a3, a4, a5]) ∧ Below w.heap.size w w' := by
  have HX : Hid (xs.length = n) := hx
  have HC : Hid (∀ j, j < n → w.cell? ⟨b, o + j, none⟩ = some (.int .i64 (xs.getD j 0))) := hc
  clear hx hc
  go_enter Tryd.func29, Tryd.ntmps29
  go_wp2
  go_loopw [9] (fun i wr => ∃ k : Nat, k ≤ n ∧ i = .int .i64 k ∧ Hid (OwnA 53 wr (w.heap.size + 1 + 1) (xs.take k ++ List.replicate (6 - k) 0)) ∧ Hid (OwnA 53 wr (w.heap.size + 1) [0, 0, 0, 0, 0, 0]) ∧ Hid (Below w.heap.size w wr)) (fun i _ => n - (intOf i).toNat)
  case atStart => exact ⟨0, Nat.zero_le _, rfl, ownA_at _ _ _ [0, 0, 0, 0, 0, 0] _ rfl (by simp) (by simp), (ownA_at _ _ _ _ _ rfl (by simp) (by simp)).alloc _, (((Below.refl _ _).alloc (Nat.le_refl _) _).alloc (by simp) _).alloc (by simp; omega) _⟩
  case round =>
    obtain ⟨k, hk, rfl, hA, hR, hB⟩ := hrel
    by_cases hlt : k < n
    · have hcb := HC.out k hlt
      have hbw := World.block_lt_of_cell? w _ hcb
      have g1 : wr.cell? ⟨b, o + k, none⟩ = some (.int .i64 (xs.getD k 0)) := by rw [hB.out.cell (p := ⟨b, o + k, none⟩) hbw]; exact hcb
      have g2 := hA.out.cell k (by simp; rw [HX.out]; omega)
      have g3 := hA.out.free k
      have hS : Hid (OwnA 53 (wr.setCell ⟨w.heap.size + 1 + 1, k, none⟩ (.int .i64 (xs.getD k 0))) (w.heap.size + 1 + 1) (xs.take (k + 1) ++ List.replicate (6 - (k + 1)) 0)) := by
        have := hA.out.stored k (xs.getD k 0)
        rw [set_pad xs k (by rw [HX.out]; omega) (by omega)] at this
        exact this
      have hR' : Hid (OwnA 53 (wr.setCell ⟨w.heap.size + 1 + 1, k, none⟩ (.int .i64 (xs.getD k 0))) (w.heap.size + 1) [0, 0, 0, 0, 0, 0]) := hR.out.other _ _ (by simp)
      generalize (xs.take k ++ List.replicate (6 - k) 0).getD k 0 = y at g2
      generalize xs.getD k 0 = x at g1 hS hR'
      have hB' : Hid (Below w.heap.size w (wr.setCell ⟨w.heap.size + 1 + 1, k, none⟩ (.int .i64 x))) := hB.out.setCell (by simp; omega) _
      clear hA hR hB hcb hbw
      go_wp2
      go_roundw
      case rel => exact ⟨k + 1, by omega, by go_num, hS, hR', hB'⟩
      case measure => simp [intOf]; omega
    · obtain rfl : k = n := by omega
      have e : xs.take k = xs := List.take_of_length_le (by rw [HX.out]; omega)
      have hp : xs.take k ++ List.replicate (6 - k) 0 = pad6 xs := by rw [e]; unfold pad6; rw [HX.out]
      rw [hp] at hA
      obtain ⟨a0, a1, a2, a3, a4, a5, h6⟩ := list6 (pad6_length (xs := xs) (by rw [HX.out]; omega))
      have H6 : Hid (pad6 xs = [a0, a1, a2, a3, a4, a5]) := h6
      rw [h6] at hA
      obtain ⟨e0, e1, e2, e3, e4, e5⟩ := hA.out.cells6
      obtain ⟨r0, r1, r2, r3, r4, r5⟩ := hR.out.cells6
      have f0 := hR.out.free 0
      have f1 := hR.out.free 1
      have f2 := hR.out.free 2
      have f3 := hR.out.free 3
      have f4 := hR.out.free 4
      have f5 := hR.out.free 5
      clear hA hR h6 hp e
      go_wp2
      refine bodyPost_ret (v := .agg #[.int .i64 a0, .int .i64 a1, .int .i64 a2, .int .i64 a3, .int .i64 a4, .int .i64 a5]) (by simp [results, Tryd.results29, go_sem, *]) rfl ⟨a0, a1, a2, a3, a4, a5, rfl, H6, ?_⟩
      exact below_set6 hB.out (by omega)

theorem rowOf_nil (ao : Option Addr) (c : Nat) (w : World) :
    Calls Tryd.prog 29 #[.agg #[.slice ao 0 c]] w fun e w' => ∃ a0 a1 a2 a3 a4 a5 : Int, e = .returned (.agg #[.int .i64 a0, .int .i64 a1, .int .i64 a2, .int .i64 a3, .int .i64 a4, .int .i64 a5]) ∧ Hid (pad6 [] = [a0, a1, a2, a3, a4, a5]) ∧ Below w.heap.size w w' := by
  go_enter Tryd.func29, Tryd.ntmps29
  go_wp2
  refine wp_loop_rounds 1 ?_
  rw [rounds_succ]
  go_wp2
  refine bodyPost_ret (v := .agg #[.int .i64 0, .int .i64 0, .int .i64 0, .int .i64 0, .int .i64 0, .int .i64 0]) (by simp [results, Tryd.results29, go_sem]) rfl ⟨0, 0, 0, 0, 0, 0, rfl, rfl, ?_⟩
  repeat (first | exact Below.refl _ _ | refine Below.setCell ?_ (by simp) _ | refine Below.alloc ?_ (by simp; try omega) _)

theorem rowOf_c (ao : Option Addr) (n c : Nat) (xs : List Int) (w : World) (hx : xs.length = n) (hn : n ≤ 6) (hr : Rd w ao xs) :
    Calls Tryd.prog 29 #[.agg #[.slice ao n c]] w fun e w' => ∃ a0 a1 a2 a3 a4 a5 : Int, e = .returned (.agg #[.int .i64 a0, .int .i64 a1, .int .i64 a2, .int .i64 a3, .int .i64 a4, .int .i64 a5]) ∧ Hid (pad6 xs = [a0, a1, a2, a3, a4, a5]) ∧ Below w.heap.size w w' := by
  rcases hr with rfl | ⟨b, o, rfl, hc⟩
  · simp at hx; subst hx; exact rowOf_nil _ _ _
  · exact rowOf_at b o n c xs w hx hn (by rw [← hx]; exact hc)

end Go.Proofs.YtaedplfihjfchaaDoor
