/- divideRows: the quotient and the rest of two rows, bit by bit. -/
import Derived.Test.YtaedplfihjfchaaDoorSpecDivl
import Derived.Test.YtaedplfihjfchaaDoorImplLess2l
import Derived.Test.YtaedplfihjfchaaDoorImplAdd3l
import Derived.BigRegion
import Derived.Deep.RegionHeld3
import Derived.Deep.DeepCutAuto
import Derived.Deep.Light
namespace Go.Proofs.YtaedplfihjfchaaDoor
set_option linter.unusedVariables false
set_option maxRecDepth 1000000
set_option linter.unusedSimpArgs false
open Go.RowKit

/-- The six rows of a call of divideRows. -/
structure DS (w wr : World) (a b O R : List Int) : Prop where
  a : OwnA 53 wr w.heap.size a
  b : OwnA 53 wr (w.heap.size + 1) b
  z1 : OwnA 53 wr (w.heap.size + 1 + 1) [0, 0, 0, 0, 0, 0]
  z2 : OwnA 53 wr (w.heap.size + 1 + 1 + 1) [0, 0, 0, 0, 0, 0]
  o : OwnA 53 wr (w.heap.size + 1 + 1 + 1 + 1) O
  r : OwnA 53 wr (w.heap.size + 1 + 1 + 1 + 1 + 1) R
  below : Below w.heap.size w wr

theorem DS.later {w wr w' : World} {a b O R : List Int} (h : DS w wr a b O R) (hb : Below wr.heap.size wr w') : DS w w' a b O R :=
  ⟨h.a.later hb, h.b.later hb, h.z1.later hb, h.z2.later hb, h.o.later hb, h.r.later hb, h.below.trans (hb.mono h.below.size)⟩
theorem DS.drew {w wr : World} {a b O R : List Int} (h : DS w wr a b O R) : DS w wr.drew a b O R := h.later (Below.refl _ _).drew
theorem DS.setR {w wr : World} {a b O R : List Int} (h : DS w wr a b O R) (j : Nat) (x : Int) : DS w (wr.setCell ⟨(w.heap.size + 1 + 1 + 1 + 1 + 1), j, none⟩ (.int .i64 x)) a b O (R.set j x) :=
  ⟨h.a.other _ _ (by first | (simp; done) | (simp; omega)), h.b.other _ _ (by first | (simp; done) | (simp; omega)), h.z1.other _ _ (by first | (simp; done) | (simp; omega)), h.z2.other _ _ (by first | (simp; done) | (simp; omega)), h.o.other _ _ (by first | (simp; done) | (simp; omega)), h.r.stored j x, h.below.setCell (by first | (simp; done) | (simp; omega)) _⟩
theorem DS.setO {w wr : World} {a b O R : List Int} (h : DS w wr a b O R) (j : Nat) (x : Int) : DS w (wr.setCell ⟨(w.heap.size + 1 + 1 + 1 + 1), j, none⟩ (.int .i64 x)) a b (O.set j x) R :=
  ⟨h.a.other _ _ (by first | (simp; done) | (simp; omega)), h.b.other _ _ (by first | (simp; done) | (simp; omega)), h.z1.other _ _ (by first | (simp; done) | (simp; omega)), h.z2.other _ _ (by first | (simp; done) | (simp; omega)), h.o.stored j x, h.r.other _ _ (by first | (simp; done) | (simp; omega)), h.below.setCell (by first | (simp; done) | (simp; omega)) _⟩
theorem DS.setR6 {w wr : World} {a b O : List Int} {r0 r1 r2 r3 r4 r5 : Int} (h : DS w wr a b O [r0, r1, r2, r3, r4, r5]) (s0 s1 s2 s3 s4 s5 : Int) : DS w ((((((wr.setCell ⟨(w.heap.size + 1 + 1 + 1 + 1 + 1), 0, none⟩ (.int .i64 s0)).setCell ⟨(w.heap.size + 1 + 1 + 1 + 1 + 1), 1, none⟩ (.int .i64 s1)).setCell ⟨(w.heap.size + 1 + 1 + 1 + 1 + 1), 2, none⟩ (.int .i64 s2)).setCell ⟨(w.heap.size + 1 + 1 + 1 + 1 + 1), 3, none⟩ (.int .i64 s3)).setCell ⟨(w.heap.size + 1 + 1 + 1 + 1 + 1), 4, none⟩ (.int .i64 s4)).setCell ⟨(w.heap.size + 1 + 1 + 1 + 1 + 1), 5, none⟩ (.int .i64 s5)) a b O [s0, s1, s2, s3, s4, s5] :=
  (((((h.setR 0 s0).setR 1 s1).setR 2 s2).setR 3 s3).setR 4 s4).setR 5 s5

theorem OwnA.free6 {t : TypeId} {w : World} {g : Nat} {L : List Int} (h : OwnA t w g L) : w.frozen? ⟨g, 0, none⟩ = false ∧ w.frozen? ⟨g, 1, none⟩ = false ∧ w.frozen? ⟨g, 2, none⟩ = false ∧ w.frozen? ⟨g, 3, none⟩ = false ∧ w.frozen? ⟨g, 4, none⟩ = false ∧ w.frozen? ⟨g, 5, none⟩ = false := ⟨h.free 0, h.free 1, h.free 2, h.free 3, h.free 4, h.free 5⟩

theorem add_same {R S : List Int} {cy : Int} (h6 : R.length = 6) (d : Digs R) (e : addC R R 0 = (S, cy)) (hv : 2 * val R < 79228162514264337593543950336) : S.length = 6 ∧ Digs S ∧ val S = 2 * val R := by
  obtain ⟨e1, e2, e3, e4, e5⟩ := addC_spec (xs := R) (ys := R) 0 rfl d d (by omega) (by omega)
  rw [e] at e1 e2 e3 e4 e5
  simp only at e1 e2 e3 e4 e5
  rw [val_snoc6 (by rw [e3]; exact h6)] at e1
  have := val_nonneg e2
  exact ⟨by rw [e3]; exact h6, e2, by omega⟩

theorem sub_same {R B S : List Int} (h6 : R.length = 6) (h6b : B.length = 6) (d : Digs R) (db : Digs B) (e : (subC R B 0).1 = S) (hv : val B ≤ val R) : S.length = 6 ∧ Digs S ∧ val S = val R - val B := by
  obtain ⟨e1, e2, e3, e4, e5⟩ := subC_spec (xs := R) (ys := B) 0 (by rw [h6, h6b]) d db (by omega) (by omega)
  rw [e] at e1 e2 e3
  rw [val_snoc6 (by rw [e3]; exact h6)] at e1
  have h1 := val_nonneg e2
  have h2 := val_lt6 e2 (by rw [e3, h6]; omega)
  exact ⟨by rw [e3]; exact h6, e2, by omega⟩

theorem bump {R : List Int} {s0 s1 s2 s3 s4 s5 bt V : Int} (e : R = [s0, s1, s2, s3, s4, s5]) (d : Digs R) (hv : val R = 2 * V) (h0 : 0 ≤ bt) (h1 : bt ≤ 1) : 0 ≤ s0 ∧ s0 + bt < 65536 ∧ Digs [s0 + bt, s1, s2, s3, s4, s5] ∧ val [s0 + bt, s1, s2, s3, s4, s5] = 2 * V + bt := by
  subst e
  have h := d.head
  have ht := d.tail
  simp only [val] at hv ⊢
  refine ⟨h.1, by omega, digs_cons (by omega) (by omega) ht, by omega⟩

theorem takeV {P : Program} {ops : Array Oper} {Q : Exit → Act → World → Prop} {md : Region.Mode} {S : World → Prop} {i : Nat} {oi : Oper} {v : Value} {d : Option Tmp} {fuel : Nat} {listed : Array Bool} {a : Act} {w : World} (hi : ops[i]? = some oi) (hd : oi.dst = d)
    (hs : Region.noSelect ops = true) (hf : Region.free md ops listed i = true) (hr : (Region.ready md ops listed).contains i = true)
    (hQ : ∀ c a w, Q (.panic c) (a.put d v) w → Q (.panic c) a w) (hy : YieldsIf P ops S oi v a) (hS : S w)
    (h : wpAnyH P md ops Q S fuel (listed.setIfInBounds i true) (a.put d v) w) : wpAnyH P md ops Q S (fuel + 1) listed a w := by
  subst hd
  exact wpAnyH_take hi hs hf hr hQ hy hS h

theorem ds_start (a0 a1 a2 a3 a4 a5 b0 b1 b2 b3 b4 b5 : Int) (w : World) : DS w ((((((w.alloc (Obj.cells #[.int .i64 a0, .int .i64 a1, .int .i64 a2, .int .i64 a3, .int .i64 a4, .int .i64 a5] 53)).alloc (Obj.cells #[.int .i64 b0, .int .i64 b1, .int .i64 b2, .int .i64 b3, .int .i64 b4, .int .i64 b5] 53)).alloc (Obj.cells #[.int .i64 0, .int .i64 0, .int .i64 0, .int .i64 0, .int .i64 0, .int .i64 0] 53)).alloc (Obj.cells #[.int .i64 0, .int .i64 0, .int .i64 0, .int .i64 0, .int .i64 0, .int .i64 0] 53)).alloc (Obj.cells #[.int .i64 0, .int .i64 0, .int .i64 0, .int .i64 0, .int .i64 0, .int .i64 0] 53)).alloc (Obj.cells #[.int .i64 0, .int .i64 0, .int .i64 0, .int .i64 0, .int .i64 0, .int .i64 0] 53)) [a0, a1, a2, a3, a4, a5] [b0, b1, b2, b3, b4, b5] [0, 0, 0, 0, 0, 0] [0, 0, 0, 0, 0, 0] := by
  refine ⟨?_, ?_, ?_, ?_, ?_, ?_, ?_⟩
  · skip
    refine OwnA.alloc ?_ _; refine OwnA.alloc ?_ _; refine OwnA.alloc ?_ _; refine OwnA.alloc ?_ _; refine OwnA.alloc ?_ _; exact ownA_at _ _ _ _ _ rfl (by simp) (by simp)
  · skip
    refine OwnA.alloc ?_ _; refine OwnA.alloc ?_ _; refine OwnA.alloc ?_ _; refine OwnA.alloc ?_ _; exact ownA_at _ _ _ _ _ rfl (by simp) (by simp)
  · skip
    refine OwnA.alloc ?_ _; refine OwnA.alloc ?_ _; refine OwnA.alloc ?_ _; exact ownA_at _ _ _ _ _ rfl (by simp) (by simp)
  · skip
    refine OwnA.alloc ?_ _; refine OwnA.alloc ?_ _; exact ownA_at _ _ _ _ _ rfl (by simp) (by simp)
  · skip
    refine OwnA.alloc ?_ _; exact ownA_at _ _ _ _ _ rfl (by simp) (by simp)
  · skip
    exact ownA_at _ _ _ _ _ rfl (by simp) (by simp)
  · repeat (first | with_reducible exact Below.refl _ _ | refine Below.alloc ?_ (by first | (simp; done) | (simp; omega)) _)

end Go.Proofs.YtaedplfihjfchaaDoor
