/- Plain facts for the product by halves; rows of six in memory that may be written; the calls of HalvesTimes said relatively. -/
import Derived.Test.YtaedplfihjfchaaDoorCutl
namespace Go.Proofs.YtaedplfihjfchaaDoor
set_option linter.unusedVariables false
set_option maxRecDepth 1000000
set_option linter.unusedSimpArgs false
open Go.RowKit

theorem exists6 {N : Int} (h0 : 0 ≤ N) (h1 : N < 79228162514264337593543950336) : ∃ r0 r1 r2 r3 r4 r5 : Int, Digs [r0, r1, r2, r3, r4, r5] ∧ val [r0, r1, r2, r3, r4, r5] = N := by
  have hs : (bigL N).length ≤ 6 := (bigL_length h0).2 h1
  obtain ⟨r0, r1, r2, r3, r4, r5, h⟩ := list6 (L := bigL N ++ List.replicate (6 - (bigL N).length) 0) (by simp; omega)
  refine ⟨r0, r1, r2, r3, r4, r5, ?_, ?_⟩
  · rw [← h]; exact (bigL_spec h0).1.append (digs_replicate _)
  · rw [← h, val_append_zeros, (bigL_spec h0).2.1]

theorem addC_of {A B R : List Int} (la : A.length = 6) (lb : B.length = 6) (lr : R.length = 6) (da : Digs A) (db : Digs B) (dr : Digs R) (hv : val R = val A + val B) : addC A B 0 = (R, 0) := by
  obtain ⟨h1, h2, h3, h4, h5⟩ := addC_spec (xs := A) (ys := B) 0 (la.trans lb.symm) da db (by omega) (by omega)
  rw [la] at h3
  rw [val_snoc6 h3] at h1
  have e1 := val_nonneg h2
  have e2 := val_lt6 dr (by omega)
  have e3 : (addC A B 0).2 = 0 := by omega
  have e4 : (addC A B 0).1 = R := digs_uniq (by rw [h3, lr]) h2 dr (by rw [e3] at h1; omega)
  exact Prod.ext e4 e3

theorem subC_of {A B R : List Int} (la : A.length = 6) (lb : B.length = 6) (lr : R.length = 6) (da : Digs A) (db : Digs B) (dr : Digs R) (hv : val R = val A - val B) : (subC A B 0).1 = R := by
  obtain ⟨h1, h2, h3, h4, h5⟩ := subC_spec (xs := A) (ys := B) 0 (la.trans lb.symm) da db (by omega) (by omega)
  rw [la] at h3
  rw [val_snoc6 h3] at h1
  have e1 := val_lt6 h2 (by omega)
  have e2 := val_nonneg dr
  exact digs_uniq (by rw [h3, lr]) h2 dr (by omega)

theorem val6 (r0 r1 r2 r3 r4 r5 : Int) : val [r0, r1, r2, r3, r4, r5] = r0 + 65536 * r1 + 4294967296 * r2 + 281474976710656 * r3 + 18446744073709551616 * r4 + 1208925819614629174706176 * r5 := by
  simp [val]; omega

theorem digs6 {r0 r1 r2 r3 r4 r5 : Int} : Digs [r0, r1, r2, r3, r4, r5] ↔ (0 ≤ r0 ∧ r0 < 65536) ∧ (0 ≤ r1 ∧ r1 < 65536) ∧ (0 ≤ r2 ∧ r2 < 65536) ∧ (0 ≤ r3 ∧ r3 < 65536) ∧ (0 ≤ r4 ∧ r4 < 65536) ∧ (0 ≤ r5 ∧ r5 < 65536) := by
  simp [Digs]

/-- Six cells of a block that may be written. -/
def D6 (w : World) (g : Nat) (a0 a1 a2 a3 a4 a5 : Int) : Prop := C6 w g a0 a1 a2 a3 a4 a5 ∧ ∀ o, w.frozen? ⟨g, o, none⟩ = false

theorem D6.lt {w : World} {g : Nat} {a0 a1 a2 a3 a4 a5 : Int} (h : D6 w g a0 a1 a2 a3 a4 a5) : g < w.heap.size := World.block_lt_of_cell? w _ h.1.1
theorem D6.keep {w w' : World} {g : Nat} {a0 a1 a2 a3 a4 a5 : Int} (h : D6 w g a0 a1 a2 a3 a4 a5) (hb : Below w.heap.size w w') : D6 w' g a0 a1 a2 a3 a4 a5 :=
  ⟨h.1.keep hb, fun o => by rw [hb.frozen (p := ⟨g, o, none⟩) h.lt]; exact h.2 o⟩
theorem D6.alloc {w : World} {g : Nat} {a0 a1 a2 a3 a4 a5 : Int} (h : D6 w g a0 a1 a2 a3 a4 a5) (O : Obj) : D6 (w.alloc O) g a0 a1 a2 a3 a4 a5 := h.keep ((Below.refl _ _).alloc (Nat.le_refl _) _)
theorem D6.drew {w : World} {g : Nat} {a0 a1 a2 a3 a4 a5 : Int} (h : D6 w g a0 a1 a2 a3 a4 a5) : D6 w.drew g a0 a1 a2 a3 a4 a5 := h
theorem d6_new {w : World} {g : Nat} {t : TypeId} {a0 a1 a2 a3 a4 a5 : Int} (hg : g = w.heap.size) : D6 (w.alloc (.cells #[.int .i64 a0, .int .i64 a1, .int .i64 a2, .int .i64 a3, .int .i64 a4, .int .i64 a5] t)) g a0 a1 a2 a3 a4 a5 :=
  ⟨c6_new hg, fun o => by rw [World.frozen?_alloc_at _ _ _ _ hg]⟩
theorem c6_s6 {w : World} {g : Nat} {a0 a1 a2 a3 a4 a5 : Int} (h : C6 w g a0 a1 a2 a3 a4 a5) : S6 w g := by
  obtain ⟨h0, h1, h2, h3, h4, h5⟩ := h
  exact ⟨by rw [h0]; rfl, by rw [h1]; rfl, by rw [h2]; rfl, by rw [h3]; rfl, by rw [h4]; rfl, by rw [h5]; rfl⟩
theorem D6.set {w : World} {g : Nat} {b0 b1 b2 b3 b4 b5 : Int} (h : D6 w g b0 b1 b2 b3 b4 b5) (a0 a1 a2 a3 a4 a5 : Int) : D6 (((((((w.setCell ⟨g, 0, none⟩ (.int .i64 a0)).setCell ⟨g, 1, none⟩ (.int .i64 a1)).setCell ⟨g, 2, none⟩ (.int .i64 a2)).setCell ⟨g, 3, none⟩ (.int .i64 a3)).setCell ⟨g, 4, none⟩ (.int .i64 a4)).setCell ⟨g, 5, none⟩ (.int .i64 a5))) g a0 a1 a2 a3 a4 a5 :=
  ⟨c6_set_same (c6_s6 h.1), fun o => by simp only [World.frozen?_setCell]; exact h.2 o⟩
theorem D6.other {w : World} {g k : Nat} {b0 b1 b2 b3 b4 b5 : Int} (h : D6 w g b0 b1 b2 b3 b4 b5) (hne : g ≠ k) (a0 a1 a2 a3 a4 a5 : Int) : D6 (((((((w.setCell ⟨k, 0, none⟩ (.int .i64 a0)).setCell ⟨k, 1, none⟩ (.int .i64 a1)).setCell ⟨k, 2, none⟩ (.int .i64 a2)).setCell ⟨k, 3, none⟩ (.int .i64 a3)).setCell ⟨k, 4, none⟩ (.int .i64 a4)).setCell ⟨k, 5, none⟩ (.int .i64 a5))) g b0 b1 b2 b3 b4 b5 :=
  ⟨c6_set_ne h.1 hne, fun o => by simp only [World.frozen?_setCell]; exact h.2 o⟩

end Go.Proofs.YtaedplfihjfchaaDoor
