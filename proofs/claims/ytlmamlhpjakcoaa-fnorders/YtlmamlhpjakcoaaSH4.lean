/- ShuffleBy: plain functions; how draws are tested. -/
import Derived.Test.YtlmamlhpjakcoaaBS
import Derived.Test.YtlmamlhpjakcoaaK4
import Derived.BigRegion
import Derived.Laws.AppendOwnNone
namespace Go.Proofs.Ytlmamlhpjakcoaa
set_option linter.unusedVariables false
set_option linter.unusedSimpArgs false
open Go.RowKit

def swapS (l : List ByteArray) (k i : Nat) : List ByteArray := (l.set k (l.getD i ByteArray.empty)).set i (l.getD k ByteArray.empty)
def otherN (ds : List Int) (k : Nat) : Nat := (ds.getD k 0 % ((k : Int) + 1)).toNat
def shufF (ds : List Int) : Nat → List ByteArray → List ByteArray
  | 0, l => l
  | k + 1, l => shufF ds k (swapS l (k + 1) (otherN ds (k + 1)))
theorem swapS_length (l : List ByteArray) (k i : Nat) : (swapS l k i).length = l.length := by simp [swapS]
theorem shufF_length (ds : List Int) : ∀ k l, (shufF ds k l).length = l.length
  | 0, _ => rfl
  | k + 1, l => by rw [shufF, shufF_length ds k, swapS_length]
def nonneg (ds : List Int) : Bool := ds.all (fun d => decide (0 ≤ d))
def shufG (ds : List Int) (ls : List ByteArray) : Bool := decide (ls.length ≤ 9) && (decide (ds.length = ls.length) && nonneg ds)
def shuffleF (ds : List Int) (ls : List ByteArray) : List ByteArray × Bool := if shufG ds ls = true then (shufF ds (ls.length - 1) ls, true) else ([], false)
theorem shuffleF_short {ds : List Int} {ls zs : List ByteArray} {fb : Bool} (h : shuffleF ds ls = (zs, fb)) : zs.length ≤ 9 := by
  unfold shuffleF at h
  split at h
  · rename_i hc
    simp only [shufG, Bool.and_eq_true, decide_eq_true_eq] at hc
    simp only [Prod.mk.injEq] at h
    rw [← h.1, shufF_length]; exact hc.1
  · simp only [Prod.mk.injEq] at h
    rw [← h.1]; simp
theorem nonneg_step {ds : List Int} {n k : Nat} {d : Int} {G : Bool} (hx : ds.length = n) (h : k < n) (e : ds.getD k 0 = d) (hg : G = nonneg (ds.drop k)) : G = (decide (0 ≤ d) && nonneg (ds.drop (k + 1))) := by
  rw [hg, drop_getD hx h, e]; rfl
theorem nonneg_end {ds : List Int} {n k : Nat} {G : Bool} (hx : ds.length = n) (h : ¬ k < n) (hg : G = nonneg (ds.drop k)) : G = true := by
  rw [hg, List.drop_of_length_le (by omega)]; rfl
theorem nonneg_at {ds : List Int} (h : nonneg ds = true) {j : Nat} (hj : j < ds.length) : 0 ≤ ds.getD j 0 := by
  have h1 := List.all_eq_true.1 h _ (List.getElem_mem hj)
  simp only [decide_eq_true_eq] at h1
  simpa [List.getD, hj] using h1
theorem other_lt {d : Int} {k : Nat} (h : 0 ≤ d) : (d % ((k : Int) + 1)).toNat ≤ k := by
  have h1 := Int.emod_lt_of_pos d (show (0 : Int) < (k : Int) + 1 by omega)
  have h2 := Int.emod_nonneg d (show ((k : Int) + 1) ≠ 0 by omega)
  omega
theorem OwnS.stored2 {w : World} {base g c n : Nat} {l : List ByteArray} (h : OwnS w base (.slice (some ⟨g, 0, none⟩) n c) l) (k i : Nat) : OwnS ((w.setCell ⟨g, k, none⟩ (.string (l.getD i ByteArray.empty))).setCell ⟨g, i, none⟩ (.string (l.getD k ByteArray.empty))) base (.slice (some ⟨g, 0, none⟩) n c) (swapS l k i) := by
  have hl := h.rd'.1
  unfold OwnS at *
  rw [hl] at h
  rw [swapS_length, hl]
  have h1 := World.ownsRow.stored h k (.string (l.getD i ByteArray.empty))
  rw [cellsS_set] at h1
  have h2 := World.ownsRow.stored h1.1 i (.string (l.getD k ByteArray.empty))
  rw [cellsS_set] at h2
  exact h2.1
theorem below_stored2 {w w' : World} {g : Nat} (hb : Below w.heap.size w w') (hg : w.heap.size ≤ g) (k i : Nat) (u v : Value) : Below w.heap.size w ((w'.setCell ⟨g, k, none⟩ u).setCell ⟨g, i, none⟩ v) := (hb.setCell hg _).setCell hg _

theorem own_allS {w : World} {base n : Nat} {v : Value} {ls : List ByteArray} (h : w.ownsRow base 9 1 v (0 + n) ([] ++ cellsS ls)) (hl : ls.length = n) : OwnS w base v ls := by
  unfold OwnS; rw [hl]; simpa using h
theorem own_formS {w : World} {base n : Nat} {v : Value} {ls : List ByteArray} (h : OwnS w base v ls) (hl : ls.length = n) (h0 : 0 < n) : ∃ g c, v = .slice (some ⟨g, 0, none⟩) n c ∧ base ≤ g := by
  rcases h.form with ⟨_, h2⟩ | ⟨g, cap, h1, h2, _⟩
  · rw [h2] at hl; simp at hl; omega
  · exact ⟨g, cap, by rw [h1, hl], h2⟩

theorem nil_rowS (w : World) : (w.alloc (.cells #[] 9)).ownsRow w.heap.size 9 1 (.slice (some ⟨w.heap.size, 0, none⟩) 0 0) 0 [] :=
  ⟨rfl, .inr ⟨w.heap.size, 0, #[], rfl, Nat.le_refl _, (by show (w.heap.push _)[w.heap.size]? = _; simp), Nat.le_refl _, Nat.zero_le _, rfl, rfl⟩⟩

end Go.Proofs.Ytlmamlhpjakcoaa
