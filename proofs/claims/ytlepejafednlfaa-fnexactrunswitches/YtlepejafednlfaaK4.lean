/- Keys: how both sides test them; the specification's mix and its way back. -/
import Derived.Test.YtlepejafednlfaaR4
namespace Go.Proofs.Ytlepejafednlfaa
set_option linter.unusedVariables false
set_option maxRecDepth 1000000
set_option linter.unusedSimpArgs false
open Go.RowKit

def inB (lo hi x : Int) : Bool := decide (lo ≤ x ∧ x ≤ hi)
def allIn (lo hi : Int) (xs : List Int) : Bool := xs.all (inB lo hi)
/-- Keys that are taken. -/
def keysB (xs : List Int) : Bool := decide (xs.length ≤ 8) && allIn 0 65535 xs

theorem drop_getD {xs : List Int} {n k : Nat} (hx : xs.length = n) (h : k < n) : xs.drop k = xs.getD k 0 :: xs.drop (k + 1) := by
  rw [List.drop_eq_getElem_cons (by omega)]
  simp [List.getD, show k < xs.length by omega]
theorem allIn_step {lo hi : Int} {xs : List Int} {n k : Nat} {x : Int} {G : Bool} (hx : xs.length = n) (h : k < n) (e : xs.getD k 0 = x) (hg : G = allIn lo hi (xs.drop k)) : G = (inB lo hi x && allIn lo hi (xs.drop (k + 1))) := by
  rw [hg, drop_getD hx h, e]; rfl
theorem allIn_end {lo hi : Int} {xs : List Int} {n k : Nat} {G : Bool} (hx : xs.length = n) (h : ¬ k < n) (hg : G = allIn lo hi (xs.drop k)) : G = true := by
  rw [hg, List.drop_of_length_le (by omega)]; rfl
theorem Rd.at {w : World} {ao : Option Addr} {xs : List Int} {n : Nat} (h : Rd w ao xs) (hx : xs.length = n) (h0 : 0 < n) : ∃ b o, ao = some ⟨b, o, none⟩ ∧ ∀ j, j < n → w.cell? ⟨b, o + j, none⟩ = some (.int .i64 (xs.getD j 0)) := by
  rcases h with rfl | ⟨b, o, rfl, hc⟩
  · simp at hx; omega
  · exact ⟨b, o, rfl, by rw [← hx]; exact hc⟩

/-- Keys as plain numbers. -/
def nums (xs : List Int) : List Nat := xs.map Int.toNat
theorem nums_length (xs : List Int) : (nums xs).length = xs.length := by simp [nums]
theorem keys_at {xs : List Int} (h : allIn 0 65535 xs = true) {j : Nat} (hj : j < xs.length) : ∃ k : Nat, xs.getD j 0 = (k : Int) ∧ (nums xs).getD j 0 = k ∧ k < 65536 := by
  have hm : xs[j] ∈ xs := List.getElem_mem hj
  have h1 := List.all_eq_true.1 h _ hm
  simp only [inB, decide_eq_true_eq] at h1
  refine ⟨xs[j].toNat, ?_, ?_, by omega⟩
  · simp only [List.getD, List.getElem?_eq_getElem hj, Option.getD_some]; omega
  · simp [nums, List.getD, hj]
theorem dropN_getD {ks : List Nat} {k : Nat} (h : k < ks.length) : ks.drop k = ks.getD k 0 :: ks.drop (k + 1) := by
  rw [List.drop_eq_getElem_cons h]
  simp [List.getD, h]
theorem keysB_parts {xs : List Int} (h : keysB xs = true) : xs.length ≤ 8 ∧ allIn 0 65535 xs = true := by
  simpa [keysB] using h

end Go.Proofs.Ytlepejafednlfaa
