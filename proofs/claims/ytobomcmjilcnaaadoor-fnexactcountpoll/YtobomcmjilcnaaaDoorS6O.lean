/- Chapter 6, the specification's side: parts, sums opened, all opened, votes added. -/
import Derived.Test.YtobomcmjilcnaaaDoorS6L
namespace Go.Proofs.YtobomcmjilcnaaaDoor
set_option linter.unusedVariables false
set_option maxRecDepth 1000000
set_option linter.unusedSimpArgs false
open Go.RowKit

theorem all_out {α : Type} {d : α} {xs : List α} {P : α → Bool} {k : Nat} (hk : k < xs.length) (h : P (xs.getD k d) = false) : xs.all P = false := by
  rw [Bool.eq_false_iff]
  intro g
  rw [List.all_eq_true] at g
  have := g (xs[k]) (List.getElem_mem hk)
  simp [List.getD, hk] at h
  rw [h] at this
  cases this
theorem all_end {α : Type} {d : α} {xs : List α} {P : α → Bool} (h : ∀ j, j < xs.length → P (xs.getD j d) = true) : xs.all P = true := by
  rw [List.all_eq_true]
  intro x hx
  obtain ⟨j, hj, rfl⟩ := List.getElem_of_mem hx
  have := h j hj
  simpa [List.getD, hj] using this
theorem all_at {α : Type} {d : α} {xs : List α} {P : α → Bool} {k : Nat} (h : xs.all P = true) (hk : k < xs.length) : P (xs.getD k d) = true := by
  rw [List.all_eq_true] at h
  have := h (xs[k]) (List.getElem_mem hk)
  simpa [List.getD, hk] using this
theorem take_snocP {xs : List (Int × Int)} {k : Nat} (h : k < xs.length) : xs.take (k + 1) = xs.take k ++ [xs.getD k (0, 0)] := by
  rw [List.take_succ_eq_append_getElem h]; simp [List.getD, h]

def partI (s x y : Int) : Int := if openB s x y = true then pw x s.toNat else 0

/-- A number divided by each part in turn, as far as k. -/
def lessL (b : Int) (l : List Int) : Int := prodM b (l.map fun x => pw x 2997)
theorem lessL_snoc (b : Int) {xs : List Int} {k : Nat} (h : k < xs.length) : lessL b (xs.take (k + 1)) = lessL b (xs.take k) * pw (xs.getD k 0) 2997 % 2999 := by
  rw [take_snoc h, lessL, List.map_append, List.map_singleton, prodM_snoc]
  rfl
def lessI (b : Int) (l : List Int) : Int := mulM b (pw (prodM 1 l) 2997)
theorem lessL_eq {b : Int} (h : 0 ≤ b ∧ b < 2999) (l : List Int) : lessL b l = lessI b l := less_eq h l
theorem openI_eq (x y : Int) (secs : List Int) : openI x y secs = lessI y (partL x secs) := rfl
def memsB (l : List Int) : Bool := l.all memB

/-- What opening a sum wants, and answers. -/
def sumOk (x y : Int) (ps : List Int) : Bool := memsB ps && sealB x y && decide (ps.length ≤ 5)
def sumI (x y : Int) (ps : List Int) (most : Int) : Int := if sumOk x y ps = true then logI (lessI y ps) most else 0
def sumB (x y : Int) (ps : List Int) (most : Int) : Bool := sumOk x y ps && logB (lessI y ps) most
theorem sum_no {x y : Int} {ps : List Int} (h : sumOk x y ps = false) (most : Int) : sumI x y ps most = 0 ∧ sumB x y ps most = false := by
  simp only [sumI, sumB, h, Bool.false_and, Bool.false_eq_true, if_false, and_self]
theorem sum_yes {x y : Int} {ps : List Int} (h : sumOk x y ps = true) (most : Int) : sumI x y ps most = logI (lessI y ps) most ∧ sumB x y ps most = logB (lessI y ps) most := by
  simp only [sumI, sumB, h, Bool.true_and, if_true, and_self]

end Go.Proofs.YtobomcmjilcnaaaDoor
