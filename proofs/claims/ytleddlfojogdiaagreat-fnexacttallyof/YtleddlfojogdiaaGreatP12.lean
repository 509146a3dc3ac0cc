/- Chapter 12: plain facts: claims, statements, who says that a hand refused. -/
import Derived.Test.YtleddlfojogdiaaGreatX12
namespace Go.Proofs.YtleddlfojogdiaaGreat
set_option linter.unusedVariables false
set_option maxRecDepth 1000000
set_option linter.unusedSimpArgs false

abbrev Cl := Int × Int × Int
abbrev St := Int × Int × Int × Int × Bool

def inB (x lo hi : Int) : Bool := decide (lo ≤ x ∧ x ≤ hi)

def clB (c : Cl) : Bool := inB c.1 0 20 && (inB c.2.1 0 1000 && inB c.2.2 0 100)

def whatS (s : St) : Cl := (s.2.1, s.2.2.1, s.2.2.2.1)

def stB (s : St) : Bool := inB s.1 0 6 && clB (whatS s)

def stsB (l : List St) : Bool := l.all stB && decide (l.length ≤ 60)

theorem all_out {α : Type} {d : α} {xs : List α} {P : α → Bool} {k : Nat} (hk : k < xs.length) (h : P (xs.getD k d) = false) : xs.all P = false := by
  rw [Bool.eq_false_iff]
  intro g
  rw [List.all_eq_true] at g
  have := g (xs[k]) (List.getElem_mem hk)
  simp [List.getD, hk] at h
  rw [h] at this
  cases this
theorem all_end {α : Type} {d : α} {xs : List α} {P : α → Bool} (h : ∀ j, j < xs.length → P (xs.getD j d) = true) : xs.all P = true := by
  rw [List.all_eq_true]
  intro x hx
  obtain ⟨j, hj, rfl⟩ := List.getElem_of_mem hx
  have := h j hj
  simpa [List.getD, hj] using this
theorem all_at {α : Type} {d : α} {xs : List α} {P : α → Bool} {k : Nat} (h : xs.all P = true) (hk : k < xs.length) : P (xs.getD k d) = true := by
  rw [List.all_eq_true] at h
  have := h (xs[k]) (List.getElem_mem hk)
  simpa [List.getD, hk] using this
theorem take_snocT {α : Type} {d : α} {xs : List α} {k : Nat} (h : k < xs.length) : xs.take (k + 1) = xs.take k ++ [xs.getD k d] := by
  rw [List.take_succ_eq_append_getElem h]; simp [List.getD, h]

/-- What RunClaim states of the first witnesses. -/
def runL (hand : Bool) (ws : List Bool) (c : Cl) : List St := (List.range ws.length).map fun i : Nat => ((i : Int), c.1, c.2.1, c.2.2, ws.getD i false != hand)

theorem runL_length (hand : Bool) (ws : List Bool) (c : Cl) : (runL hand ws c).length = ws.length := by simp [runL]

def runB (ws : List Bool) (c : Cl) : Bool := decide (ws.length ≤ 7) && clB c

def runV (hand : Bool) (ws : List Bool) (c : Cl) : List St := if runB ws c = true then runL hand ws c else []

/-- What of b is not there yet comes to a. -/
def putS (a : List St) (s : St) : List St := if s ∈ a then a else a ++ [s]

def mergeL (a b : List St) : List St := b.foldl putS a

def mergeB (a b : List St) : Bool := stsB a && (stsB b && decide ((mergeL a b).length ≤ 60))

def mergeV (a b : List St) : List St := if mergeB a b = true then mergeL a b else []

theorem mergeL_succ {a b : List St} {k : Nat} (h : k < b.length) : mergeL a (b.take (k + 1)) = putS (mergeL a (b.take k)) (b.getD k (0, 0, 0, 0, false)) := by
  rw [take_snocT (d := (0, 0, 0, 0, false)) h, mergeL, List.foldl_append]
  rfl

theorem putS_length (a : List St) (s : St) : (putS a s).length ≤ a.length + 1 := by
  unfold putS; split <;> simp

theorem mergeL_length (a : List St) : ∀ b : List St, (mergeL a b).length ≤ a.length + b.length := by
  intro b
  unfold mergeL
  induction b generalizing a with
  | nil => simp
  | cons s r ih =>
    simp only [List.foldl_cons, List.length_cons]
    have := ih (putS a s)
    have := putS_length a s
    omega

/-- Some statement of witness i on claim c says Refused; some says not. -/
def saysY (l : List St) (c : Cl) (i : Int) : Bool := l.any fun s => decide (s.1 = i) && (decide (whatS s = c) && s.2.2.2.2)
def saysN (l : List St) (c : Cl) (i : Int) : Bool := l.any fun s => decide (s.1 = i) && (decide (whatS s = c) && !s.2.2.2.2)

def refB (l : List St) (c : Cl) (i : Int) : Bool := saysY l c i && !saysN l c i

/-- Who refused, of the first m witnesses. -/
def refTo (l : List St) (c : Cl) (m : Nat) : List Int := ((List.range m).filter fun i : Nat => refB l c i).map fun i : Nat => (i : Int)

def refL (l : List St) (c : Cl) : List Int := refTo l c 7

def refOk (l : List St) (c : Cl) : Bool := stsB l && clB c

def refV (l : List St) (c : Cl) : List Int := if refOk l c = true then refL l c else []

theorem refTo_succ (l : List St) (c : Cl) (m : Nat) : refTo l c (m + 1) = if refB l c m = true then refTo l c m ++ [(m : Int)] else refTo l c m := by
  unfold refTo
  rw [List.range_succ, List.filter_append]
  by_cases h : refB l c m = true
  · simp [h]
  · simp [h]

theorem refTo_length (l : List St) (c : Cl) : ∀ m, (refTo l c m).length ≤ m := by
  intro m
  unfold refTo
  rw [List.length_map]
  exact Nat.le_trans (List.length_filter_le _ _) (by simp)

def provedB (f : Int) (l : List St) (c : Cl) : Bool := decide (f < (refL l c).length)

def provedOk (f : Int) (l : List St) (c : Cl) : Bool := stsB l && (clB c && inB f 0 2)

def provedV (f : Int) (l : List St) (c : Cl) : Bool := if provedOk f l c = true then provedB f l c else false

end Go.Proofs.YtleddlfojogdiaaGreat
