/- Chapter 14: plain facts: ways, sums of tallies, debits and credits. -/
import Derived.Test.YtleddlfojogdiaaGreatP14
namespace Go.Proofs.YtleddlfojogdiaaGreat
set_option linter.unusedVariables false
set_option maxRecDepth 1000000
set_option linter.unusedSimpArgs false

/-- Way k of many, long hands of it. -/
def wayL (rk : List Int) (long many k : Nat) : List Int := (List.range long).map fun i => rk.getD (k + i * many) 0

def waysL (rk : List Int) (long many : Nat) : List (List Int) := (List.range many).map fun k => wayL rk long many k

theorem wayL_length (rk : List Int) (long many k : Nat) : (wayL rk long many k).length = long := by simp [wayL]

theorem wayL_succ (rk : List Int) (long many k : Nat) : wayL rk (long + 1) many k = wayL rk long many k ++ [rk.getD (k + long * many) 0] := by
  unfold wayL
  rw [List.range_succ, List.map_append]
  rfl

theorem waysL_length (rk : List Int) (long many : Nat) : (waysL rk long many).length = many := by simp [waysL]

/-- The sums of tallies of the same hands. -/
def addT (a b : List Ta) : List Ta := (List.range a.length).map fun i : Nat => ((i : Int), (a.getD i (0, 0, 0)).2.1 + (b.getD i (0, 0, 0)).2.1, (a.getD i (0, 0, 0)).2.2 + (b.getD i (0, 0, 0)).2.2)

theorem addT_length (a b : List Ta) : (addT a b).length = a.length := by simp [addT]

def addOk (a b : List Ta) : Bool := tasB a && (tasB b && decide (a.length = b.length))

def addB (a b : List Ta) : Bool := addOk a b && tasB (addT a b)

def addV (a b : List Ta) : List Ta := if addB a b = true then addT a b else []

/-- What a hand was proved to have refused. -/
def debL (f : Int) (l : List St) (h : Int) : List Cl := (claimsL l).filter fun c => decide (c.1 = h) && decide (f < (refL l c).length)

def debOk (f : Int) (l : List St) (h : Int) : Bool := stsB l && (inB f 0 2 && inB h 0 20)

def debV (f : Int) (l : List St) (h : Int) : List Cl := if debOk f l h = true then debL f l h else []

theorem debL_length (f : Int) (l : List St) (h : Int) : (debL f l h).length ≤ l.length := by
  unfold debL
  exact Nat.le_trans (List.length_filter_le _ _) (claimsL_all l).2.2

theorem debV_length (f : Int) (l : List St) (h : Int) : (debV f l h).length ≤ 60 := by
  unfold debV
  split
  · rename_i g
    unfold debOk stsB at g
    simp only [Bool.and_eq_true, decide_eq_true_eq] at g
    have := debL_length f l h
    omega
  · simp

/-- How many of the first k claims done count for a hand. -/
def credAt (h : Int) (done deb : List Cl) (i : Nat) : Bool := decide ((done.getD i (0, 0, 0)).1 = h) && (!decide (done.getD i (0, 0, 0) ∈ done.take i) && !decide (done.getD i (0, 0, 0) ∈ deb))

def credTo (h : Int) (done deb : List Cl) (k : Nat) : Nat := ((List.range k).filter fun i => credAt h done deb i).length

theorem credTo_succ (h : Int) (done deb : List Cl) (k : Nat) : credTo h done deb (k + 1) = credTo h done deb k + (if credAt h done deb k = true then 1 else 0) := by
  unfold credTo
  rw [List.range_succ, List.filter_append, List.length_append]
  by_cases g : credAt h done deb k = true
  · simp [g]
  · simp [g]

theorem credTo_le (h : Int) (done deb : List Cl) (k : Nat) : credTo h done deb k ≤ k := by
  unfold credTo
  exact Nat.le_trans (List.length_filter_le _ _) (by simp)

/-- The claims that count for a hand, each once. -/
theorem credTo_set (h : Int) (done deb : List Cl) : ∃ u : List Cl, u.Nodup ∧ u.length = credTo h done deb done.length ∧ ∀ c, c ∈ u ↔ c ∈ done ∧ c.1 = h ∧ c ∉ deb := by
  have key : ∀ k, k ≤ done.length → ∃ u : List Cl, u.Nodup ∧ u.length = credTo h done deb k ∧ ∀ c, c ∈ u ↔ c ∈ done.take k ∧ c.1 = h ∧ c ∉ deb := by
    intro k
    induction k with
    | zero => intro _; exact ⟨[], List.nodup_nil, by simp [credTo], fun c => by simp⟩
    | succ k ih =>
      intro hk
      obtain ⟨u, h1, h2, h3⟩ := ih (by omega)
      have hd : done.take (k + 1) = done.take k ++ [done.getD k (0, 0, 0)] := take_snocT (by omega)
      have hc : credAt h done deb k = true ↔ (done.getD k (0, 0, 0)).1 = h ∧ done.getD k (0, 0, 0) ∉ done.take k ∧ done.getD k (0, 0, 0) ∉ deb := by
        unfold credAt
        simp only [Bool.and_eq_true, decide_eq_true_eq, Bool.not_eq_true', decide_eq_false_iff_not]
      rw [credTo_succ, hd]
      generalize done.getD k (0, 0, 0) = c0 at *
      by_cases g : credAt h done deb k = true
      · rw [if_pos g]
        rw [hc] at g
        refine ⟨u ++ [c0], ?_, by simp [h2], fun c => ?_⟩
        · rw [List.nodup_append]
          refine ⟨h1, by simp, fun a ha b hb => ?_⟩
          rw [List.mem_singleton] at hb
          subst hb
          rintro rfl
          exact g.2.1 ((h3 a).1 ha).1
        · rw [List.mem_append, h3, List.mem_append, List.mem_singleton]
          constructor
          · rintro (x | rfl)
            · exact ⟨Or.inl x.1, x.2⟩
            · exact ⟨Or.inr rfl, g.1, g.2.2⟩
          · rintro ⟨x | rfl, y⟩
            · exact Or.inl ⟨x, y⟩
            · exact Or.inr rfl
      · rw [if_neg g]
        refine ⟨u, h1, by simp [h2], fun c => ?_⟩
        rw [h3, List.mem_append, List.mem_singleton]
        constructor
        · rintro ⟨x, y⟩; exact ⟨Or.inl x, y⟩
        · rintro ⟨x | rfl, y⟩
          · exact ⟨x, y⟩
          · refine ⟨?_, y⟩
            by_cases z : c ∈ done.take k
            · exact z
            · exact absurd (hc.2 ⟨y.1, z, y.2⟩) g
  have := key done.length (Nat.le_refl _)
  rwa [List.take_length] at this

/-- What counts does not hang on the order. -/
theorem credTo_same (h : Int) {done done' deb : List Cl} (e : ∀ c, c ∈ done ↔ c ∈ done') : credTo h done deb done.length = credTo h done' deb done'.length := by
  obtain ⟨u, h1, h2, h3⟩ := credTo_set h done deb
  obtain ⟨v, k1, k2, k3⟩ := credTo_set h done' deb
  rw [← h2, ← k2]
  refine ((List.perm_ext_iff_of_nodup h1 k1).2 (fun c => ?_)).length_eq
  rw [h3, k3, e]

theorem mem_any_same {P : St → Bool} {l m : List St} (e : ∀ s, s ∈ l ↔ s ∈ m) : l.any P = m.any P := by
  rw [Bool.eq_iff_iff, List.any_eq_true, List.any_eq_true]
  constructor
  · rintro ⟨x, h1, h2⟩; exact ⟨x, (e x).1 h1, h2⟩
  · rintro ⟨x, h1, h2⟩; exact ⟨x, (e x).2 h1, h2⟩

theorem refL_same {l m : List St} (e : ∀ s, s ∈ l ↔ s ∈ m) (c : Cl) : refL l c = refL m c := by
  have : ∀ i, refB l c i = refB m c i := fun i => by
    unfold refB saysY saysN
    rw [mem_any_same e, mem_any_same e]
  unfold refL refTo
  simp only [this]

theorem claimsL_same {l m : List St} (e : ∀ s, s ∈ l ↔ s ∈ m) : claimsL l = claimsL m := by
  obtain ⟨h1, h2, _⟩ := claimsL_all l
  obtain ⟨k1, k2, _⟩ := claimsL_all m
  refine risC_ext h1 k1 (fun x => ?_)
  rw [h2, k2, List.mem_map, List.mem_map]
  constructor
  · rintro ⟨s, hs, rfl⟩; exact ⟨s, (e s).1 hs, rfl⟩
  · rintro ⟨s, hs, rfl⟩; exact ⟨s, (e s).2 hs, rfl⟩

theorem debL_same (f : Int) {l m : List St} (e : ∀ s, s ∈ l ↔ s ∈ m) (h : Int) : debL f l h = debL f m h := by
  unfold debL
  rw [claimsL_same e]
  simp only [refL_same e]

/-- The tallies of the first hands. -/
def tallyT (f : Int) (done : List Cl) (l : List St) (h : Nat) : Ta := ((h : Int), (credTo h done (debL f l h) done.length : Int), ((debL f l h).length : Int))

def tallyL (n : Nat) (f : Int) (done : List Cl) (l : List St) : List Ta := (List.range n).map fun h => tallyT f done l h

def tallyOk (n f : Int) (done : List Cl) (l : List St) : Bool := inB n 1 12 && (inB f 0 2 && ((done.all clB && decide (done.length ≤ 60)) && stsB l))

def tallyV (n f : Int) (done : List Cl) (l : List St) : List Ta := if tallyOk n f done l = true then tallyL n.toNat f done l else []

theorem tallyL_length (n : Nat) (f : Int) (done : List Cl) (l : List St) : (tallyL n f done l).length = n := by simp [tallyL]

theorem tallyL_good (n f : Int) (done : List Cl) (l : List St) (h : tallyOk n f done l = true) : tasB (tallyL n.toNat f done l) = true := by
  unfold tallyOk stsB inB at h
  simp only [Bool.and_eq_true, decide_eq_true_eq] at h
  unfold tasB
  rw [Bool.and_eq_true]
  refine ⟨tasAt_of (fun j hj => ?_), ?_⟩
  · rw [tallyL_length] at hj
    have e : (tallyL n.toNat f done l).getD j (0, 0, 0) = tallyT f done l j := by simp [tallyL, List.getD, hj]
    rw [e, taAt_iff]
    have h1 := credTo_le j done (debL f l j) done.length
    have h2 := debL_length f l j
    refine ⟨rfl, ?_, ?_, ?_, ?_⟩ <;> simp only [tallyT] <;> omega
  · unfold inB
    rw [tallyL_length, decide_eq_true_eq]
    omega

theorem tallyL_same (n : Nat) (f : Int) {done done' : List Cl} {l l' : List St} (e : ∀ c, c ∈ done ↔ c ∈ done') (e' : ∀ s, s ∈ l ↔ s ∈ l') : tallyL n f done l = tallyL n f done' l' := by
  unfold tallyL tallyT
  refine List.map_congr_left (fun h _ => ?_)
  rw [debL_same f e' h, credTo_same h e]

end Go.Proofs.YtleddlfojogdiaaGreat
