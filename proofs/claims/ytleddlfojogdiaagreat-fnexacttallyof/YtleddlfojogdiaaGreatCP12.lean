/- Chapter 12: plain facts: claims in order. -/
import Derived.Test.YtleddlfojogdiaaGreatP12
namespace Go.Proofs.YtleddlfojogdiaaGreat
set_option linter.unusedVariables false
set_option maxRecDepth 1000000
set_option linter.unusedSimpArgs false

def ltC (a b : Cl) : Bool := if a.1 ≠ b.1 then decide (a.1 < b.1) else if a.2.1 ≠ b.2.1 then decide (a.2.1 < b.2.1) else decide (a.2.2 < b.2.2)

theorem ltC_iff (a b : Cl) : ltC a b = true ↔ a.1 < b.1 ∨ (a.1 = b.1 ∧ (a.2.1 < b.2.1 ∨ (a.2.1 = b.2.1 ∧ a.2.2 < b.2.2))) := by
  unfold ltC
  split
  · rw [decide_eq_true_eq]; omega
  · split
    · rw [decide_eq_true_eq]; omega
    · rw [decide_eq_true_eq]; omega

theorem ltC_irrefl (a : Cl) : ltC a a = false := by
  rw [Bool.eq_false_iff]
  intro h
  rw [ltC_iff] at h
  omega

theorem ltC_trans {a b c : Cl} (h : ltC a b = true) (k : ltC b c = true) : ltC a c = true := by
  rw [ltC_iff] at *
  omega

theorem ltC_total {a b : Cl} (h : ltC a b = false) (k : a ≠ b) : ltC b a = true := by
  rw [Bool.eq_false_iff] at h
  rw [ltC_iff]
  rw [Ne, ltC_iff] at h
  have : ¬ (a.1 = b.1 ∧ a.2.1 = b.2.1 ∧ a.2.2 = b.2.2) := by
    rintro ⟨h1, h2, h3⟩
    exact k (Prod.ext h1 (Prod.ext h2 h3))
  omega

/-- Strictly rising. -/
def RisC (l : List Cl) : Prop := l.Pairwise (fun a b => ltC a b = true)

/-- Two strictly rising lists with the same claims are one. -/
theorem risC_ext {l m : List Cl} (hl : RisC l) (hm : RisC m) (h : ∀ x, x ∈ l ↔ x ∈ m) : l = m := by
  have nl : l.Nodup := List.Pairwise.imp (fun {a b} hab e => by rw [e, ltC_irrefl] at hab; cases hab) hl
  have nm : m.Nodup := List.Pairwise.imp (fun {a b} hab e => by rw [e, ltC_irrefl] at hab; cases hab) hm
  refine List.Perm.eq_of_pairwise (le := fun a b => ltC a b = true) (fun a b _ _ h1 h2 => ?_) hl hm ((List.perm_ext_iff_of_nodup nl nm).2 h)
  have := ltC_trans h1 h2
  rw [ltC_irrefl] at this
  cases this

/-- The first place at which a claim is not below c. -/
def posC (out : List Cl) (c : Cl) : Nat := (out.takeWhile (fun x => ltC x c)).length

def insC (out : List Cl) (c : Cl) : List Cl := if c ∈ out then out else out.take (posC out c) ++ [c] ++ out.drop (posC out c)

theorem posC_le (out : List Cl) (c : Cl) : posC out c ≤ out.length := by
  unfold posC
  exact (List.takeWhile_sublist _).length_le

theorem posC_lt {c : Cl} : ∀ {out : List Cl} {k : Nat}, k < posC out c → ltC (out.getD k (0, 0, 0)) c = true := by
  intro out
  induction out with
  | nil => intro k h; simp [posC] at h
  | cons x r ih =>
    intro k h
    unfold posC at h
    rw [List.takeWhile_cons] at h
    split at h
    · rename_i hx
      cases k with
      | zero => exact hx
      | succ k =>
        have : k < posC r c := by unfold posC; simpa using h
        simpa using ih this
    · simp at h

theorem posC_at {c : Cl} : ∀ {out : List Cl}, posC out c < out.length → ltC (out.getD (posC out c) (0, 0, 0)) c = false := by
  intro out
  induction out with
  | nil => intro h; simp at h
  | cons x r ih =>
    intro h
    by_cases hx : ltC x c = true
    · have e : posC (x :: r) c = posC r c + 1 := by unfold posC; rw [List.takeWhile_cons, if_pos hx]; rfl
      rw [e] at h ⊢
      have := ih (by simpa using h)
      simpa using this
    · have e : posC (x :: r) c = 0 := by unfold posC; rw [List.takeWhile_cons, if_neg hx]; rfl
      rw [e]
      simpa using hx

/-- In a rising list c is there just where it stands at its place. -/
theorem mem_posC {out : List Cl} {c : Cl} (h : RisC out) : c ∈ out ↔ posC out c < out.length ∧ out.getD (posC out c) (0, 0, 0) = c := by
  constructor
  · intro hc
    obtain ⟨k, hk, rfl⟩ := List.getElem_of_mem hc
    have hlt : ∀ j, j < k → ltC (out.getD j (0, 0, 0)) out[k] = true := fun j hj => by
      have := (List.pairwise_iff_getElem.1 h) j k (by omega) hk hj
      rw [List.getD, List.getElem?_eq_getElem (by omega)]
      exact this
    have h1 : posC out out[k] ≤ k := by
      rcases Nat.lt_or_ge k (posC out out[k]) with hh | hh
      · have := posC_lt hh
        rw [List.getD, List.getElem?_eq_getElem hk, Option.getD_some, ltC_irrefl] at this
        cases this
      · exact hh
    have h2 : posC out out[k] = k := by
      rcases Nat.lt_or_ge (posC out out[k]) k with hh | hh
      · have e1 := hlt _ hh
        have e2 := posC_at (out := out) (c := out[k]) (by omega)
        rw [e1] at e2
        cases e2
      · omega
    rw [h2]
    exact ⟨hk, by rw [List.getD, List.getElem?_eq_getElem hk, Option.getD_some]⟩
  · rintro ⟨h1, h2⟩
    rw [List.getD, List.getElem?_eq_getElem h1, Option.getD_some] at h2
    rw [← h2]
    exact List.getElem_mem h1

theorem insC_mem {out : List Cl} {c x : Cl} : x ∈ insC out c ↔ x ∈ out ∨ x = c := by
  unfold insC
  split
  · rename_i h
    constructor
    · exact Or.inl
    · rintro (h | rfl) <;> assumption
  · rw [List.append_assoc, List.mem_append, List.mem_append, List.mem_singleton]
    constructor
    · rintro (h | h | h)
      · exact Or.inl (List.mem_of_mem_take h)
      · exact Or.inr h
      · exact Or.inl (List.mem_of_mem_drop h)
    · rintro (h | h)
      · rw [← List.take_append_drop (posC out c) out, List.mem_append] at h
        rcases h with h | h
        · exact Or.inl h
        · exact Or.inr (Or.inr h)
      · exact Or.inr (Or.inl h)

theorem insC_ris {out : List Cl} {c : Cl} (h : RisC out) : RisC (insC out c) := by
  unfold insC
  split
  · exact h
  · rename_i hn
    have hb : ∀ x ∈ out.take (posC out c), ltC x c = true := by
      intro x hx
      obtain ⟨k, hk, rfl⟩ := List.getElem_of_mem hx
      have hk' := hk
      rw [List.length_take] at hk'
      have := posC_lt (out := out) (c := c) (k := k) (by omega)
      rw [List.getD, List.getElem?_eq_getElem (by omega), Option.getD_some] at this
      simpa using this
    have ha : ∀ x ∈ out.drop (posC out c), ltC c x = true := by
      intro x hx
      obtain ⟨k, hk, rfl⟩ := List.getElem_of_mem hx
      rw [List.length_drop] at hk
      have hp : posC out c < out.length := by omega
      have h0 := posC_at hp
      have hne : out.getD (posC out c) (0, 0, 0) ≠ c := fun e => hn ((mem_posC h).2 ⟨hp, e⟩)
      have h1 := ltC_total h0 hne
      rw [List.getD, List.getElem?_eq_getElem hp, Option.getD_some] at h1
      rw [List.getElem_drop]
      cases k with
      | zero => simpa using h1
      | succ k => exact ltC_trans h1 ((List.pairwise_iff_getElem.1 h) _ _ hp (by omega) (by omega))
    show List.Pairwise _ _
    rw [List.append_assoc, List.pairwise_append]
    refine ⟨List.Pairwise.sublist (List.take_sublist _ _) h, ?_, fun a hA b hB => ?_⟩
    · rw [List.singleton_append, List.pairwise_cons]
      exact ⟨ha, List.Pairwise.sublist (List.drop_sublist _ _) h⟩
    · rw [List.singleton_append, List.mem_cons] at hB
      rcases hB with rfl | hB
      · exact hb a hA
      · exact ltC_trans (hb a hA) (ha b hB)

/-- The claims of the statements, in order, each once. -/
def claimsL (xs : List St) : List Cl := xs.foldl (fun out s => insC out (whatS s)) []

theorem claimsL_snoc (xs : List St) (s : St) : claimsL (xs ++ [s]) = insC (claimsL xs) (whatS s) := by
  unfold claimsL
  rw [List.foldl_append]
  rfl

theorem claimsL_all (xs : List St) : RisC (claimsL xs) ∧ (∀ x, x ∈ claimsL xs ↔ x ∈ xs.map whatS) ∧ (claimsL xs).length ≤ xs.length := by
  have key : ∀ (ys : List St), RisC (claimsL ys.reverse) ∧ (∀ x, x ∈ claimsL ys.reverse ↔ x ∈ ys.reverse.map whatS) ∧ (claimsL ys.reverse).length ≤ ys.reverse.length := by
    intro ys
    induction ys with
    | nil => exact ⟨List.Pairwise.nil, fun x => by simp [claimsL], by simp [claimsL]⟩
    | cons s r ih =>
      rw [List.reverse_cons, claimsL_snoc]
      refine ⟨insC_ris ih.1, fun x => ?_, ?_⟩
      · rw [insC_mem, ih.2.1, List.map_append, List.mem_append]
        simp
      · rw [List.length_append]
        unfold insC
        split
        · have := ih.2.2; simp only [List.length_cons, List.length_nil]; omega
        · have := ih.2.2
          have hp := posC_le (claimsL r.reverse) (whatS s)
          simp only [List.length_append, List.length_take, List.length_drop, List.length_cons, List.length_nil]
          omega
  have := key xs.reverse
  rwa [List.reverse_reverse] at this

end Go.Proofs.YtleddlfojogdiaaGreat
