/- Chapter 9: plain facts on cycles. -/
import Derived.Test.YtlepejafednlfaaP9
namespace Go.Proofs.Ytlepejafednlfaa
set_option linter.unusedVariables false
set_option maxRecDepth 1000000
set_option linter.unusedSimpArgs false
open Go.RowKit

/-- How many are not told yet. -/
def unseen (s : List Bool) : Nat := s.count false
theorem unseen_le (s : List Bool) : unseen s ≤ s.length := List.count_le_length
theorem unseen_set : ∀ (s : List Bool) (k : Nat), k < s.length → s.getD k true = false → unseen (s.set k true) + 1 = unseen s
  | [], k, h, _ => by simp at h
  | b :: r, 0, _, h => by
    have hb : b = false := by simpa using h
    subst hb
    simp [unseen]
  | b :: r, k + 1, h, h2 => by
    have ih := unseen_set r k (by simpa using h) (by simpa using h2)
    unfold unseen at ih ⊢
    rw [List.set_cons_succ, List.count_cons, List.count_cons]
    omega
theorem unseen_pos {s : List Bool} {k : Nat} (hk : k < s.length) (h : s.getD k true = false) : 0 < unseen s := by
  have := unseen_set s k hk h
  omega
theorem getD_tf {s : List Bool} {k : Nat} (hk : k < s.length) : s.getD k true = s.getD k false := by simp [List.getD, hk]

/-- The cycle from k on of what is not told, and what is told then. -/
def cyc (o : List Int) : Nat → List Bool → Nat → List Int × List Bool
  | 0, s, _ => ([], s)
  | f + 1, s, k => if s.getD k true = true then ([], s) else ((k : Int) :: (cyc o f (s.set k true) (o.getD k 0).toNat).1, (cyc o f (s.set k true) (o.getD k 0).toNat).2)
theorem cyc_end {o : List Int} {f : Nat} {s : List Bool} {k : Nat} (h : s.getD k true = true) : cyc o f s k = ([], s) := by
  cases f with
  | zero => rfl
  | succ f => rw [cyc, if_pos h]
theorem cyc_step {o : List Int} {f : Nat} {s : List Bool} {k : Nat} (h : s.getD k true = false) : cyc o (f + 1) s k = ((k : Int) :: (cyc o f (s.set k true) (o.getD k 0).toNat).1, (cyc o f (s.set k true) (o.getD k 0).toNat).2) := by
  rw [cyc, if_neg (by rw [h]; decide)]
theorem cyc_length (o : List Int) : ∀ (f : Nat) (s : List Bool) (k : Nat), (cyc o f s k).2.length = s.length
  | 0, _, _ => rfl
  | f + 1, s, k => by
    rw [cyc]
    split
    · rfl
    · simp [cyc_length o f]
theorem cyc_count (o : List Int) : ∀ (f : Nat) (s : List Bool) (k : Nat), (cyc o f s k).1.length + unseen (cyc o f s k).2 = unseen s
  | 0, _, _ => by simp [cyc]
  | f + 1, s, k => by
    by_cases h : s.getD k true = true
    · rw [cyc_end h]; simp
    · have h' := Bool.eq_false_iff.2 h
      have hk : k < s.length := by
        by_cases hk : k < s.length
        · exact hk
        · exact absurd (by simp [List.getD, hk]) h
      rw [cyc_step h']
      have ih := cyc_count o f (s.set k true) (o.getD k 0).toNat
      have := unseen_set s k hk h'
      simp only [List.length_cons]
      omega

/-- The cycles from numbers below i, and what is told then. -/
def cycs (o : List Int) : Nat → List (List Int) × List Bool
  | 0 => ([], List.replicate o.length false)
  | i + 1 => (if (cyc o o.length (cycs o i).2 i).1 = [] then (cycs o i).1 else (cycs o i).1 ++ [(cyc o o.length (cycs o i).2 i).1], (cyc o o.length (cycs o i).2 i).2)
def cycL (o : List Int) : List (List Int) := (cycs o o.length).1
theorem cycs_length (o : List Int) : ∀ i, (cycs o i).2.length = o.length
  | 0 => by simp [cycs]
  | i + 1 => by rw [cycs, cyc_length, cycs_length o i]
def sumLen (l : List (List Int)) : Nat := (l.map List.length).sum
theorem sumLen_app (l : List (List Int)) (x : List Int) : sumLen (l ++ [x]) = sumLen l + x.length := by simp [sumLen]
theorem cycs_count (o : List Int) : ∀ i, sumLen (cycs o i).1 + unseen (cycs o i).2 = o.length
  | 0 => by simp [cycs, unseen, sumLen, List.count_replicate_self]
  | i + 1 => by
    have ih := cycs_count o i
    have hc := cyc_count o o.length (cycs o i).2 i
    rw [cycs]
    by_cases h : (cyc o o.length (cycs o i).2 i).1 = []
    · rw [if_pos h]
      dsimp only
      rw [h] at hc
      simp only [List.length_nil] at hc
      omega
    · rw [if_neg h]
      dsimp only
      rw [sumLen_app]
      omega
theorem cycs_pos (o : List Int) : ∀ i, ∀ c ∈ (cycs o i).1, c ≠ []
  | 0, c, h => by simp [cycs] at h
  | i + 1, c, h => by
    rw [cycs] at h
    by_cases h2 : (cyc o o.length (cycs o i).2 i).1 = []
    · rw [if_pos h2] at h; exact cycs_pos o i c h
    · rw [if_neg h2] at h
      rcases List.mem_append.1 h with h | h
      · exact cycs_pos o i c h
      · simp at h; rw [h]; exact h2
theorem len_le_sumLen : ∀ (l : List (List Int)), (∀ c ∈ l, c ≠ []) → l.length ≤ sumLen l
  | [], _ => by simp
  | c :: r, h => by
    have h1 := len_le_sumLen r fun x hx => h x (by simp [hx])
    have h2 : 0 < c.length := List.length_pos_iff.2 (h c (by simp))
    simp only [List.length_cons, sumLen, List.map_cons, List.sum_cons] at h1 ⊢
    omega
theorem mem_le_sumLen : ∀ (l : List (List Int)) (c : List Int), c ∈ l → c.length ≤ sumLen l
  | [], c, h => by cases h
  | x :: r, c, h => by
    simp only [sumLen, List.map_cons, List.sum_cons]
    rcases List.mem_cons.1 h with rfl | h
    · omega
    · have := mem_le_sumLen r c h
      unfold sumLen at this
      omega
theorem cycs_few (o : List Int) (i : Nat) : (cycs o i).1.length ≤ o.length := by
  have h1 := len_le_sumLen _ (cycs_pos o i)
  have h2 := cycs_count o i
  omega
theorem cycs_few2 (o : List Int) : ∀ i, (cycs o i).1.length ≤ i
  | 0 => by simp [cycs]
  | i + 1 => by
    have ih := cycs_few2 o i
    rw [cycs]
    split
    · dsimp only; omega
    · simp; omega
theorem cycs_room (o : List Int) (i : Nat) : sumLen (cycs o i).1 + (cyc o o.length (cycs o i).2 i).1.length ≤ o.length := by
  have h1 := cycs_count o i
  have h2 := cyc_count o o.length (cycs o i).2 i
  omega
theorem cycs_short (o : List Int) (i : Nat) : ∀ c ∈ (cycs o i).1, c.length ≤ o.length := fun c hc => by
  have h1 := mem_le_sumLen _ c hc
  have h2 := cycs_count o i
  omega
theorem cycs_unseen (o : List Int) (i : Nat) : unseen (cycs o i).2 ≤ o.length := by
  have := cycs_count o i
  omega

def cyclesF (o : List Int) : List (List Int) × Bool := if ordB o = true then (cycL o, true) else ([], false)
theorem cyclesF_short {o : List Int} {zss : List (List Int)} {fb : Bool} (h : cyclesF o = (zss, fb)) : zss.length ≤ 9 ∧ ∀ l ∈ zss, l.length ≤ 9 := by
  unfold cyclesF at h
  split at h
  · rename_i hc
    simp only [Prod.mk.injEq] at h
    obtain ⟨rfl, _⟩ := h
    have h9 := ord_len hc
    exact ⟨Nat.le_trans (cycs_few o _) h9, fun l hl => Nat.le_trans (cycs_short o _ l hl) h9⟩
  · simp only [Prod.mk.injEq] at h
    obtain ⟨rfl, _⟩ := h
    exact ⟨by simp, fun l hl => by cases hl⟩

/-- 1 or -1. -/
def signI (o : List Int) : Int := if (o.length - (cycL o).length) % 2 = 1 then -1 else 1
def signF (o : List Int) : Int × Bool := if ordB o = true then (signI o, true) else (0, false)

def lcmL (l : List (List Int)) : Nat := l.foldl (fun n c => Nat.lcm n c.length) 1
theorem lcmL_app (l : List (List Int)) (x : List Int) : lcmL (l ++ [x]) = Nat.lcm (lcmL l) x.length := by simp [lcmL]
theorem lcmL_le : ∀ (l r : List (List Int)), lcmL (l ++ r) ≤ lcmL l * 2 ^ sumLen r
  | l, [] => by simp [sumLen]
  | l, x :: r => by
    have ih := lcmL_le (l ++ [x]) r
    rw [List.append_assoc, List.singleton_append] at ih
    rw [lcmL_app] at ih
    have h1 : Nat.lcm (lcmL l) x.length ≤ lcmL l * x.length := by
      unfold Nat.lcm
      exact Nat.div_le_self _ _
    have h2 : x.length < 2 ^ x.length := Nat.lt_two_pow_self
    have h3 : sumLen (x :: r) = x.length + sumLen r := by simp [sumLen]
    rw [h3, Nat.pow_add, ← Nat.mul_assoc]
    exact Nat.le_trans ih (Nat.mul_le_mul_right _ (Nat.le_trans h1 (Nat.mul_le_mul_left _ (by omega))))
theorem lcmL_small {l : List (List Int)} {s : Nat} (h : sumLen l ≤ s) (h9 : s ≤ 9) : lcmL l ≤ 512 := by
  have h1 := lcmL_le [] l
  rw [List.nil_append, show lcmL [] = 1 from rfl, Nat.one_mul] at h1
  have h2 : 2 ^ sumLen l ≤ 2 ^ 9 := Nat.pow_le_pow_right (by omega) (by omega)
  omega
theorem lcmL_pos {l : List (List Int)} (h : ∀ c ∈ l, c ≠ []) : 0 < lcmL l := by
  have : ∀ (l : List (List Int)) (n : Nat), 0 < n → (∀ c ∈ l, c ≠ []) → 0 < l.foldl (fun n c => Nat.lcm n c.length) n := by
    intro l
    induction l with
    | nil => intro n hn _; exact hn
    | cons c r ih =>
      intro n hn h
      exact ih _ (Nat.lcm_pos hn (List.length_pos_iff.2 (h c (by simp)))) fun x hx => h x (by simp [hx])
  exact this l 1 (by decide) h
def lengthF (o : List Int) : Int × Bool := if ordB o = true then ((lcmL (cycL o) : Nat), true) else (0, false)

/-- Where a cycle stands: so far c, then what is left. -/
def At (o : List Int) (n : Nat) (C : List Int) (S : List Bool) (c : List Int) (s : List Bool) (k : Nat) : Prop :=
  ∃ f, c.length + f = n ∧ unseen s ≤ f ∧ s.length = o.length ∧ c ++ (cyc o f s k).1 = C ∧ (cyc o f s k).2 = S
theorem At.start {o : List Int} {n i : Nat} {s : List Bool} (hn : o.length = n) (hs : s.length = o.length) (hu : unseen s ≤ n) : At o n (cyc o o.length s i).1 (cyc o o.length s i).2 [] s i :=
  ⟨n, by simp, hu, hs, by rw [hn]; rfl, by rw [hn]⟩
theorem At.stop {o : List Int} {n k : Nat} {C c : List Int} {S s : List Bool} (h : At o n C S c s k) (hk : s.getD k true = true) : c = C ∧ s = S := by
  obtain ⟨f, _, _, _, h1, h2⟩ := h
  rw [cyc_end hk] at h1 h2
  exact ⟨by simpa using h1, h2⟩
theorem At.step {o : List Int} {n k : Nat} {C c : List Int} {S s : List Bool} (h : At o n C S c s k) (hk : k < o.length) (h0 : s.getD k true = false) : At o n C S (c ++ [(k : Int)]) (s.set k true) (o.getD k 0).toNat ∧ c.length < n := by
  obtain ⟨f, h1, h2, h3, h4, h5⟩ := h
  have hp := unseen_pos (by omega) h0
  obtain ⟨g, rfl⟩ : ∃ g, f = g + 1 := ⟨f - 1, by omega⟩
  have hu := unseen_set s k (by omega) h0
  rw [cyc_step h0] at h4 h5
  refine ⟨⟨g, by simp; omega, by omega, by simp [h3], ?_, h5⟩, by omega⟩
  simpa using h4
theorem At.len {o : List Int} {n k : Nat} {C c : List Int} {S s : List Bool} (h : At o n C S c s k) : s.length = o.length ∧ c.length ≤ n := by
  obtain ⟨f, h1, _, h3, _⟩ := h
  exact ⟨h3, by omega⟩

end Go.Proofs.Ytlepejafednlfaa
