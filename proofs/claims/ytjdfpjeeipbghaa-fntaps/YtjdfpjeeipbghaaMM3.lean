/- Massey's taps make the bits, and no taps with a lesser long do. -/
import Derived.Test.YtjdfpjeeipbghaaMS3
import Derived.Test.YtjdfpjeeipbghaaMK3
namespace Go.Proofs.Ytjdfpjeeipbghaa
set_option linter.unusedVariables false
set_option linter.unusedSimpArgs false
open Go.RowKit

/-- The unlike-sum of f over a list. -/
def xsum : List Int → (Int → Bool) → Bool
  | [], _ => false
  | t :: r, f => xor (f t) (xsum r f)

theorem xsum_congr {f g : Int → Bool} : ∀ {l : List Int}, (∀ t ∈ l, f t = g t) → xsum l f = xsum l g
  | [], _ => rfl
  | t :: r, h => by
    simp only [xsum]
    rw [h t (by simp), xsum_congr (l := r) fun u hu => h u (by simp [hu])]

theorem xsum_zero : ∀ l : List Int, xsum l (fun _ => false) = false
  | [] => rfl
  | t :: r => by simp only [xsum]; rw [xsum_zero r]; rfl

theorem xsum_xor (f g : Int → Bool) : ∀ l : List Int, xsum l (fun t => xor (f t) (g t)) = xor (xsum l f) (xsum l g)
  | [] => rfl
  | t :: r => by
    simp only [xsum]
    rw [xsum_xor f g r]
    cases f t <;> cases g t <;> cases xsum r f <;> cases xsum r g <;> rfl

theorem xsum_swap (f : Int → Int → Bool) (b : List Int) : ∀ a : List Int, xsum a (fun t => xsum b (fun u => f t u)) = xsum b (fun u => xsum a (fun t => f t u))
  | [] => by simp only [xsum]; rw [xsum_zero]
  | t :: r => by
    simp only [xsum]
    rw [xsum_swap f b r, ← xsum_xor]

theorem xsum_snoc (f : Int → Bool) (t : Int) : ∀ l : List Int, xsum (l ++ [t]) f = xor (xsum l f) (f t)
  | [] => by simp [xsum]
  | u :: r => by
    simp only [List.cons_append, xsum]
    rw [xsum_snoc f t r, Bool.xor_assoc]

theorem xsum_filter (p f : Int → Bool) : ∀ l : List Int, xsum (l.filter p) f = xsum l (fun t => p t && f t)
  | [] => rfl
  | t :: r => by
    rw [List.filter_cons]
    cases h : p t
    · simp only [Bool.false_eq_true, if_false, xsum, h, Bool.false_and, Bool.false_xor]
      exact xsum_filter p f r
    · simp only [if_true, xsum, h, Bool.true_and]
      rw [xsum_filter p f r]

theorem xsum_map (f : Int → Bool) (s : Int) : ∀ l : List Int, xsum (l.map (· + s)) f = xsum l (fun u => f (u + s))
  | [] => rfl
  | t :: r => by simp only [List.map_cons, xsum]; rw [xsum_map f s r]

theorem xsum_further (b : List Int) (s : Int) (f : Int → Bool) : xsum (further b s) f = xor (f s) (xsum b (fun u => f (u + s))) := by
  unfold further
  simp only [xsum]
  rw [xsum_map]

theorem xsum_one (f : Int → Bool) (x : Int) (h1 : 1 ≤ x) : ∀ K : Nat, xsum (places K) (fun t => decide (t = x) && f t) = (decide (x ≤ (K : Int)) && f x)
  | 0 => by
    have : ¬ x ≤ ((0 : Nat) : Int) := by omega
    simp only [places, xsum, this, decide_false, Bool.false_and]
  | K + 1 => by
    simp only [places]
    rw [xsum_snoc, xsum_one f x h1 K]
    by_cases e : ((K + 1 : Nat) : Int) = x
    · subst e
      have h2 : ¬ ((K + 1 : Nat) : Int) ≤ (K : Int) := by omega
      simp only [h2, decide_false, Bool.false_and, Bool.false_xor, decide_true, Int.le_refl, Bool.true_and]
    · have h2 : (x ≤ ((K + 1 : Nat) : Int)) ↔ (x ≤ (K : Int)) := by omega
      simp only [e, h2, decide_false, Bool.false_and, Bool.xor_false]

theorem xsum_ind (f : Int → Bool) (K : Nat) : ∀ {a : List Int}, a.Nodup → (∀ t ∈ a, 1 ≤ t ∧ t ≤ (K : Int)) → xsum a f = xsum (places K) (fun t => decide (t ∈ a) && f t)
  | [], _, _ => by simp only [xsum, List.not_mem_nil, decide_false, Bool.false_and]; rw [xsum_zero]
  | x :: r, nd, h => by
    have nd' := List.nodup_cons.1 nd
    have hx := h x (by simp)
    have e1 := xsum_one f x hx.1 K
    rw [decide_eq_true hx.2, Bool.true_and] at e1
    simp only [xsum]
    rw [xsum_ind f K nd'.2 (fun t ht => h t (by simp [ht])), ← e1, ← xsum_xor]
    refine xsum_congr fun t _ => ?_
    by_cases h1 : t = x
    · subst h1
      simp [nd'.1]
    · simp [h1]

theorem xsum_oneOf {a b : List Int} {K : Nat} (f : Int → Bool) (na : a.Nodup) (nb : b.Nodup) (ha : ∀ t ∈ a, 1 ≤ t ∧ t ≤ (K : Int)) (hb : ∀ t ∈ b, 1 ≤ t ∧ t ≤ (K : Int)) :
    xsum (oneOf a b K) f = xor (xsum a f) (xsum b f) := by
  unfold oneOf
  rw [xsum_filter, xsum_ind f K na ha, xsum_ind f K nb hb, ← xsum_xor]
  refine xsum_congr fun t _ => ?_
  cases decide (t ∈ a) <;> cases decide (t ∈ b) <;> cases f t <;> rfl

theorem ahead_xsum (xs : List Int) (ys : List Bool) (at' : Nat) : ∀ k, k ≤ xs.length → aheadAt xs ys at' k = xsum (xs.take k) (fun t => ys.getD (at' - t.toNat) false)
  | 0, _ => by simp [aheadAt, xsum]
  | k + 1, h => by
    simp only [aheadAt]
    rw [ahead_xsum xs ys at' k (by omega), List.take_succ_eq_append_getElem (by omega), xsum_snoc]
    have e : xs.getD k 0 = xs[k] := by simp [List.getD, show k < xs.length by omega]
    rw [e]
    cases xsum (xs.take k) (fun t => ys.getD (at' - t.toNat) false) <;> cases ys.getD (at' - (xs[k]).toNat) false <;> rfl

theorem next_xsum (xs : List Int) (ys : List Bool) (j : Nat) : nextB xs ys j = xsum xs (fun t => ys.getD (j - t.toNat) false) := by
  unfold nextB
  rw [ahead_xsum xs ys j _ (Nat.le_refl _), List.take_length]

/-- The taps C, of the long L, make the first k bits. -/
def Gen (ys : List Bool) (C : List Int) (L k : Nat) : Prop := (∀ t ∈ C, 1 ≤ t ∧ t ≤ (L : Int)) ∧ ∀ j, L ≤ j → j < k → ys.getD j false = nextB C ys j

theorem Gen.less {ys : List Bool} {C : List Int} {L k : Nat} (h : Gen ys C L (k + 1)) : Gen ys C L k := ⟨h.1, fun j h1 h2 => h.2 j h1 (by omega)⟩

/-- Massey's lemma. -/
theorem gen_two {ys : List Bool} {C D : List Int} {L M k : Nat} (h : Gen ys C L k) (hn : ¬ ys.getD k false = nextB C ys k) (g : Gen ys D M (k + 1)) : k + 1 ≤ L + M := by
  by_cases hlt : k + 1 ≤ L + M
  · exact hlt
  · exfalso
    apply hn
    rw [g.2 k (by omega) (by omega), next_xsum, next_xsum]
    have e1 : xsum D (fun t => ys.getD (k - t.toNat) false) = xsum D (fun t => xsum C (fun u => ys.getD (k - t.toNat - u.toNat) false)) := by
      refine xsum_congr fun t ht => ?_
      have := g.1 t ht
      rw [h.2 (k - t.toNat) (by omega) (by omega), next_xsum]
    have e2 : xsum C (fun u => ys.getD (k - u.toNat) false) = xsum C (fun u => xsum D (fun t => ys.getD (k - t.toNat - u.toNat) false)) := by
      refine xsum_congr fun u hu => ?_
      have := h.1 u hu
      rw [g.2 (k - u.toNat) (by omega) (by omega), next_xsum]
      refine xsum_congr fun t _ => ?_
      rw [Nat.sub_right_comm]
    rw [e1, e2, xsum_swap]

theorem srt_further {b : List Int} {s : Int} (h : Srt b) (h1 : ∀ t ∈ b, 1 ≤ t) : Srt (further b s) := by
  refine List.pairwise_cons.2 ⟨fun t ht => ?_, ?_⟩
  · obtain ⟨u, hu, e⟩ := List.mem_map.1 ht
    have := h1 u hu
    have e' : u + s = t := e
    omega
  · exact List.Pairwise.map _ (fun a b hab => by omega) h

/-- What the new taps say of bit j. -/
theorem next_new {ys : List Bool} {st : MS} {k : Nat} (h : MOk st k) (hk : k < 40) (j : Nat) : nextB (oneOf st.C (further st.B st.s) 40) ys j = xor (nextB st.C ys j) (xor (ys.getD (j - st.s) false) (nextB st.B ys (j - st.s))) := by
  have hl := h.l
  have hs2 := h.s2
  have hs1 := h.s1
  rw [next_xsum, xsum_oneOf _ (srt_nodup h.sc) (srt_nodup (srt_further h.sb fun t ht => (h.b t ht).1)) (fun t ht => ?_) (fun t ht => ?_), xsum_further, ← next_xsum, next_xsum st.B]
  · congr 1
    congr 1
    refine xsum_congr fun u hu => ?_
    have := (h.b u hu).1
    congr 1
    omega
  · have := h.c t ht
    omega
  · rcases List.mem_cons.1 ht with e | ht
    · omega
    · obtain ⟨u, hu, e⟩ := List.mem_map.1 ht
      have := h.b u hu
      have e' : u + (st.s : Int) = t := e
      omega

structure MI (ys : List Bool) (st : MS) (k : Nat) : Prop where
  gen : Gen ys st.C st.L k
  prev : st.L = 0 ∨ ∃ m M : Nat, k = m + st.s ∧ st.L + M = m + 1 ∧ Gen ys st.B M m ∧ ¬ ys.getD m false = nextB st.B ys m
  least : ∀ D M, Gen ys D M k → st.L ≤ M

theorem bne_cases {a b : Bool} (h : ¬ a = b) : a = !b := by cases a <;> cases b <;> simp_all

/-- The new taps make what the old ones made, and bit k besides, from a long that is great enough on. -/
theorem new_makes {ys : List Bool} {st : MS} {k : Nat} (h : MOk st k) (hi : MI ys st k) (hk : k < 40) (hn : ¬ ys.getD k false = nextB st.C ys k) (j : Nat) (h1 : st.L ≤ j) (h2 : k + 1 ≤ j + st.L) (h3 : j < k + 1) : ys.getD j false = nextB (oneOf st.C (further st.B st.s) 40) ys j := by
  rw [next_new h hk]
  rcases hi.prev with h0 | ⟨m, M, e1, e2, hg, hm⟩
  · omega
  · by_cases hj : j < k
    · rw [hg.2 (j - st.s) (by omega) (by omega), hi.gen.2 j h1 hj, Bool.xor_self, Bool.xor_false]
    · obtain rfl : j = k := by omega
      rw [show j - st.s = m by omega, bne_cases hm, bne_cases hn]
      cases nextB st.C ys j <;> cases nextB st.B ys m <;> rfl

theorem massey_mi (ys : List Bool) : ∀ k, k ≤ 40 → MI ys (massey ys k) k
  | 0, _ => ⟨⟨fun t ht => (by cases ht), fun j _ h => absurd h (by omega)⟩, Or.inl rfl, fun D M _ => by simp [massey]⟩
  | k + 1, hk => by
    have h := massey_ok ys k
    have hi := massey_mi ys k (by omega)
    have h' := massey_ok ys (k + 1)
    simp only [massey] at h' ⊢
    split
    · rename_i hy
      refine ⟨⟨hi.gen.1, fun j h1 h2 => ?_⟩, ?_, fun D M hg => hi.least D M hg.less⟩
      · by_cases hj : j < k
        · exact hi.gen.2 j h1 hj
        · obtain rfl : j = k := by omega
          exact hy
      · rcases hi.prev with h0 | ⟨m, M, e1, e2, hg, hm⟩
        · exact Or.inl h0
        · exact Or.inr ⟨m, M, by simp only; omega, e2, hg, hm⟩
    · rename_i hn
      rw [if_neg hn] at h'
      have hl := h.l
      split
      · rename_i h2
        rw [if_pos h2] at h'
        refine ⟨⟨h'.c, fun j h3 h4 => ?_⟩, Or.inr ⟨k, (massey ys k).L, rfl, by simp only; omega, hi.gen, hn⟩, fun D M hg => ?_⟩
        · simp only at h3
          exact new_makes h hi (by omega) hn j (by omega) (by omega) h4
        · have := gen_two hi.gen hn hg
          simp only
          omega
      · rename_i h2
        rw [if_neg h2] at h'
        refine ⟨⟨h'.c, fun j h3 h4 => ?_⟩, ?_, fun D M hg => hi.least D M hg.less⟩
        · simp only at h3
          exact new_makes h hi (by omega) hn j (by omega) (by omega) h4
        · rcases hi.prev with h0 | ⟨m, M, e1, e2, hg, hm⟩
          · exact Or.inl h0
          · exact Or.inr ⟨m, M, by simp only; omega, e2, hg, hm⟩

theorem short_makes {ys : List Bool} {zs : List Int} {L : Int} (h : shortF ys = (zs, L, true)) : makesF zs L ys = (true, true) ∧ 0 ≤ L ∧ L ≤ (ys.length : Int) ∧ ys.length ≤ 40 := by
  unfold shortF at h
  split at h
  · rename_i h40
    split at h
    · rename_i hg
      simp only [Prod.mk.injEq, and_true] at h
      obtain ⟨rfl, rfl⟩ := h
      have ok := massey_ok ys ys.length
      have mi := massey_mi ys ys.length h40
      have hl := ok.l
      refine ⟨?_, by omega, by omega, h40⟩
      have htop : topT (massey ys ys.length).C ≤ ((massey ys ys.length).L : Int) := by
        by_cases h0 : (massey ys ys.length).C.length = 0
        · have : (massey ys ys.length).C = [] := List.length_eq_zero_iff.1 h0
          rw [this]
          unfold topT
          simp
        · exact (ok.c _ (mem_getD (show (massey ys ys.length).C.length - 1 < (massey ys ys.length).C.length by omega))).2
      unfold makesF
      rw [if_pos (by simp only [okM, hg, Bool.true_and, decide_eq_true_eq]; exact ⟨htop, by omega, h40⟩)]
      congr 1
      unfold makesB
      refine decide_eq_true fun j h1 h2 => ?_
      exact mi.gen.2 j (by omega) h1
    · simp at h
  · simp at h

theorem short_least {ys : List Bool} {zs xs : List Int} {L n : Int} (h : shortF ys = (zs, L, true)) (hn : 0 ≤ n) (hL : n < L) {g1 g2 : Bool} (hm : makesF xs n ys = (g1, g2)) : ¬ (g2 = true ∧ g1 = true) := by
  rintro ⟨rfl, rfl⟩
  unfold shortF at h
  split at h
  · rename_i h40
    split at h
    · simp only [Prod.mk.injEq, and_true] at h
      obtain ⟨rfl, rfl⟩ := h
      have mi := massey_mi ys ys.length h40
      unfold makesF at hm
      split at hm
      · rename_i hok
        simp only [okM, Bool.and_eq_true, decide_eq_true_eq] at hok
        simp only [Prod.mk.injEq, and_true, makesB, decide_eq_true_eq] at hm
        have := mi.least xs n.toNat ⟨fun t ht => ⟨by have := (goodT_all xs 0 hok.1 t ht).1; omega, by have := goodT_top xs 0 hok.1 t ht; omega⟩, fun j h1 h2 => hm j h2 h1⟩
        omega
      · simp at hm
    · simp at h
  · simp at h

end Go.Proofs.Ytjdfpjeeipbghaa
