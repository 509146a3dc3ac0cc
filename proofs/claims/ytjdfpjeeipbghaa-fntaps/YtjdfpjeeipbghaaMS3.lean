/- Massey's way, plainly: the state, step by step; what stays true of it; the specification's turning of taps comes to the same. -/
import Derived.Test.YtjdfpjeeipbghaaA3
namespace Go.Proofs.Ytjdfpjeeipbghaa
set_option linter.unusedVariables false
set_option linter.unusedSimpArgs false
open Go.RowKit

/-- Strictly rising. -/
abbrev Srt (l : List Int) : Prop := l.Pairwise (· < ·)

theorem srt_ext : ∀ {a b : List Int}, Srt a → Srt b → (∀ u, u ∈ a ↔ u ∈ b) → a = b
  | [], [], _, _, _ => rfl
  | [], y :: s, _, _, h => by have := (h y).2 (by simp); cases this
  | x :: r, [], _, _, h => by have := (h x).1 (by simp); cases this
  | x :: r, y :: s, ha, hb, h => by
    have ha' := List.pairwise_cons.1 ha
    have hb' := List.pairwise_cons.1 hb
    have hxy : x = y := by
      have h1 := (h x).1 (by simp)
      have h2 := (h y).2 (by simp)
      rcases List.mem_cons.1 h1 with h1 | h1
      · exact h1
      · rcases List.mem_cons.1 h2 with h2 | h2
        · exact h2.symm
        · have := hb'.1 x h1
          have := ha'.1 y h2
          omega
    subst hxy
    congr 1
    refine srt_ext ha'.2 hb'.2 fun u => ⟨fun hu => ?_, fun hu => ?_⟩
    · rcases List.mem_cons.1 ((h u).1 (List.mem_cons_of_mem _ hu)) with e | e
      · have := ha'.1 u hu; omega
      · exact e
    · rcases List.mem_cons.1 ((h u).2 (List.mem_cons_of_mem _ hu)) with e | e
      · have := hb'.1 u hu; omega
      · exact e

/-- The places 1 to 40. -/
def places : Nat → List Int
  | 0 => []
  | k + 1 => places k ++ [((k + 1 : Nat) : Int)]

theorem mem_places : ∀ {k : Nat} {u : Int}, u ∈ places k ↔ 1 ≤ u ∧ u ≤ k
  | 0, u => by simp [places]; omega
  | k + 1, u => by
    simp only [places, List.mem_append, List.mem_singleton, mem_places (k := k)]
    omega

theorem srt_places : ∀ k, Srt (places k)
  | 0 => List.Pairwise.nil
  | k + 1 => by
    simp only [places]
    refine List.pairwise_append.2 ⟨srt_places k, List.pairwise_singleton _ _, fun a ha b hb => ?_⟩
    have := mem_places.1 ha
    simp at hb
    omega

/-- The taps that are in just one of the two. -/
def oneOf (a b : List Int) (k : Nat) : List Int := (places k).filter (fun t => !(decide (t ∈ a) == decide (t ∈ b)))
/-- Since itself and before's taps that many more. -/
def further (b : List Int) (s : Int) : List Int := s :: b.map (· + s)

theorem oneOf_succ (a b : List Int) (k : Nat) : oneOf a b (k + 1) = oneOf a b k ++ (if (!(decide (((k + 1 : Nat) : Int) ∈ a) == decide (((k + 1 : Nat) : Int) ∈ b))) = true then [((k + 1 : Nat) : Int)] else []) := by
  simp only [oneOf, places, List.filter_append]
  congr 1
  simp [List.filter_cons]

theorem mem_oneOf {a b : List Int} {k : Nat} {u : Int} : u ∈ oneOf a b k ↔ (1 ≤ u ∧ u ≤ k) ∧ ¬ (u ∈ a ↔ u ∈ b) := by
  simp only [oneOf, List.mem_filter, mem_places]
  refine and_congr_right fun _ => ?_
  by_cases h1 : u ∈ a <;> by_cases h2 : u ∈ b <;> simp [h1, h2]

theorem srt_oneOf (a b : List Int) (k : Nat) : Srt (oneOf a b k) := List.Pairwise.filter _ (srt_places k)
theorem oneOf_length (a b : List Int) (k : Nat) : (oneOf a b k).length ≤ k := by
  have h : (places k).length = k := by induction k with | zero => rfl | succ k ih => simp [places, ih]
  have := List.length_filter_le (fun t => !(decide (t ∈ a) == decide (t ∈ b))) (places k)
  unfold oneOf
  omega

/-- A tap is put in, or taken out, as the specification does it. -/
def putAt (l : List Int) (k : Nat) (t : Int) : List Int := l.take k ++ [t] ++ l.drop k
def lowT (l : List Int) (t : Int) : Nat := (l.takeWhile (fun x => decide (x < t))).length
def turnL (l : List Int) (t : Int) : List Int := if t ∈ l then l.filter (fun x => !(x == t)) else putAt l (lowT l t) t

theorem lowT_le (l : List Int) (t : Int) : lowT l t ≤ l.length := by
  unfold lowT
  exact (List.takeWhile_sublist _).length_le

theorem lowT_unique {l : List Int} {t : Int} {k : Nat} (hk : k ≤ l.length) (h1 : ∀ j, j < k → l.getD j 0 < t) (h2 : k = l.length ∨ t ≤ l.getD k 0) : lowT l t = k := by
  induction l generalizing k with
  | nil => simp at hk; subst hk; rfl
  | cons x r ih =>
    cases k with
    | zero =>
      have : ¬ x < t := by
        rcases h2 with h2 | h2
        · simp at h2
        · simpa using h2
      simp [lowT, List.takeWhile_cons, this]
    | succ k =>
      have hx : x < t := by simpa using h1 0 (by omega)
      have := ih (k := k) (by simpa using hk) (fun j hj => by simpa using h1 (j + 1) (by omega)) (by
        rcases h2 with h2 | h2
        · left; simpa using h2
        · right; simpa using h2)
      simp only [lowT, List.takeWhile_cons, hx, decide_true, if_true, List.length_cons] at *
      omega

theorem lowT_lt {l : List Int} {t : Int} : ∀ x ∈ l.take (lowT l t), x < t := by
  induction l with
  | nil => intro x hx; simp at hx
  | cons y r ih =>
    by_cases h : y < t
    · have e : lowT (y :: r) t = lowT r t + 1 := by simp [lowT, List.takeWhile_cons, h]
      rw [e]
      intro x hx
      simp only [List.take_succ_cons, List.mem_cons] at hx
      rcases hx with rfl | hx
      · exact h
      · exact ih x hx
    · have e : lowT (y :: r) t = 0 := by simp [lowT, List.takeWhile_cons, h]
      rw [e]
      intro x hx
      simp at hx

theorem lowT_ge {l : List Int} {t : Int} (hs : Srt l) (hn : ¬ t ∈ l) : ∀ x ∈ l.drop (lowT l t), t < x := by
  induction l with
  | nil => intro x hx; simp at hx
  | cons y r ih =>
    have hs' := List.pairwise_cons.1 hs
    by_cases h : y < t
    · have e : lowT (y :: r) t = lowT r t + 1 := by simp [lowT, List.takeWhile_cons, h]
      rw [e]
      simpa using ih hs'.2 (fun h2 => hn (List.mem_cons_of_mem _ h2))
    · have e : lowT (y :: r) t = 0 := by simp [lowT, List.takeWhile_cons, h]
      rw [e]
      intro x hx
      have hy : t < y := by
        have : t ≠ y := fun e => hn (by simp [e])
        omega
      rcases List.mem_cons.1 hx with rfl | hx
      · exact hy
      · have := hs'.1 x hx
        omega

theorem turn_srt {l : List Int} {t : Int} (hs : Srt l) : Srt (turnL l t) := by
  unfold turnL
  split
  · exact List.Pairwise.filter _ hs
  · rename_i hn
    unfold putAt
    refine List.pairwise_append.2 ⟨List.pairwise_append.2 ⟨List.Pairwise.sublist (List.take_sublist _ _) hs, List.pairwise_singleton _ _, fun a ha b hb => ?_⟩, List.Pairwise.sublist (List.drop_sublist _ _) hs, fun a ha b hb => ?_⟩
    · simp at hb; subst hb; exact lowT_lt a ha
    · have hb' := lowT_ge hs hn b hb
      rcases List.mem_append.1 ha with ha | ha
      · have := lowT_lt a ha; omega
      · simp at ha; subst ha; exact hb'

theorem turn_mem {l : List Int} {t u : Int} : u ∈ turnL l t ↔ ¬ (u ∈ l ↔ u = t) := by
  unfold turnL
  split
  · rename_i h
    simp only [List.mem_filter, Bool.not_eq_true', beq_eq_false_iff_ne]
    constructor
    · rintro ⟨h1, h2⟩ h3; exact h2 (h3.1 h1)
    · intro h1
      by_cases e : u = t
      · subst e; exact absurd ⟨fun _ => rfl, fun _ => h⟩ h1
      · refine ⟨?_, e⟩
        by_cases h2 : u ∈ l
        · exact h2
        · exact absurd ⟨fun h3 => absurd h3 h2, fun h3 => absurd h3 e⟩ h1
  · rename_i h
    have e : ∀ u, u ∈ putAt l (lowT l t) t ↔ (u ∈ l ∨ u = t) := fun u => by
      unfold putAt
      conv => rhs; rw [← List.take_append_drop (lowT l t) l]
      simp only [List.mem_append, List.mem_singleton]
      constructor
      · rintro ((h | h) | h)
        · exact Or.inl (Or.inl h)
        · exact Or.inr h
        · exact Or.inl (Or.inr h)
      · rintro ((h | h) | h)
        · exact Or.inl (Or.inl h)
        · exact Or.inr h
        · exact Or.inl (Or.inr h)
    rw [e]
    constructor
    · rintro (h1 | h1) h2
      · have := h2.1 h1; subst this; exact h h1
      · subst h1; exact h (h2.2 rfl)
    · intro h1
      by_cases e2 : u = t
      · exact Or.inr e2
      · left
        by_cases h2 : u ∈ l
        · exact h2
        · exact absurd ⟨fun h3 => absurd h3 h2, fun h3 => absurd h3 e2⟩ h1

theorem fold_srt : ∀ (ts l : List Int), Srt l → Srt (ts.foldl turnL l)
  | [], l, h => h
  | t :: r, l, h => fold_srt r (turnL l t) (turn_srt h)

theorem fold_mem : ∀ (ts l : List Int) (u : Int), ts.Nodup → (u ∈ ts.foldl turnL l ↔ ¬ (u ∈ l ↔ u ∈ ts))
  | [], l, u, _ => by simp
  | t :: r, l, u, h => by
    have h' := List.nodup_cons.1 h
    simp only [List.foldl_cons]
    rw [fold_mem r (turnL l t) u h'.2, turn_mem, List.mem_cons]
    by_cases h1 : u ∈ l <;> by_cases h2 : u = t <;> by_cases h3 : u ∈ r <;> simp_all

theorem srt_nodup {l : List Int} (h : Srt l) : l.Nodup := h.imp (fun hab => by omega)

/-- The specification's way to the new taps is the program's. -/
theorem fold_oneOf {C B : List Int} {s : Int} {K : Nat} (hC : Srt C) (hB : Srt B) (hs : 1 ≤ s) (hc1 : ∀ t ∈ C, 1 ≤ t ∧ t ≤ K) (hb1 : ∀ t ∈ B, 1 ≤ t ∧ t + s ≤ K) (hsk : s ≤ K) :
    (B.map (· + s)).foldl turnL (turnL C s) = oneOf C (further B s) K := by
  have hsr : Srt (further B s) := by
    unfold further
    refine List.pairwise_cons.2 ⟨fun a ha => ?_, ?_⟩
    · obtain ⟨b, hb, rfl⟩ := List.mem_map.1 ha
      have := hb1 b hb
      show s < b + s
      omega
    · exact List.pairwise_map.2 (hB.imp (fun h => by show _ + s < _ + s; omega))
  have hfr : ∀ u ∈ further B s, 1 ≤ u ∧ u ≤ K := fun u hu => by
    rcases List.mem_cons.1 hu with rfl | hu
    · exact ⟨hs, hsk⟩
    · obtain ⟨b, hb, rfl⟩ := List.mem_map.1 hu
      have := hb1 b hb
      show 1 ≤ b + s ∧ b + s ≤ K
      omega
  have e : (B.map (· + s)).foldl turnL (turnL C s) = (further B s).foldl turnL C := rfl
  rw [e]
  refine srt_ext (fold_srt _ _ hC) (srt_oneOf _ _ _) fun u => ?_
  rw [fold_mem _ _ _ (srt_nodup hsr), mem_oneOf]
  constructor
  · intro h
    refine ⟨?_, h⟩
    by_cases h1 : u ∈ C
    · exact hc1 u h1
    · by_cases h2 : u ∈ further B s
      · exact hfr u h2
      · exact absurd ⟨fun h3 => absurd h3 h1, fun h3 => absurd h3 h2⟩ h
  · exact fun h => h.2

structure MS where
  C : List Int
  B : List Int
  L : Nat
  s : Nat

def massey (ys : List Bool) : Nat → MS
  | 0 => ⟨[], [], 0, 1⟩
  | k + 1 => if ys.getD k false = nextB (massey ys k).C ys k then ⟨(massey ys k).C, (massey ys k).B, (massey ys k).L, (massey ys k).s + 1⟩
    else if 2 * (massey ys k).L ≤ k then ⟨oneOf (massey ys k).C (further (massey ys k).B (massey ys k).s) 40, (massey ys k).C, k + 1 - (massey ys k).L, 1⟩
    else ⟨oneOf (massey ys k).C (further (massey ys k).B (massey ys k).s) 40, (massey ys k).B, (massey ys k).L, (massey ys k).s + 1⟩

/-- What stays true. -/
structure MOk (st : MS) (k : Nat) : Prop where
  sc : Srt st.C
  sb : Srt st.B
  c : ∀ t ∈ st.C, 1 ≤ t ∧ t ≤ (st.L : Int)
  b : ∀ t ∈ st.B, 1 ≤ t ∧ t + st.s + st.L ≤ (k : Int) + 1
  s1 : 1 ≤ st.s
  s2 : st.s + st.L ≤ k + 1
  l : st.L ≤ k
  lc : st.C.length ≤ 40
  lb : st.B.length ≤ 40

theorem oneOf_le {st : MS} {k : Nat} (h : MOk st k) : ∀ t ∈ oneOf st.C (further st.B st.s) 40, 1 ≤ t ∧ (t ≤ st.L ∨ t + st.L ≤ (k : Int) + 1) := fun t ht => by
  rw [mem_oneOf] at ht
  refine ⟨ht.1.1, ?_⟩
  by_cases h1 : t ∈ st.C
  · exact Or.inl (h.c t h1).2
  · have h2 : t ∈ further st.B st.s := by
      by_cases h2 : t ∈ further st.B st.s
      · exact h2
      · exact absurd ⟨fun h3 => absurd h3 h1, fun h3 => absurd h3 h2⟩ ht.2
    right
    rcases List.mem_cons.1 h2 with e | h2
    · have := h.s2; omega
    · obtain ⟨b, hb, e⟩ := List.mem_map.1 h2
      have := h.b b hb
      have e' : b + (st.s : Int) = t := e
      omega

theorem massey_ok (ys : List Bool) : ∀ k, MOk (massey ys k) k
  | 0 => ⟨List.Pairwise.nil, List.Pairwise.nil, fun t ht => (by cases ht), fun t ht => (by cases ht), by simp [massey], by simp [massey], by simp [massey], by simp [massey], by simp [massey]⟩
  | k + 1 => by
    have h := massey_ok ys k
    simp only [massey]
    split
    · exact ⟨h.sc, h.sb, h.c, fun t ht => by have := h.b t ht; simp only; push_cast; omega, by have := h.s1; simp only; omega, by have := h.s2; simp only; omega, by have := h.l; simp only; omega, h.lc, h.lb⟩
    · split
      · rename_i h2
        refine ⟨srt_oneOf _ _ _, h.sc, fun t ht => ?_, fun t ht => ?_, Nat.le_refl _, ?_, ?_, oneOf_length _ _ _, h.lc⟩
        · have := oneOf_le h t ht
          have := h.l
          simp only
          omega
        · have := h.c t ht
          have := h.l
          simp only
          push_cast
          omega
        · have := h.l
          simp only
          omega
        · simp only
          omega
      · rename_i h2
        refine ⟨srt_oneOf _ _ _, h.sb, fun t ht => ?_, fun t ht => ?_, ?_, ?_, ?_, oneOf_length _ _ _, h.lb⟩
        · have := oneOf_le h t ht
          simp only
          omega
        · have := h.b t ht
          simp only
          push_cast
          omega
        · simp only
          omega
        · have := h.s2
          simp only
          omega
        · have := h.l
          simp only
          omega

def shortF (ys : List Bool) : List Int × Int × Bool := if ys.length ≤ 40 then (if goodT 0 (massey ys ys.length).C = true then ((massey ys ys.length).C, ((massey ys ys.length).L : Int), true) else ([], 0, false)) else ([], 0, false)

theorem srt_good : ∀ {l : List Int} {a : Int}, Srt l → (∀ t ∈ l, a < t) → (∀ t ∈ l, t ≤ 12) → goodT a l = true
  | [], _, _, _, _ => rfl
  | x :: r, a, hs, h1, h2 => by
    have hs' := List.pairwise_cons.1 hs
    simp only [goodT, Bool.and_eq_true, decide_eq_true_eq]
    exact ⟨⟨h1 x (by simp), h2 x (by simp)⟩, srt_good hs'.2 hs'.1 (fun t ht => h2 t (List.mem_cons_of_mem _ ht))⟩

theorem srt_top : ∀ {l : List Int}, Srt l → ∀ t ∈ l, t ≤ topT l
  | [], _, t, ht => by cases ht
  | [x], _, t, ht => by simp at ht; subst ht; simp [topT]
  | x :: y :: r, hs, t, ht => by
    have hs' := List.pairwise_cons.1 hs
    rw [topT_cons]
    rcases List.mem_cons.1 ht with rfl | ht
    · have h1 := hs'.1 y (by simp)
      have h2 := srt_top hs'.2 y (by simp)
      omega
    · exact srt_top hs'.2 t ht

theorem good_top {l : List Int} (hs : Srt l) (h1 : ∀ t ∈ l, 1 ≤ t) : goodT 0 l = decide (topT l ≤ 12) := by
  by_cases h : topT l ≤ 12
  · rw [decide_eq_true h]
    exact srt_good hs (fun t ht => by have := h1 t ht; omega) (fun t ht => by have := srt_top hs t ht; omega)
  · rw [decide_eq_false h, Bool.eq_false_iff]
    intro hg
    exact h (topT_range hg).2

end Go.Proofs.Ytjdfpjeeipbghaa
