/- Plain facts for FnMixes: what goes out does not tell in what order it came. -/
import Derived.Test.YtnppmgnfignbcaaPM8
namespace Go.Proofs.Ytnppmgnfignbcaa
set_option linter.unusedVariables false
set_option maxRecDepth 1000000
set_option linter.unusedSimpArgs false
open Go.RowKit

/-- No two unlike texts have one tag. -/
def Ap (L : List ByteArray) : Prop := (∀ s ∈ L, s.size ≤ 24) ∧ ∀ s ∈ L, ∀ t ∈ L, tagN s = tagN t → s = t

theorem putM_grow (m : MixV) (s : ByteArray) : (putM m s).1.pool.length ≤ m.pool.length + 1 ∧ (putM m s).1.seen.length ≤ m.seen.length + 1 := by
  unfold putM
  split
  · exact ⟨by simp, by simp⟩
  · split
    · exact ⟨by simp, by simp⟩
    · exact ⟨by simp [insL_length], by simp [insL_length]⟩

theorem putM_in {m : MixV} {s : ByteArray} (h : tagN s ∈ m.seen) : (putM m s).1 = m := by unfold putM; rw [if_pos h]
theorem putM_out {m : MixV} {s : ByteArray} (h : tagN s ∉ m.seen) (h1 : m.pool.length ≠ 12) (h2 : m.seen.length ≠ 100) : (putM m s).1 = { m with pool := insL ltS s m.pool, seen := insL ltI (tagN s) m.seen } := by
  unfold putM
  rw [if_neg h, if_neg (fun e => e.elim h1 h2)]

theorem put_swap {m : MixV} (g : GoodV m) {s t : ByteArray} (hi : tagN s = tagN t → s = t) (h1 : m.pool.length + 2 ≤ 12) (h2 : m.seen.length + 2 ≤ 100) : (putM (putM m s).1 t).1 = (putM (putM m t).1 s).1 := by
  by_cases e : s = t
  · subst e; rfl
  have hne : tagN s ≠ tagN t := fun h => e (hi h)
  by_cases hs : tagN s ∈ m.seen
  · rw [putM_in hs]
    by_cases ht : tagN t ∈ m.seen
    · rw [putM_in ht, putM_in hs]
    · rw [putM_out ht (by omega) (by omega), putM_in (m := { m with pool := insL ltS t m.pool, seen := insL ltI (tagN t) m.seen }) ((insL_mem _ _ _).2 (Or.inr hs))]
  · rw [putM_out hs (by omega) (by omega)]
    by_cases ht : tagN t ∈ m.seen
    · rw [putM_in (m := { m with pool := insL ltS s m.pool, seen := insL ltI (tagN s) m.seen }) ((insL_mem _ _ _).2 (Or.inr ht)), putM_in ht, putM_out hs (by omega) (by omega)]
    · rw [putM_out ht (by omega) (by omega)]
      have a1 : tagN t ∉ insL ltI (tagN s) m.seen := fun h => by
        rcases (insL_mem _ _ _).1 h with h | h
        · exact hne h.symm
        · exact ht h
      have a2 : tagN s ∉ insL ltI (tagN t) m.seen := fun h => by
        rcases (insL_mem _ _ _).1 h with h | h
        · exact hne h
        · exact hs h
      rw [putM_out (m := { m with pool := insL ltS s m.pool, seen := insL ltI (tagN s) m.seen }) a1 (by show (insL ltS s m.pool).length ≠ 12; rw [insL_length]; omega) (by show (insL ltI (tagN s) m.seen).length ≠ 100; rw [insL_length]; omega)]
      rw [putM_out (m := { m with pool := insL ltS t m.pool, seen := insL ltI (tagN t) m.seen }) a2 (by show (insL ltS t m.pool).length ≠ 12; rw [insL_length]; omega) (by show (insL ltI (tagN t) m.seen).length ≠ 100; rw [insL_length]; omega)]
      have p1 : s ∉ m.pool := fun h => hs (g.tagged s h)
      have p2 : t ∉ m.pool := fun h => ht (g.tagged t h)
      have p3 : t ∉ insL ltS s m.pool := fun h => by
        rcases (insL_mem _ _ _).1 h with h | h
        · exact e h.symm
        · exact p2 h
      have p4 : s ∉ insL ltS t m.pool := fun h => by
        rcases (insL_mem _ _ _).1 h with h | h
        · exact e h
        · exact p1 h
      have q1 : insL ltS t (insL ltS s m.pool) = insL ltS s (insL ltS t m.pool) := ris_ext ordS (insL_ris ordS t (insL_ris ordS s g.rising p1) p3) (insL_ris ordS s (insL_ris ordS t g.rising p2) p4) fun x => by
        simp only [insL_mem]
        constructor
        · rintro (h | h | h)
          · exact Or.inr (Or.inl h)
          · exact Or.inl h
          · exact Or.inr (Or.inr h)
        · rintro (h | h | h)
          · exact Or.inr (Or.inl h)
          · exact Or.inl h
          · exact Or.inr (Or.inr h)
      have q2 : insL ltI (tagN t) (insL ltI (tagN s) m.seen) = insL ltI (tagN s) (insL ltI (tagN t) m.seen) := ris_ext ordI (insL_ris ordI _ (insL_ris ordI _ g.risen hs) a1) (insL_ris ordI _ (insL_ris ordI _ g.risen ht) a2) fun x => by
        simp only [insL_mem]
        constructor
        · rintro (h | h | h)
          · exact Or.inr (Or.inl h)
          · exact Or.inl h
          · exact Or.inr (Or.inr h)
        · rintro (h | h | h)
          · exact Or.inr (Or.inl h)
          · exact Or.inl h
          · exact Or.inr (Or.inr h)
      show ({ m with pool := _, seen := _ } : MixV) = { m with pool := _, seen := _ }
      rw [q1, q2]

theorem putsM_perm {l k : List ByteArray} (hp : l.Perm k) : ∀ {m : MixV}, GoodV m → Ap l → m.pool.length + l.length ≤ 12 → m.seen.length + l.length ≤ 100 → putsM m l = putsM m k := by
  induction hp with
  | nil => intros; rfl
  | cons s _ ih =>
    intro m g ha h1 h2
    have hg := putM_grow m s
    simp only [List.length_cons] at h1 h2
    show putsM (putM m s).1 _ = putsM (putM m s).1 _
    exact ih (good_put g (ha.1 s (by simp))) ⟨fun t ht => ha.1 t (by simp [ht]), fun t ht u hu => ha.2 t (by simp [ht]) u (by simp [hu])⟩ (by omega) (by omega)
  | swap s t l =>
    intro m g ha h1 h2
    simp only [List.length_cons] at h1 h2
    show putsM (putM (putM m t).1 s).1 l = putsM (putM (putM m s).1 t).1 l
    rw [put_swap g (ha.2 s (by simp) t (by simp)) (by omega) (by omega)]
  | trans p1 p2 ih1 ih2 =>
    intro m g ha h1 h2
    rw [ih1 g ha h1 h2]
    exact ih2 g ⟨fun t ht => ha.1 t (p1.mem_iff.2 ht), fun t ht u hu => ha.2 t (p1.mem_iff.2 ht) u (p1.mem_iff.2 hu)⟩ (by rw [← p1.length_eq]; exact h1) (by rw [← p1.length_eq]; exact h2)

theorem putsM_grow : ∀ (l : List ByteArray) (m : MixV), (putsM m l).pool.length ≤ m.pool.length + l.length ∧ (putsM m l).seen.length ≤ m.seen.length + l.length
  | [], m => ⟨by simp [putsM], by simp [putsM]⟩
  | s :: l, m => by
    have h1 := putM_grow m s
    have h2 := putsM_grow l (putM m s).1
    have e : putsM m (s :: l) = putsM (putM m s).1 l := rfl
    rw [e]
    simp only [List.length_cons]
    omega
theorem tickM_grow (m : MixV) : (tickM m).1.pool.length ≤ m.pool.length ∧ (tickM m).1.seen.length ≤ m.seen.length := by
  unfold tickM
  split
  · exact ⟨by simp, by simp⟩
  · split
    · exact ⟨by simp, by simp⟩
    · exact ⟨by simp, by simp⟩

theorem playM_turned : ∀ (rs : List (List ByteArray)) {m : MixV}, GoodV m → Ap rs.flatten → m.pool.length + rs.flatten.length ≤ 12 → m.seen.length + rs.flatten.length ≤ 100 → playM m (rs.map List.reverse) = playM m rs
  | [], m, _, _, _, _ => rfl
  | l :: r, m, g, ha, h1, h2 => by
    rw [List.flatten_cons] at ha h1 h2
    rw [List.length_append] at h1 h2
    have hb : poolB l.reverse = poolB l := by unfold poolB; rw [List.length_reverse, List.all_reverse]
    rw [List.map_cons]
    unfold playM
    rw [hb]
    by_cases hp : poolB l = true
    · rw [if_pos hp, if_pos hp]
      have hal : Ap l := ⟨fun t ht => ha.1 t (List.mem_append_left _ ht), fun t ht u hu => ha.2 t (List.mem_append_left _ ht) u (List.mem_append_left _ hu)⟩
      have har : Ap r.flatten := ⟨fun t ht => ha.1 t (List.mem_append_right _ ht), fun t ht u hu => ha.2 t (List.mem_append_right _ ht) u (List.mem_append_right _ hu)⟩
      rw [← putsM_perm (List.reverse_perm l).symm g hal (by omega) (by omega)]
      have g1 := putsM_grow l m
      have g2 := tickM_grow (putsM m l)
      rw [playM_turned r (good_tick (good_puts l g hal.1)) har (by omega) (by omega)]
    · rw [if_neg hp, if_neg hp]

theorem playF_turned {a b : Int} {xss : List (List ByteArray)} (ha : Ap xss.flatten) (hl : xss.flatten.length ≤ 12) : playF a b (xss.map List.reverse) = playF a b xss := by
  unfold playF
  rw [List.length_map]
  by_cases h : newB a b = true ∧ xss.length ≤ 20
  · rw [if_pos h, if_pos h, playM_turned xss (good_new h.1) ha (by simpa using hl) (by show ([] : List Int).length + xss.flatten.length ≤ 100; have : ([] : List Int).length = 0 := rfl; omega)]
  · rw [if_neg h, if_neg h]

/-- A text more. -/
theorem Ap.snoc {L : List ByteArray} {s : ByteArray} (h : Ap L) (hs : s.size ≤ 24) (hn : ∀ t ∈ L, t ≠ s → tagN t ≠ tagN s) : Ap (L ++ [s]) := by
  refine ⟨fun t ht => ?_, fun t ht u hu e => ?_⟩
  · rcases List.mem_append.1 ht with h1 | h1
    · exact h.1 t h1
    · rw [List.mem_singleton.1 h1]; exact hs
  · rcases List.mem_append.1 ht with h1 | h1 <;> rcases List.mem_append.1 hu with h2 | h2
    · exact h.2 t h1 u h2 e
    · rw [List.mem_singleton.1 h2] at e ⊢
      exact Classical.byContradiction fun hh => hn t h1 hh e
    · rw [List.mem_singleton.1 h1] at e ⊢
      exact Classical.byContradiction fun hh => hn u h2 (fun x => hh x.symm) e.symm
    · rw [List.mem_singleton.1 h1, List.mem_singleton.1 h2]

end Go.Proofs.Ytnppmgnfignbcaa
