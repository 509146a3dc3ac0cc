/- Chapter 8: plain facts of what a good mix is, as the specification looks at it. -/
import Derived.Test.YtnppmgnfignbcaaJ8
namespace Go.Proofs.Ytnppmgnfignbcaa
set_option linter.unusedVariables false
set_option maxRecDepth 1000000
set_option linter.unusedSimpArgs false
open Go.RowKit

theorem Own.nil {w : World} {base n c : Nat} {ao : Option Addr} {xs : List Int} (h : Own w base (.slice ao n c) xs) : ao = none → n = 0 ∧ c = 0 := by
  intro e
  rcases h.form with ⟨h1, _⟩ | ⟨g, cap, h1, _⟩
  · simp only [Value.slice.injEq] at h1; exact ⟨h1.2.1, h1.2.2⟩
  · simp only [Value.slice.injEq] at h1; rw [e] at h1; cases h1.1
theorem OwnS.nil {w : World} {base n c : Nat} {ao : Option Addr} {xs : List ByteArray} (h : OwnS w base (.slice ao n c) xs) : ao = none → n = 0 ∧ c = 0 := by
  intro e
  rcases h.form with ⟨h1, _⟩ | ⟨g, cap, h1, _⟩
  · simp only [Value.slice.injEq] at h1; exact ⟨h1.2.1, h1.2.2⟩
  · simp only [Value.slice.injEq] at h1; rw [e] at h1; cases h1.1
theorem sep_types {w : World} {b1 b2 : Nat} {v u : Value} {xs : List Int} {ys : List ByteArray} (h : Own w b1 v xs) (k : OwnS w b2 u ys) : v.ownBlock = none ∨ v.ownBlock ≠ u.ownBlock := by
  rcases h.2 with ⟨rfl, _⟩ | ⟨g, cap, cur, rfl, _, hg, _⟩
  · exact Or.inl rfl
  · rcases k.2 with ⟨rfl, _⟩ | ⟨g', cap', cur', rfl, _, hg', _⟩
    · exact Or.inr (by simp [Value.ownBlock])
    · refine Or.inr fun e => ?_
      simp only [Value.ownBlock, Option.some.injEq] at e
      subst e
      rw [hg] at hg'
      simp at hg'
theorem sep_types' {w : World} {b1 b2 : Nat} {v u : Value} {xs : List Int} {ys : List ByteArray} (h : Own w b1 v xs) (k : OwnS w b2 u ys) : u.ownBlock = none ∨ u.ownBlock ≠ v.ownBlock := by
  rcases sep_types h k with h1 | h1
  · rcases Option.eq_none_or_eq_some u.ownBlock with e | ⟨x, e⟩
    · exact Or.inl e
    · exact Or.inr (by rw [h1, e]; simp)
  · exact Or.inr fun e => h1 e.symm

/-- What stops the specification's look at place k. -/
def badAt (pool : List ByteArray) (seen : List Int) (k : Nat) : Prop :=
  (0 < k ∧ ltS (pool.getD k ByteArray.empty) (pool.getD (k - 1) ByteArray.empty) = true) ∨ tagN (pool.getD k ByteArray.empty) ∉ seen ∨ tagN (pool.getD k ByteArray.empty) ∈ (pool.take k).map tagN

theorem nodup_take {l : List ByteArray} (h : (l.map tagN).Nodup) {k : Nat} (hk : k < l.length) : tagN (l.getD k ByteArray.empty) ∉ (l.take k).map tagN := by
  intro hm
  obtain ⟨t, ht, et⟩ := List.mem_map.1 hm
  obtain ⟨j, hj, ej⟩ := List.getElem_of_mem ht
  have hjk : j < k := by rw [List.length_take] at hj; omega
  have h2 := List.pairwise_iff_getElem.1 h j k (by simp; omega) (by simp; omega) hjk
  rw [List.getElem_map, List.getElem_map] at h2
  refine h2 ?_
  have e1 : l[j]'(by omega) = t := by rw [← ej, List.getElem_take]
  rw [e1, et]
  simp [List.getD, hk]
theorem take_nodup {l : List ByteArray} (h : ∀ k, k < l.length → tagN (l.getD k ByteArray.empty) ∉ (l.take k).map tagN) : (l.map tagN).Nodup := by
  refine List.pairwise_iff_getElem.2 fun i j hi hj hij e => ?_
  rw [List.length_map] at hi hj
  rw [List.getElem_map, List.getElem_map] at e
  refine h j hj (List.mem_map.2 ⟨l[i], ?_, ?_⟩)
  · rw [List.mem_iff_getElem]
    exact ⟨i, by rw [List.length_take]; omega, by rw [List.getElem_take]⟩
  · rw [e]; simp [List.getD, hj]

theorem good_fail {m : MixV} {k : Nat} (hk : k < m.pool.length) (h : badAt m.pool m.seen k) : goodB m = false := by
  cases e : goodB m with
  | false => rfl
  | true =>
    have g := (goodB_iff m).1 e
    exfalso
    rcases h with ⟨h0, h⟩ | h | h
    · have := ris_getD g.rising ByteArray.empty (show k - 1 < k by omega) hk
      rw [ordS.asym this] at h; cases h
    · exact h (g.tagged _ (mem_getD _ hk))
    · exact nodup_take g.apart hk h

/-- Rising, and within bounds. -/
def risIn (l : List Int) : Bool := l.all (fun n => decide (0 ≤ n ∧ n ≤ 4092)) && risB ltI l

def restS (m : MixV) : Bool :=
  poolB m.pool && (decide (1 ≤ m.least ∧ m.least ≤ 12) && (decide (1 ≤ m.wait ∧ m.wait ≤ 10) && (decide (0 ≤ m.old ∧ m.old ≤ 10) && (decide (m.pool ≠ [] ∨ m.old = 0) && (risIn m.seen && decide (m.seen.length ≤ 100))))))

theorem good_pass {m : MixV} (h : ∀ k, k < m.pool.length → ¬ badAt m.pool m.seen k) : goodB m = restS m := by
  rw [Bool.eq_iff_iff, goodB_iff]
  unfold restS poolB risIn
  simp only [Bool.and_eq_true, decide_eq_true_eq, List.all_eq_true, risB_ris ordI]
  constructor
  · intro g
    refine ⟨⟨g.many, fun s hs => by simpa [shortB] using g.short s hs⟩, g.least, g.wait, g.old, ?_, ⟨fun n hn => by have := g.tags n hn; omega, g.risen⟩, g.seens⟩
    by_cases e : m.pool = []
    · exact Or.inr (g.none e)
    · exact Or.inl e
  · rintro ⟨⟨h1, h2⟩, h3, h4, h5, h6, ⟨h7, h8⟩, h9⟩
    have hnd : (m.pool.map tagN).Nodup := take_nodup fun k hk e => h k hk (Or.inr (Or.inr e))
    refine ⟨h3, h4, h5, fun e => by rcases h6 with h6 | h6; exact absurd e h6; exact h6, h1, fun s hs => by simpa [shortB] using h2 s hs, h9, fun n hn => by have := h7 n hn; omega, ?_, h8, fun s hs => ?_, hnd⟩
    · refine (risB_ris ordS).1 ((risB_at ByteArray.empty).2 fun i hi => ?_)
      have hb := h (i + 1) hi
      have hle : ltS (m.pool.getD (i + 1) ByteArray.empty) (m.pool.getD i ByteArray.empty) = false := by
        cases e : ltS (m.pool.getD (i + 1) ByteArray.empty) (m.pool.getD i ByteArray.empty) with
        | false => rfl
        | true => exact absurd (Or.inl ⟨by omega, by rw [show i + 1 - 1 = i by omega]; exact e⟩) hb
      cases e : ltS (m.pool.getD i ByteArray.empty) (m.pool.getD (i + 1) ByteArray.empty) with
      | true => rfl
      | false =>
        exfalso
        have he := ordS.tot e hle
        refine hb (Or.inr (Or.inr ?_))
        rw [← he]
        refine List.mem_map.2 ⟨_, ?_, rfl⟩
        rw [take_snoc ByteArray.empty (show i < m.pool.length by omega)]
        simp
    · obtain ⟨j, hj, e⟩ := of_mem_getD ByteArray.empty hs
      rw [← e]
      exact Classical.byContradiction fun hh => h j hj (Or.inr (Or.inl hh))

end Go.Proofs.Ytnppmgnfignbcaa
