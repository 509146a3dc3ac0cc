/- Plain facts for FnPools: a mix that is drawn has always room. -/
import Derived.Test.YtnppmgnfignbcaaF8P
import Derived.Test.YtnppmgnfignbcaaD8
namespace Go.Proofs.Ytnppmgnfignbcaa
set_option linter.unusedVariables false
set_option maxRecDepth 1000000
set_option linter.unusedSimpArgs false
open Go.RowKit

/-- A list without repeats that lies in another one is no longer. -/
theorem nodup_le {α : Type} [DecidableEq α] : ∀ {l m : List α}, l.Nodup → (∀ x ∈ l, x ∈ m) → l.length ≤ m.length
  | [], _, _, _ => Nat.zero_le _
  | a :: l, m, h, hs => by
    obtain ⟨h1, h2⟩ := List.nodup_cons.1 h
    have h3 := nodup_le (l := l) (m := m.erase a) h2 (fun x hx => by
      have hne : x ≠ a := fun e => h1 (by rw [← e]; exact hx)
      exact (List.mem_erase_of_ne hne).2 (hs x (by simp [hx])))
    have h4 := List.length_erase_of_mem (hs a (by simp))
    have h5 : 0 < m.length := List.length_pos_of_mem (hs a (by simp))
    simp only [List.length_cons]
    omega
theorem ris_nodupI {l : List Int} (h : Ris ltI l) : l.Nodup := by
  refine List.Pairwise.imp ?_ h
  intro a b hab e
  subst e
  rw [ordI.irr] at hab
  cases hab

/-- What is drawn: a good mix of the eleven letters. -/
structure Drawn (z : MixV) : Prop where
  good : GoodV z
  pool : ∀ s ∈ z.pool, s ∈ lets
  seen : ∀ n ∈ z.seen, n ∈ lets.map tagN
theorem Drawn.room {z : MixV} (h : Drawn z) : z.pool.length ≤ 11 ∧ z.seen.length ≤ 11 := by
  have h1 : z.seen.length ≤ 11 := by
    have := nodup_le (m := lets.map tagN) (ris_nodupI h.good.risen) h.seen
    simpa [lets] using this
  have h2 : (z.pool.map tagN).length ≤ z.seen.length := nodup_le h.good.apart (fun x hx => by
    obtain ⟨s, hs, rfl⟩ := List.mem_map.1 hx
    exact h.good.tagged s hs)
  rw [List.length_map] at h2
  exact ⟨by omega, h1⟩
theorem lets_short {s : ByteArray} (h : s ∈ lets) : s.size ≤ 24 := by
  simp only [lets, List.mem_cons, List.not_mem_nil, or_false] at h
  rcases h with rfl | rfl | rfl | rfl | rfl | rfl | rfl | rfl | rfl | rfl | rfl <;> decide
theorem IsLet.short {s : ByteArray} (h : IsLet s) (hs : shortB s = true) : s ∈ lets := by
  rcases h with h | rfl
  · exact h
  · exact absurd hs (by decide)
theorem Drawn.new {a b : Int} (h : newB a b = true) : Drawn ⟨[], a, b, 0, []⟩ := ⟨good_new h, fun s hs => absurd hs (by simp), fun n hn => absurd hn (by simp)⟩
theorem Drawn.put {z : MixV} (h : Drawn z) {s : ByteArray} (hs : s ∈ lets) : Drawn (putM z s).1 := by
  refine ⟨good_put h.good (lets_short hs), ?_, ?_⟩
  · unfold putM
    split
    · exact h.pool
    · split
      · exact h.pool
      · intro t ht
        rcases (insL_mem _ _ _).1 ht with e | e
        · rw [e]; exact hs
        · exact h.pool t e
  · unfold putM
    split
    · exact h.seen
    · split
      · exact h.seen
      · intro t ht
        rcases (insL_mem _ _ _).1 ht with e | e
        · rw [e]; exact List.mem_map.2 ⟨s, hs, rfl⟩
        · exact h.seen t e
theorem Drawn.tick {z : MixV} (h : Drawn z) : Drawn (tickM z).1 := by
  refine ⟨good_tick h.good, ?_, ?_⟩
  · unfold tickM
    split
    · exact h.pool
    · split
      · exact h.pool
      · intro s hs; exact absurd hs (by simp)
  · rw [(tickM_seen z).1]; exact h.seen
/-- A mix that was drawn has room: code 1 or 0. -/
theorem Drawn.code {z : MixV} (h : Drawn z) (s : ByteArray) : (putM z s).2 = 1 ∨ (putM z s).2 = 0 := by
  have hr := h.room
  unfold putM
  split
  · exact Or.inl rfl
  · rw [if_neg (by omega)]; exact Or.inr rfl
/-- Put again: code 1, and nothing changes. -/
theorem put_again {z : MixV} {s : ByteArray} (h : (putM z s).2 ≠ 2) : putM (putM z s).1 s = ((putM z s).1, 1) := by
  by_cases h1 : tagN s ∈ z.seen
  · have e : putM z s = (z, 1) := by unfold putM; rw [if_pos h1]
    rw [e]; exact e
  · by_cases h2 : z.pool.length = 12 ∨ z.seen.length = 100
    · exact absurd (by unfold putM; rw [if_neg h1, if_pos h2]) h
    · have e : (putM z s).1 = { z with pool := insL ltS s z.pool, seen := insL ltI (tagN s) z.seen } := by unfold putM; rw [if_neg h1, if_neg h2]
      have hm : tagN s ∈ (putM z s).1.seen := by rw [e]; exact (insL_mem _ _ _).2 (Or.inl rfl)
      generalize (putM z s).1 = y at hm
      unfold putM
      rw [if_pos hm]

end Go.Proofs.Ytnppmgnfignbcaa
