/- Chapter 13: what a step does. -/
import Derived.Test.YtaokmjbhgkfnfaaUS13s
namespace Go.Proofs.Ytaokmjbhgkfnfaa
set_option linter.unusedVariables false
set_option maxRecDepth 1000000
set_option linter.unusedSimpArgs false
open Go.RowKit

/-- What a step makes of a board. -/
def stepO (b : BdV) (k m l : Int) : Option BdV :=
  if k = 1 ∧ m = 0 ∧ inB l 0 9 = true ∧ l ∉ b.ls then some ⟨b.f, b.e, b.sg, b.li, insL ltI l b.ls⟩
  else if k = 2 ∧ maySB b m l = true ∧ b.sg.length < 200 then some ⟨b.f, b.e, b.sg ++ [[b.e, m, l]], b.li, b.ls⟩
  else if k = 3 ∧ m = 0 ∧ l = 0 ∧ b.e < 20 then some ⟨b.f, b.e + 1, b.sg, b.li, []⟩
  else none
def stepB (b : BdV) (k m l : Int) : Bool := goodBd b && (stepO b k m l).isSome
def stepV (b : BdV) (k m l : Int) : BdV := if goodBd b = true then (stepO b k m l).getD zeroBd else zeroBd
theorem step_bad {b : BdV} {k m l : Int} (h : goodBd b = false) : stepB b k m l = false ∧ stepV b k m l = zeroBd := by simp [stepB, stepV, h]
theorem step_none {b : BdV} {k m l : Int} (hg : goodBd b = true) (h : stepO b k m l = none) : stepB b k m l = false ∧ stepV b k m l = zeroBd := by simp [stepB, stepV, h, hg]
theorem step_some {b c : BdV} {k m l : Int} (hg : goodBd b = true) (h : stepO b k m l = some c) : stepB b k m l = true ∧ stepV b k m l = c := by simp [stepB, stepV, h, hg]
/-- What StepBoard tells. -/
def BdOk (r : Ending) (w w' : World) (b : BdV) (fb : Bool) : Prop := ∃ sa sc la lc ta tc, r = .returned (.tuple #[.agg #[.int .i64 b.f, .int .i64 b.e, .slice sa b.sg.length sc, .slice la b.li.length lc, .slice ta b.ls.length tc], .bool fb]) ∧ OwnBd w' w.heap.size w'.heap.size (.slice sa b.sg.length sc) (.slice la b.li.length lc) (.slice ta b.ls.length tc) b ∧ Below w.heap.size w w'
theorem OwnBd.setBox {w : World} {lo hi : Nat} {S L T : Value} {b : BdV} (h : OwnBd w lo hi S L T b) {r j : Nat} (hr : r < lo) (u : Value) : OwnBd (w.setCell ⟨r, j, none⟩ u) lo hi S L T b :=
  h.rng (qq := fun k => k = r) (RngP.ofGrown (grown_setCell w r j u) (fun k e => by simpa using e.symm)) (fun k h1 _ e => by omega)
theorem OwnBd.newT {w : World} {lo hi B : Nat} {S L T T2 : Value} {b : BdV} {ys : List Int} (h : OwnBd w lo hi S L T b) (hT : Own w B T2 ys) (hB : hi ≤ B) (hlo : lo ≤ B) (hs : hi ≤ w.heap.size) (f e : Int) : OwnBd w lo w.heap.size S L T2 ⟨f, e, b.sg, b.li, ys⟩ := by
  obtain ⟨pp, h1, h2, h3, h4⟩ := h.ex
  refine ⟨⟨pp, h1, fun k hk => by have := h2 k hk; omega, fun k hk => ⟨(h3 k hk).1, by have := (h3 k hk).2; omega⟩, fun k hk => ?_⟩, h.li, hT.mono hlo, ?_⟩
  · have h5 := World.ownsRow.lt hT k hk
    exact ⟨fun h6 => by have := h2 k h6; omega, h5.2⟩
  · cases hb : L.ownBlock with
    | none => exact Or.inl rfl
    | some k =>
      refine Or.inr (fun e2 => ?_)
      have h5 := World.ownsRow.lt hT k e2.symm
      have h6 := (h3 k hb).2
      omega
theorem OwnBd.noT {w : World} {lo hi : Nat} {S L T : Value} {b : BdV} (h : OwnBd w lo hi S L T b) (f e : Int) : OwnBd w lo hi S L (.slice none 0 0) ⟨f, e, b.sg, b.li, []⟩ := by
  obtain ⟨pp, h1, h2, h3, _⟩ := h.ex
  exact ⟨⟨pp, h1, h2, h3, fun k hk => (by cases hk)⟩, h.li, World.ownsRow_nil _ _ _ _, by cases hb : L.ownBlock with | none => exact Or.inl rfl | some k => exact Or.inr (by simp [Value.ownBlock])⟩
/-- A signature is put behind the others. -/
theorem OwnBd.push {w : World} {lo hi : Nat} {sa : Option Addr} {sn sc : Nat} {L T : Value} {b : BdV} (h : OwnBd w lo hi (.slice sa sn sc) L T b) (hs : hi ≤ w.heap.size) (hlo : lo ≤ w.heap.size) (hn : b.sg.length ≤ 1000) (x y z f e : Int) :
    ∃ g cap w', (∀ ty, (Builtin.append_ #[27, 27] ty #[.slice sa sn sc, .slice (some ⟨w.heap.size + 1, 0, none⟩) 1 1]).run Try.prog ((w.alloc (.cells #[.int .i64 x, .int .i64 y, .int .i64 z] 3)).alloc (.cells #[.slice (some ⟨w.heap.size, 0, none⟩) 3 3] 23)) = .ok (.slice (some ⟨g, 0, none⟩) (b.sg.length + 1) cap) w') ∧ OwnBd w' lo w'.heap.size (.slice (some ⟨g, 0, none⟩) (b.sg.length + 1) cap) L T ⟨f, e, b.sg ++ [[x, y, z]], b.li, b.ls⟩ ∧ RngP (fun k => lo ≤ k ∧ k < hi) w w' := by
  have hb := balloc w (.cells #[.int .i64 x, .int .i64 y, .int .i64 z] 3)
  have hsz : (w.alloc (.cells #[.int .i64 x, .int .i64 y, .int .i64 z] 3)).heap.size = w.heap.size + 1 := by simp
  obtain ⟨pp, h1, h2, h3, h4⟩ := h.ex
  have hu : Own (w.alloc (.cells #[.int .i64 x, .int .i64 y, .int .i64 z] 3)) w.heap.size (.slice (some ⟨w.heap.size, 0, none⟩) 3 3) [x, y, z] :=
    ⟨rfl, .inr ⟨w.heap.size, 3, #[.int .i64 x, .int .i64 y, .int .i64 z], rfl, Nat.le_refl _, (by show (w.heap.push _)[w.heap.size]? = _; simp), Nat.le_refl _, by unfold maxLen; omega, rfl, rfl⟩⟩
  obtain ⟨g, cap, w', r1, o1, rg⟩ := pushIP_run (w.alloc (.cells #[.int .i64 x, .int .i64 y, .int .i64 z] 3)) lo pp (.slice sa sn sc) b.sg (some ⟨w.heap.size, 0, none⟩) 3 3 [x, y, z] (h1.later hb) (hu.mono hlo) (fun k hk hp => by simp only [Value.ownBlock, Option.some.injEq] at hk; have := h2 k hp; omega) (by omega) (by omega) (fun k hk => by have := h2 k hk; omega)
  rw [hsz] at r1 o1
  have hr0 : RngP pp w (w.alloc (.cells #[.int .i64 x, .int .i64 y, .int .i64 z] 3)) := ⟨hb.os, hb.tape, hb.output, hb.size, fun q hq _ => hb.block q hq⟩
  have hr := hr0.trans rg
  have hbd : ∀ k, (pp k ∨ (Value.slice (some ⟨w.heap.size, 0, none⟩) 3 3).ownBlock = some k ∨ k = w.heap.size + 1 + 1) → lo ≤ k := fun k hk => by
    rcases hk with hk | hk | hk
    · exact (h2 k hk).1
    · simp only [Value.ownBlock, Option.some.injEq] at hk; omega
    · omega
  refine ⟨g, cap, w', r1, ⟨⟨fun k => (pp k ∨ (Value.slice (some ⟨w.heap.size, 0, none⟩) 3 3).ownBlock = some k ∨ k = w.heap.size + 1 + 1) ∧ k < w'.heap.size, ?_, fun k hk => ⟨hbd k hk.1, hk.2⟩, fun k hk => ?_, fun k hk => ?_⟩, h.li.rngP hr (fun k hk => (h3 k hk).1), h.ls.rngP hr (fun k hk => (h4 k hk).1), h.sep⟩, hr.imp h2⟩
  · obtain ⟨vs, a1, a2, a3, a4, a5, a6⟩ := o1
    exact ⟨vs, a1, a2, a3, a4, fun k hk => ⟨a5 k hk, (World.ownsRow.lt a2 k hk).2⟩, fun j hj k hk => ⟨a6 j hj k hk, (World.ownsRow.lt (a3 j hj) k hk).2⟩⟩
  · refine ⟨fun hq => ?_, by have := (h3 k hk).2; have := hr.size; omega⟩
    have h5 := (h3 k hk).2
    rcases hq.1 with hq | hq | hq
    · exact (h3 k hk).1 hq
    · simp only [Value.ownBlock, Option.some.injEq] at hq; omega
    · omega
  · refine ⟨fun hq => ?_, by have := (h4 k hk).2; have := hr.size; omega⟩
    have h5 := (h4 k hk).2
    rcases hq.1 with hq | hq | hq
    · exact (h4 k hk).1 hq
    · simp only [Value.ownBlock, Option.some.injEq] at hq; omega
    · omega

end Go.Proofs.Ytaokmjbhgkfnfaa
