/- Chapter 15: a table that grows in its box beside a cursor. -/
import Derived.Test.YtbjpkklonjlmiaaD15
import Derived.Test.YtbjpkklonjlmiaaNW15B
import Derived.Test.YtbjpkklonjlmiaaL15
namespace Go.Proofs.Ytbjpkklonjlmiaa
set_option linter.unusedVariables false
set_option maxRecDepth 1000000
set_option linter.unusedSimpArgs false
open Go.RowKit

/-- Where the code lies: below the block that is named. -/
def CodeLt (ao : Option Addr) (n base : Nat) : Prop := ∀ b off, ao = some ⟨b, off, none⟩ → n = 0 ∨ b < base
theorem Cur.codeLt {w : World} {g : Nat} {ao : Option Addr} {n c : Nat} {M : Int} (h : Cur w g ao n c M) : CodeLt ao n w.heap.size := fun b off e => by
  rcases h.code with h0 | ⟨b', off', e', _, f, hf⟩
  · exact Or.inl h0
  · by_cases h0 : n = 0
    · exact Or.inl h0
    · right
      rw [e] at e'
      simp only [Option.some.injEq, Addr.mk.injEq] at e'
      obtain ⟨rfl, rfl, _⟩ := e'
      have h9 := World.block_lt_of_cell? w _ (hf 0 (by omega)).1
      exact h9
theorem cur_low {w w' : World} {g : Nat} {ao : Option Addr} {n c : Nat} {M : Int} {base : Nat} (h : Cur w g ao n c M) (hbm : Below base w w') (hc : CodeLt ao n base) (hg : g < base) : Cur w' g ao n c M := by
  obtain ⟨z, z0, z1, z2⟩ := h.at'
  obtain ⟨s, s0⟩ := h.seed
  refine ⟨h.hn, ?_, by rw [hbm.cell (p := ⟨g, 0, none⟩) hg]; exact h.slice, ⟨z, z0, z1, by rw [hbm.cell (p := ⟨g, 1, none⟩) hg]; exact z2⟩, ⟨s, by rw [hbm.cell (p := ⟨g, 2, none⟩) hg]; exact s0⟩, fun j => by rw [hbm.frozen (p := ⟨g, j, none⟩) hg]; exact h.free j⟩
  rcases h.code with h0 | ⟨b, off, e, hne, f, hf⟩
  · exact Or.inl h0
  · by_cases h0 : n = 0
    · exact Or.inl h0
    · have hb2 : b < base := (hc b off e).resolve_left h0
      exact Or.inr ⟨b, off, e, hne, f, fun j hj => ⟨by rw [hbm.cell (p := ⟨b, off + j, none⟩) hb2]; exact (hf j hj).1, (hf j hj).2⟩⟩
theorem gb_low {w w1 w2 : World} {g base : Nat} (h : GB g w w1) (hbm : Below base w1 w2) (hw : w.heap.size ≤ base) : GB g w w2 :=
  ⟨hbm.os.trans h.os, hbm.tape.trans h.tape, hbm.output.trans h.output, Nat.le_trans h.size hbm.size, fun q hq hne => (hbm.block q (by omega)).trans (h.block q hq hne)⟩
theorem x3_low {w w' : World} {r B : Nat} {a b c : Value} (h : X3 w r a b c) (hb : Below B w w') (hr : r < B) : X3 w' r a b c := by
  obtain ⟨⟨c0, c1, c2⟩, f⟩ := h
  refine ⟨⟨?_, ?_, ?_⟩, fun j => ?_⟩
  · rw [hb.cell (p := ⟨r, 0, none⟩) hr]; exact c0
  · rw [hb.cell (p := ⟨r, 1, none⟩) hr]; exact c1
  · rw [hb.cell (p := ⟨r, 2, none⟩) hr]; exact c2
  · rw [hb.frozen (p := ⟨r, j, none⟩) hr]; exact f j
theorem x3_gb {w w' : World} {r g : Nat} {a b c : Value} (h : X3 w r a b c) (hg : GB g w w') (hne : r ≠ g) : X3 w' r a b c := h.grown hg (fun e => hne (by injection e))

theorem OwnIP.lt {w : World} {lo : Nat} {pp : Nat → Prop} {v : Value} {xss : List (List Int)} (h : OwnIP w lo pp v xss) : OwnIP w lo (fun k => pp k ∧ (lo ≤ k ∧ k < w.heap.size)) v xss := by
  obtain ⟨vs, hl, ho, hi, hs, h1, h2⟩ := h
  exact ⟨vs, hl, ho, hi, hs, fun k e => ⟨h1 k e, World.ownsRow.lt ho k e⟩, fun j hj k e => ⟨h2 j hj k e, World.ownsRow.lt (hi j hj) k e⟩⟩
theorem OwnTb.gb {w w' : World} {lo hi g : Nat} {S L : Value} {b : TbV} (h : OwnTb w lo hi S L b) (hg : GB g w w') (hlt : g < lo) : OwnTb w' lo hi S L b :=
  h.rng (qq := fun k => k = g) (RngP.ofGrown hg (fun k e => by injection e with e; exact e.symm)) (fun k hk _ e => by omega)
theorem OwnTb.set {w : World} {lo hi r j : Nat} {S L : Value} {b : TbV} (h : OwnTb w lo hi S L b) (hlt : r < lo) (u : Value) : OwnTb (w.setCell ⟨r, j, none⟩ u) lo hi S L b :=
  h.rng (qq := fun k => k = r) (RngP.ofGrown (grown_setCell w r j u) (fun k e => by injection e with e; exact e.symm)) (fun k hk _ e => by omega)
theorem ownTb_nil (w : World) (lo : Nat) (s : Int) : OwnTb w lo w.heap.size (.slice none 0 0) (.slice none 0 0) ⟨s, [], []⟩ :=
  ⟨⟨fun k => False, nilIP w lo _, fun k h => h.elim, fun k e => by cases e⟩, World.ownsRow_nil _ _ _ _⟩
theorem OwnTb.seat {w : World} {lo hi : Nat} {S L : Value} {s s' : Int} {ps : List (List Int)} {cs : List Int} (h : OwnTb w lo hi S L ⟨s, ps, cs⟩) : OwnTb w lo hi S L ⟨s', ps, cs⟩ := ⟨h.ex, h.li⟩

/-- A pair is put behind the pairs. -/
theorem pair_run {w : World} {lo : Nat} {S L : Value} {s : Int} {ps : List (List Int)} {cs : List Int} (a b : Int) (h : OwnTb w lo w.heap.size S L ⟨s, ps, cs⟩) (hl : ps.length ≤ 1000) (hlo : lo ≤ w.heap.size) :
    ∃ g cap w', (∀ ty, (Builtin.append_ #[23, 23] ty #[S, .slice (some ⟨w.heap.size + 1, 0, none⟩) 1 1]).run Try.prog ((w.alloc (.cells #[.int .i64 a, .int .i64 b] 3)).alloc (.cells #[.slice (some ⟨w.heap.size, 0, none⟩) 2 2] 24)) = .ok (.slice (some ⟨g, 0, none⟩) (ps.length + 1) cap) w') ∧ OwnTb w' lo w'.heap.size (.slice (some ⟨g, 0, none⟩) (ps.length + 1) cap) L ⟨s, ps ++ [[a, b]], cs⟩ ∧ Below lo w w' := by
  have hb := balloc w (.cells #[.int .i64 a, .int .i64 b] 3)
  have hsz : (w.alloc (.cells #[.int .i64 a, .int .i64 b] 3)).heap.size = w.heap.size + 1 := by simp
  obtain ⟨pp, h1, h2, h3⟩ := (h.later hb).ex
  have hli := (h.later hb).li
  have hu : Own (w.alloc (.cells #[.int .i64 a, .int .i64 b] 3)) lo (.slice (some ⟨w.heap.size, 0, none⟩) 2 2) [a, b] := by
    have h9 := World.ownsRow_lit (base := lo) (e := 3) (size := 1) w #[.int .i64 a, .int .i64 b] 2 hlo (by unfold maxLen; omega) (by simp)
    unfold Own
    simpa [cellsI] using h9
  obtain ⟨g, cap, w', hrun, ho, hr⟩ := pushIP_run (w.alloc (.cells #[.int .i64 a, .int .i64 b] 3)) lo pp S ps (some ⟨w.heap.size, 0, none⟩) 2 2 [a, b] h1 hu (fun k e hp => by
    simp only [Value.ownBlock, Option.some.injEq] at e
    have := (h2 k hp).2
    omega) (by omega) (by omega) (fun k hk => by have := (h2 k hk).2; omega)
  rw [hsz] at hrun ho
  have hbl : Below lo (w.alloc (.cells #[.int .i64 a, .int .i64 b] 3)) w' := hr.below (fun k hk => (h2 k hk).1) (by omega)
  refine ⟨g, cap, w', hrun, ⟨⟨_, ho.lt, fun k hk => hk.2, fun k e => ⟨?_, ?_⟩⟩, hli.rngP hr (fun k e => (h3 k e).1)⟩, (hb.mono hlo).trans hbl⟩
  · rintro ⟨hk | hk | hk, _⟩
    · exact (h3 k e).1 hk
    · simp only [Value.ownBlock, Option.some.injEq] at hk
      have := (h3 k e).2
      omega
    · have := (h3 k e).2
      omega
  · have := (h3 k e).2
    have := hr.size
    omega

/-- A coin is put behind the coins. -/
theorem coin_run {w : World} {lo : Nat} {S L : Value} {s : Int} {ps : List (List Int)} {cs : List Int} (x : Int) (h : OwnTb w lo w.heap.size S L ⟨s, ps, cs⟩) (hl : cs.length ≤ 1000) (hlo : lo ≤ w.heap.size) :
    ∃ g cap w', (∀ ty, (Builtin.append_ #[24, 24] ty #[L, .slice (some ⟨w.heap.size, 0, none⟩) 1 1]).run Try.prog (w.alloc (.cells #[.int .i64 x] 3)) = .ok (.slice (some ⟨g, 0, none⟩) (cs.length + 1) cap) w') ∧ OwnTb w' lo w'.heap.size S (.slice (some ⟨g, 0, none⟩) (cs.length + 1) cap) ⟨s, ps, cs ++ [x]⟩ ∧ Below lo w w' := by
  obtain ⟨pp, h1, h2, h3⟩ := h.ex
  obtain ⟨g, cap, w', hrun, how, hgr, hgg, hlt⟩ := push1_run w lo L cs x h.li hl hlo
  have hr : RngP (fun k => L.ownBlock = some k) w w' := RngP.ofGrown hgr (fun k e => e)
  have h1' : OwnIP w' lo pp S ps := h1.rng hr (fun k hk e => (h3 k e).1 hk)
  refine ⟨g, cap, w', hrun, ⟨⟨pp, h1', fun k hk => ⟨(h2 k hk).1, Nat.lt_of_lt_of_le (h2 k hk).2 hgr.size⟩, fun k e => ?_⟩, how⟩, hr.below (fun k e => own_block_ge h.li k e) hlo⟩
  simp only [Value.ownBlock, Option.some.injEq] at e
  subst e
  refine ⟨fun hp => ?_, hlt⟩
  rcases hgg with e | e
  · exact (h3 _ e).1 hp
  · have := (h2 _ hp).2
    omega

end Go.Proofs.Ytbjpkklonjlmiaa
