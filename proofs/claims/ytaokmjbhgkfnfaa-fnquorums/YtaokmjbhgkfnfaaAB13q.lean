/- Chapter 13: bools appended; plain facts of a play. -/
import Derived.Test.YtaokmjbhgkfnfaaBX13q
import Derived.Test.YtaokmjbhgkfnfaaTR13q
namespace Go.Proofs.Ytaokmjbhgkfnfaa
set_option linter.unusedVariables false
set_option maxRecDepth 1000000
set_option linter.unusedSimpArgs false
open Go.RowKit

theorem appendB_run (w : World) (base : Nat) (v : Value) (xs ys : List Bool) (ao : Option Addr) (m c : Nat) (hown : OwnB w base v xs) (hr : RdB w ao ys) (hm : ys.length = m) (hnil : ao = none → m = 0 ∧ c = 0) (hb : xs.length + m ≤ 1000000) (hbase : base ≤ w.heap.size) :
  ∃ v' w', (∀ ty, (Builtin.append_ #[30, 30] ty #[v, .slice ao m c]).run Try.prog w = .ok v' w') ∧ OwnB w' base v' (xs ++ ys) ∧ w.grownBy w' v.ownBlock ∧ Below base w w' := by
 obtain ⟨i0, hi, hz0, hz1, hz2⟩ := info_parts Try.infoBool
 have hge : ∀ k, v.ownBlock = some k → base ≤ k := own_block_geB hown
 cases ao with
 | none =>
  obtain ⟨rfl, rfl⟩ := hnil rfl
  obtain rfl := List.length_eq_zero_iff.1 hm
  refine ⟨v, w, fun ty => run_append_owned_none (P := Try.prog) (w := w) base 30 ty 4 i0 1 Try.underlying30 hi v xs.length (cellsB xs) hown, by rw [List.append_nil]; exact hown, World.grownBy.refl _ _, Below.refl _ _⟩
 | some a =>
  have hnews : ∀ j u, (cellsB ys)[j]? = some u → w.cell? (a.add j) = some u := fun j u hj => by
   rcases hr with rfl | ⟨b', o', he, hc⟩
   ·simp [cellsB] at hj
   ·simp only [Option.some.injEq] at he
    subst he
    have hjl := (List.getElem?_eq_some_iff.1 hj).1
    rw [cellsB_length] at hjl
    rw [Go.WideShapes.add_plain]
    rw [getD_map_bool ys j (by omega)] at hj
    simp only [Option.some.injEq] at hj
    subst hj
    exact hc j (by omega)
  obtain ⟨v', w', hrun, hown', hgrow, _⟩ := run_append_own (P := Try.prog) w base 30 30 4 i0 (.bool false) 1 1 Try.underlying30 hi hz0 hz1 hz2 rfl (by decide) v xs.length (cellsB xs) hown a m c (cellsB ys) (by rw [cellsB_length, hm, Nat.mul_one]) hnews (cellsB_oneCell _) (by unfold maxLen; omega) (by omega) hbase
  refine ⟨v', w', fun ty => hrun, ?_, hgrow, (Below.refl _ _).grown hgrow hbase hge⟩
  unfold OwnB
  rw [List.length_append, hm]
  simpa [cellsB] using hown'
theorem litB (w : World) (x : Bool) : RdB (w.alloc (.cells #[.bool x] 4)) (some ⟨w.heap.size, 0, none⟩) [x] := Or.inr ⟨w.heap.size, 0, rfl, fun j hj => by
 obtain rfl : j = 0 := by simp at hj; omega
 simp⟩

theorem OwnB.nilq (w : World) (base : Nat) : OwnB w base (.slice none 0 0) [] := World.ownsRow_nil _ _ _ _
theorem sep_lt {v : Value} {B g : Nat} (h : ∀ k, v.ownBlock = some k → B ≤ k) (hg : g < B) : v.ownBlock = none ∨ v.ownBlock ≠ some g := by
 cases hv : v.ownBlock with
 | none => exact Or.inl rfl
 | some k => exact Or.inr (fun e => by have := h k hv; simp at e; omega)
theorem OwnB.setBox {w : World} {lo : Nat} {v : Value} {xs : List Bool} (h : OwnB w lo v xs) {r j : Nat} (hr : r < lo) (u : Value) : OwnB (w.setCell ⟨r, j, none⟩ u) lo v xs :=
 h.kept (grown_setCell w r j u) (sep_lt (own_block_geB h) hr)
theorem OwnB.boxT {w : World} {base : Nat} {v : Value} {xs : List Bool} (h : OwnB w base v xs) {k : Nat} (hk : v.ownBlock = some k) : BoxT w k := by
 rcases h.2 with ⟨rfl, _⟩ | ⟨g, cap, cur, rfl, _, hg, _⟩
 ·cases hk
 ·simp only [Value.ownBlock, Option.some.injEq] at hk
  subst hk
  exact ⟨cur, _, _, hg, by decide, by decide⟩
theorem OwnBd.grownBox {w w' : World} {row : Option Nat} {lo hi : Nat} {S L T : Value} {b : BdV} (h : OwnBd w lo hi S L T b) (hg : w.grownBy w' row) (hb : ∀ k, row = some k → BoxT w k) : OwnBd w' lo hi S L T b := by
 obtain ⟨pp, h1, h2, h3, h4⟩ := h.ex
 have hr : RngP (fun k => some k = row) w w' := RngP.ofGrown hg (fun k e => e.symm)
 have h1' : OwnIP w lo (fun k => pp k ∧ some k ≠ row) S b.sg := by
  obtain ⟨vs, hl, ho, hin, hs, a1, a2⟩ := h1
  exact ⟨vs, hl, ho, hin, hs, fun k e => ⟨a1 k e, fun e2 => row_box ho (hb k e2.symm) (Or.inr rfl) e⟩, fun i hi' k e => ⟨a2 i hi' k e, fun e2 => row_box (hin i hi') (hb k e2.symm) (Or.inl rfl) e⟩⟩
 exact ⟨⟨fun k => pp k ∧ some k ≠ row, h1'.rng hr (fun k hk => hk.2), fun k hk => h2 k hk.1, fun k hk => ⟨fun hh => (h3 k hk).1 hh.1, (h3 k hk).2⟩, fun k hk => ⟨fun hh => (h4 k hk).1 hh.1, (h4 k hk).2⟩⟩, h.li.rngP hr (fun k e e2 => row_box h.li (hb k e2.symm) (Or.inl rfl) e), h.ls.rngP hr (fun k e e2 => row_box h.ls (hb k e2.symm) (Or.inl rfl) e), h.sep⟩

def plS (p : BdV × List Bool) (s : Int × Int × Int) : BdV × List Bool := (stepW p.1 s.1 s.2.1 s.2.2, p.2 ++ [(stepO p.1 s.1 s.2.1 s.2.2).isSome])
def playP (b : BdV) (l : List (Int × Int × Int)) : BdV × List Bool := l.foldl plS (b, [])
theorem playP_succ {b : BdV} {l : List (Int × Int × Int)} {k : Nat} (h : k < l.length) : playP b (l.take (k + 1)) = plS (playP b (l.take k)) (l.getD k (0, 0, 0)) := by
 unfold playP
 rw [List.take_succ_eq_append_getElem h, List.foldl_append]
 simp [List.getD, h]
theorem fold_good : ∀ (l : List (Int × Int × Int)) (p : BdV × List Bool), goodBd p.1 = true → goodBd (l.foldl plS p).1 = true ∧ (l.foldl plS p).2.length = p.2.length + l.length
 | [], p, h => ⟨h, by simp⟩
 | s :: r, p, h => by
  have ih := fold_good r (plS p s) (stepW_good h)
  exact ⟨ih.1, by rw [List.foldl_cons, ih.2]; simp [plS]; omega⟩
theorem playP_good {b : BdV} (h : goodBd b = true) (l : List (Int × Int × Int)) : goodBd (playP b l).1 = true := (fold_good l (b, []) h).1
theorem playP_len {b : BdV} (h : goodBd b = true) (l : List (Int × Int × Int)) : (playP b l).2.length = l.length := by
 have := (fold_good l (b, []) h).2
 simpa [playP] using this
def pbOk (f : Int) (li : List Int) (n : Nat) : Bool := couB f li && decide (n ≤ 60)
def pbV (f : Int) (li : List Int) (l : List (Int × Int × Int)) : BdV × List Bool := if pbOk f li l.length = true then playP ⟨f, 0, [], li, []⟩ l else (zeroBd, [])
def PbOk (r : Ending) (w w' : World) (p : BdV × List Bool) (fb : Bool) : Prop := ∃ sa sc la lc ta tc da dc, r = .returned (.tuple #[.agg #[.int .i64 p.1.f, .int .i64 p.1.e, .slice sa p.1.sg.length sc, .slice la p.1.li.length lc, .slice ta p.1.ls.length tc], .slice da p.2.length dc, .bool fb]) ∧ OwnBd w' w.heap.size w'.heap.size (.slice sa p.1.sg.length sc) (.slice la p.1.li.length lc) (.slice ta p.1.ls.length tc) p.1 ∧ OwnB w' w.heap.size (.slice da p.2.length dc) p.2 ∧ Below w.heap.size w w'

end Go.Proofs.Ytaokmjbhgkfnfaa
