/- Helpers of the walk of FnMixes: texts with their tags beside them. -/
import Derived.Test.YtelchkoplncmaaaD8Q
import Derived.Test.YtelchkoplncmaaaF8P
import Derived.Test.YtelchkoplncmaaaSM4
import Derived.Test.YtelchkoplncmaaaSI8
import Derived.Test.YtelchkoplncmaaaLawPY8
namespace Go.Proofs.Ytelchkoplncmaaa
set_option linter.unusedVariables false
set_option maxRecDepth 1000000
set_option linter.unusedSimpArgs false
open Go.RowKit

theorem row_sepG {w : World} {b1 b2 n1 n2 : Nat} {t1 t2 : TypeId} {u v : Value} {xs vs : List Value} (hne : t1 ≠ t2) (h : w.ownsRow b1 t1 1 u n1 xs) (k : w.ownsRow b2 t2 1 v n2 vs) : u.ownBlock = none ∨ u.ownBlock ≠ v.ownBlock := by
  rcases h.2 with ⟨rfl, _⟩ | ⟨g, cap, cur, rfl, _, hg, _⟩
  · exact Or.inl rfl
  · rcases k.2 with ⟨rfl, _⟩ | ⟨g', cap', cur', rfl, _, hg', _⟩
    · exact Or.inr (by simp [Value.ownBlock])
    · refine Or.inr fun e => ?_
      simp only [Value.ownBlock, Option.some.injEq] at e
      subst e
      rw [hg] at hg'
      simp only [Option.some.injEq, Obj.cells.injEq] at hg'
      exact hne hg'.2.1

/-- What TagOf tells. -/
def tagT (s : ByteArray) : Int := (tagF s).1
theorem tagT_short {s : ByteArray} (h : s.size ≤ 24) : tagT s = tagN s := by
  unfold tagT tagF
  rw [if_pos (by simpa [shortB] using h)]
theorem tagF_short {s : ByteArray} {t : Int} (h : tagF s = (t, true)) : s.size ≤ 24 := by
  unfold tagF at h
  by_cases e : shortB s = true
  · simpa [shortB] using e
  · rw [if_neg e] at h; simp at h
/-- Texts and their tags. -/
def TT (w : World) (B : Nat) (tv sv : Value) (L : List ByteArray) : Prop := Own w B tv (L.map tagT) ∧ OwnS w B sv L
theorem TT.later {w w' : World} {B : Nat} {tv sv : Value} {L : List ByteArray} (h : TT w B tv sv L) (hb : Below w.heap.size w w') : TT w' B tv sv L := ⟨h.1.later hb, h.2.later hb⟩
theorem TT.nil (w : World) (B : Nat) : TT w B (.slice none 0 0) (.slice none 0 0) [] := ⟨World.ownsRow_nil _ _ _ _, World.ownsRow_nil _ _ _ _⟩
theorem TT.shape {w : World} {B p : Nat} {tv sv : Value} {L : List ByteArray} (h : TT w B tv sv L) (hp : L.length = p) : ∃ a1 c1 a2 c2, tv = .slice a1 p c1 ∧ sv = .slice a2 p c2 := by
  obtain ⟨a1, c1, h1⟩ := h.1.shape
  obtain ⟨a2, c2, h2⟩ := h.2.shape
  rw [List.length_map] at h1
  exact ⟨a1, c1, a2, c2, by rw [h1, hp], by rw [h2, hp]⟩
theorem TT_run {wr : World} {B p : Nat} {tv sv : Value} {L : List ByteArray} (s : ByteArray) (hB : B ≤ wr.heap.size) (hp : L.length = p) (hpb : p ≤ 1000) (h : TT wr B tv sv L) :
    ∃ a1 c1 w1 a2 c2 w2, (∀ ty, (Builtin.append_ #[29, 29] ty #[sv, .slice (some ⟨wr.heap.size, 0, none⟩) 1 1]).run Try.prog (wr.alloc (.cells #[.string s] 9)) = .ok (.slice a1 (p + 1) c1) w1) ∧ (∀ ty, (Builtin.append_ #[30, 30] ty #[tv, .slice (some ⟨w1.heap.size, 0, none⟩) 1 1]).run Try.prog (w1.alloc (.cells #[.int .i64 (tagT s)] 3)) = .ok (.slice a2 (p + 1) c2) w2) ∧ TT w2 B (.slice a2 (p + 1) c2) (.slice a1 (p + 1) c1) (L ++ [s]) ∧ Below B wr w2 := by
  have bA := balloc wr (.cells #[.string s] 9)
  have hBA : Below B wr (wr.alloc (.cells #[.string s] 9)) := bA.mono hB
  obtain ⟨v1, w1, r1, o1, g1, b1⟩ := appendS_run (wr.alloc (.cells #[.string s] 9)) B sv L [s] (some ⟨wr.heap.size, 0, none⟩) 1 1 (h.2.later bA) (litS wr s) rfl (fun e => by cases e) (by omega) (Nat.le_trans hB bA.size)
  have t1 : Own w1 B tv (L.map tagT) := (h.1.later bA).kept g1 (row_sepG (by decide) (h.1.later bA) (h.2.later bA))
  have bB := balloc w1 (.cells #[.int .i64 (tagT s)] 3)
  have hB1 : B ≤ w1.heap.size := Nat.le_trans (Nat.le_trans hB bA.size) b1.size
  obtain ⟨v2, w2, r2, o2, g2, b2⟩ := appendI_run (w1.alloc (.cells #[.int .i64 (tagT s)] 3)) B tv (L.map tagT) [tagT s] (some ⟨w1.heap.size, 0, none⟩) 1 1 (t1.later bB) (litI w1 (tagT s)) rfl (fun e => by cases e) (by rw [List.length_map]; omega) (Nat.le_trans hB1 bB.size)
  have s2 : OwnS w2 B v1 (L ++ [s]) := (o1.later bB).kept g2 (row_sepG (by decide) (o1.later bB) (t1.later bB))
  obtain ⟨a1, c1, hv1⟩ := o1.shape
  obtain ⟨a2, c2, hv2⟩ := o2.shape
  rw [show (L ++ [s]).length = p + 1 by rw [List.length_append, hp]; rfl] at hv1
  rw [show (L.map tagT ++ [tagT s]).length = p + 1 by rw [List.length_append, List.length_map, hp]; rfl] at hv2
  subst hv1 hv2
  exact ⟨a1, c1, w1, a2, c2, w2, r1, r2, ⟨by simpa using o2, s2⟩, ((hBA.trans b1).trans (bB.mono hB1)).trans b2⟩
/-- How a text and its tag are read. -/
theorem TT.get {w : World} {B p c1 c2 : Nat} {a1 a2 : Option Addr} {L : List ByteArray} (h : TT w B (.slice a1 p c1) (.slice a2 p c2) L) {i : Nat} (hi : i < p) : ∃ b1 o1 b2 o2, a1 = some ⟨b1, o1, none⟩ ∧ a2 = some ⟨b2, o2, none⟩ ∧ w.cell? ⟨b1, o1 + i, none⟩ = some (.int .i64 (tagT (L.getD i ByteArray.empty))) ∧ w.cell? ⟨b2, o2 + i, none⟩ = some (.string (L.getD i ByteArray.empty)) := by
  obtain ⟨l1, r1⟩ := h.1.rd'
  obtain ⟨l2, r2⟩ := h.2.rd'
  rcases r1 with r1 | ⟨b1, o1, rfl, k1⟩
  · rw [r1] at l1; simp at l1; omega
  · rcases r2 with r2 | ⟨b2, o2, rfl, k2⟩
    · rw [r2] at l2; simp at l2; omega
    · refine ⟨b1, o1, b2, o2, rfl, rfl, ?_, k2 i (by omega)⟩
      rw [k1 i (by omega)]
      have e : (L.map tagT).getD i 0 = tagT (L.getD i ByteArray.empty) := by
        simp [List.getD, show i < L.length by omega]
      rw [e]
/-- The law's own test of a text against those before it. -/
def Met (L : List ByteArray) (s : ByteArray) (i : Nat) : Prop := Ap L ∧ s.size ≤ 24 ∧ ∀ j, j < i → L.getD j ByteArray.empty ≠ s → tagT (L.getD j ByteArray.empty) ≠ tagT s
theorem Met.step {L : List ByteArray} {s : ByteArray} {i : Nat} (h : Met L s i) (hn : L.getD i ByteArray.empty ≠ s → tagT (L.getD i ByteArray.empty) ≠ tagT s) : Met L s (i + 1) := ⟨h.1, h.2.1, fun j hj => by
  by_cases e : j = i
  · subst e; exact hn
  · exact h.2.2 j (by omega)⟩
theorem Met.ap {L : List ByteArray} {s : ByteArray} {p : Nat} (hp : L.length = p) (h : Met L s p) : Ap (L ++ [s]) := h.1.snoc h.2.1 fun t ht hne e => by
  obtain ⟨j, hj, rfl⟩ := of_mem_getD ByteArray.empty ht
  refine h.2.2 j (by omega) hne ?_
  rw [tagT_short (h.1.1 _ ht), tagT_short h.2.1, e]

theorem rev_getD {l : List ByteArray} {j : Nat} (h : j < l.length) : l.reverse.getD j ByteArray.empty = l.getD (l.length - 1 - j) ByteArray.empty := by
  simp [List.getD, List.getElem?_reverse h]

end Go.Proofs.Ytelchkoplncmaaa
