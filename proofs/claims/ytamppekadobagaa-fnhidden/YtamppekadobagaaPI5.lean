/- Chapter 5: PolyThrough, the program's side. -/
import Derived.Test.YtamppekadobagaaSF5
namespace Go.Proofs.Ytamppekadobagaa
set_option linter.unusedVariables false
set_option linter.unusedSimpArgs false
open Go.RowKit

theorem cloneP_c (b o n c : Nat) (l : List (Int × Int)) (w : World) (hx : l.length = n) (h1 : 1 ≤ n) (hn : n ≤ 1000)
    (hc : ∀ j, j < n → w.cell? ⟨b, o + j * 2, none⟩ = some (.int .i64 (l.getD j (0, 0)).1) ∧ w.cell? ⟨b, o + j * 2 + 1, none⟩ = some (.int .i64 (l.getD j (0, 0)).2)) :
    Calls Try.prog 58 #[.slice (some ⟨b, o, none⟩) n c] w fun e w' => ∃ a' c', e = .returned (.slice a' n c') ∧ OwnP w' w.heap.size (.slice a' n c') l ∧ Below w.heap.size w w' := by
  obtain ⟨i0, hi, hz0, hz1, hz2⟩ := info_parts Try.infoPart
  have HX : Hid (l.length = n) := hx
  have hnews := rdP_cells hx hc
  have hown1 : (w.alloc (.cells #[] 46)).ownsRow w.heap.size 46 2 (.slice (some ⟨w.heap.size, 0, none⟩) 0 0) 0 (cellsP []) := by
    refine ⟨rfl, .inr ⟨w.heap.size, 0, _, rfl, Nat.le_refl _, World.alloc_heap_new w _, Nat.le_refl _, by unfold maxLen; omega, rfl, rfl⟩⟩
  have hob1 : ∀ k', (Value.slice (some ⟨w.heap.size, 0, none⟩) 0 0).ownBlock = some k' → w.heap.size ≤ k' := fun k' e => by simp [Value.ownBlock] at e; omega
  have he : ∀ w : World, (binOp .eql 26 (.slice (some ⟨b, o, none⟩) n c) (.slice none 0 0)).run Try.prog w = .ok (.bool false) w := fun _ => rfl
  clear hc hx
  go_enter Try.func58, Try.ntmps58
  go_wp2_with (at_builtin; refine wpList_append_own _ rfl _ _ 26 rfl w.heap.size 46 i0 (.agg #[.int .i64 0, .int .i64 0]) 2 16 Try.underlying26 hi hz0 hz1 hz2 rfl (by decide) _ _ _ rfl hown1 ⟨b, o, none⟩ n c (cellsP l) rfl (by rw [cellsP_length, HX.out]) (fun j u h => calloc (hnews j u h)) (cellsP_one _) (by unfold maxLen; omega) (by omega) (by simp) ?_; intro v' w3 hown' hgrow _; have HO3 : Hid (OwnP w3 w.heap.size v' l) := (by show OwnP _ _ _ _; unfold OwnP; rw [HX.out]; rw [show cellsP ([] : List (Int × Int)) = [] from rfl, List.nil_append, Nat.zero_add] at hown'; exact hown'); have HB3 : Hid (Below w.heap.size w w3) := (balloc w _).grown hgrow (by simp) (fun k' e => hob1 k' e); clear hown' hgrow hown1 hnews hob1)
  obtain ⟨a3, c3, hv⟩ := HO3.out.shape
  rw [HX.out] at hv
  subst hv
  go_ret
  exact ⟨a3, c3, rfl, HO3.out, HB3.out⟩

/-- What is left: a row of the call's own, from some part on. -/
def LeftP (w : World) (base g off : Nat) (fl : List (F × F)) : Prop :=
  base ≤ g ∧ g < w.heap.size ∧ ∀ j, j < fl.length → (w.cell? ⟨g, off + j * 2, none⟩ = some (.int .i64 (vI (fl.getD j (0, 0)).1)) ∧ w.cell? ⟨g, off + j * 2 + 1, none⟩ = some (.int .i64 (vI (fl.getD j (0, 0)).2))) ∧ w.frozen? ⟨g, off + j * 2 + 1, none⟩ = false
theorem LeftP.later {w w' : World} {base g off : Nat} {fl : List (F × F)} (h : LeftP w base g off fl) (hb : Below w.heap.size w w') : LeftP w' base g off fl :=
  ⟨h.1, Nat.lt_of_lt_of_le h.2.1 hb.size, fun j hj => by
    obtain ⟨⟨c1, c2⟩, c3⟩ := h.2.2 j hj
    exact ⟨⟨(hb.cell (p := ⟨g, off + j * 2, none⟩) h.2.1).trans c1, (hb.cell (p := ⟨g, off + j * 2 + 1, none⟩) h.2.1).trans c2⟩, (hb.frozen (p := ⟨g, off + j * 2 + 1, none⟩) h.2.1).trans c3⟩⟩
theorem LeftP.kept {w w' : World} {base g off : Nat} {fl : List (F × F)} {row : Option Nat} (h : LeftP w base g off fl) (hg : w.grownBy w' row) (hne : some g ≠ row) : LeftP w' base g off fl :=
  ⟨h.1, Nat.lt_of_lt_of_le h.2.1 hg.size, fun j hj => by
    have hblk := hg.block g h.2.1 hne
    obtain ⟨⟨c1, c2⟩, c3⟩ := h.2.2 j hj
    exact ⟨⟨(World.cell?_of_block (a := ⟨g, off + j * 2, none⟩) hblk).trans c1, (World.cell?_of_block (a := ⟨g, off + j * 2 + 1, none⟩) hblk).trans c2⟩, (World.frozen?_of_block (a := ⟨g, off + j * 2 + 1, none⟩) hblk).trans c3⟩⟩
theorem LeftP.rd {w : World} {base g off : Nat} {fl : List (F × F)} (h : LeftP w base g off fl) : RdP w (some ⟨g, off, none⟩) (pIs fl) :=
  Or.inr ⟨g, off, rfl, fun j hj => by
    rw [pIs_length] at hj
    rw [pIs_getD fl j hj]
    exact (h.2.2 j hj).1⟩
theorem LeftP.tail {w : World} {base g off : Nat} {p : F × F} {fl : List (F × F)} (h : LeftP w base g off (p :: fl)) : LeftP w base g (off + 2) fl :=
  ⟨h.1, h.2.1, fun j hj => by
    have := h.2.2 (j + 1) (by simpa using hj)
    rw [show off + (j + 1) * 2 = off + 2 + j * 2 by omega] at this
    exact this⟩
theorem OwnP.left {w : World} {base n c : Nat} {ao : Option Addr} {fl : List (F × F)} (h : OwnP w base (.slice ao n c) (pIs fl)) (hn : n ≠ 0) : ∃ g, ao = some ⟨g, 0, none⟩ ∧ n ≤ c ∧ c ≤ maxLen ∧ LeftP w base g 0 fl := by
  rcases h.form with ⟨h1, h2⟩ | ⟨g, cap, h1, hb, hg, hc, hm⟩
  · simp only [Value.slice.injEq] at h1
    omega
  · simp only [Value.slice.injEq] at h1
    obtain ⟨rfl, hl, rfl⟩ := h1
    have hl' : fl.length = n := by rw [hl, pIs_length]
    refine ⟨g, rfl, by omega, hm, hb, hg, fun j hj => ?_⟩
    have hO : OwnP w base (.slice (some ⟨g, 0, none⟩) (pIs fl).length c) (pIs fl) := by rw [← hl]; exact h
    have := hO.cell j (by rw [pIs_length]; exact hj)
    rw [pIs_getD fl j hj] at this
    rw [Nat.zero_add]
    exact ⟨this, World.ownsRow.frozenAt hO _⟩

/-- What stands at i rounds of dividing by x. -/
def halfway (fl : List (F × F)) (f : F) (i : Nat) : List (F × F) := (peelStep fl f).take i ++ fl.drop i
theorem halfway_zero (fl : List (F × F)) (f : F) : halfway fl f 0 = fl := by simp [halfway]
theorem peelStep_length (fl : List (F × F)) (f : F) : (peelStep fl f).length = fl.length := by simp [peelStep]
theorem halfway_all (fl : List (F × F)) (f : F) : halfway fl f fl.length = peelStep fl f := by
  rw [halfway, List.drop_length, List.append_nil, List.take_of_length_le (by rw [peelStep_length]; exact Nat.le_refl _)]
theorem halfway_length (fl : List (F × F)) (f : F) {i : Nat} (h : i ≤ fl.length) : (halfway fl f i).length = fl.length := by
  rw [halfway, List.length_append, List.length_take, peelStep_length, List.length_drop]; omega
theorem halfway_at (fl : List (F × F)) (f : F) {i : Nat} (h : i < fl.length) : (halfway fl f i).getD i (0, 0) = fl.getD i (0, 0) := by
  have : ((peelStep fl f).take i).length = i := by rw [List.length_take, peelStep_length]; omega
  simp [halfway, List.getD, List.getElem?_append, this]
theorem halfway_set (fl : List (F × F)) (f : F) {i : Nat} (h : i < fl.length) : halfway fl f (i + 1) = (halfway fl f i).set i ((fl.getD i (0, 0)).1, ((fl.getD i (0, 0)).2 - f) * finv (fl.getD i (0, 0)).1) := by
  have hl : ((peelStep fl f).take i).length = i := by rw [List.length_take, peelStep_length]; omega
  rw [halfway, halfway, List.set_append_right _ _ (by omega), hl, Nat.sub_self, List.take_succ_eq_append_getElem (by rw [peelStep_length]; exact h), List.drop_eq_getElem_cons h, List.set_cons_zero, List.append_assoc]
  simp [peelStep, List.getD, h]
theorem LeftP.set {w : World} {base g off : Nat} {fl : List (F × F)} (h : LeftP w base g off fl) {i : Nat} (hi : i < fl.length) (y : F) : LeftP (w.setCell ⟨g, off + i * 2 + 1, none⟩ (.int .i64 (vI y))) base g off (fl.set i ((fl.getD i (0, 0)).1, y)) := by
  refine ⟨h.1, by simpa using h.2.1, fun j hj => ?_⟩
  rw [List.length_set] at hj
  obtain ⟨⟨c1, c2⟩, c3⟩ := h.2.2 j hj
  by_cases e : j = i
  · subst e
    have e1 : (fl.set j ((fl.getD j (0, 0)).1, y)).getD j (0, 0) = ((fl.getD j (0, 0)).1, y) := by simp [List.getD, hj]
    rw [e1]
    refine ⟨⟨?_, World.cell?_setCell_same _ _ _ c2⟩, by simpa using c3⟩
    rw [World.cell?_setCell_other _ _ _ _ (by simp)]; exact c1
  · have e1 : (fl.set i ((fl.getD i (0, 0)).1, y)).getD j (0, 0) = fl.getD j (0, 0) := by simp [List.getD, List.getElem?_set, show i ≠ j by omega]
    rw [e1]
    refine ⟨⟨?_, ?_⟩, by simpa using c3⟩
    · rw [World.cell?_setCell_other _ _ _ _ (by simp <;> omega)]; exact c1
    · rw [World.cell?_setCell_other _ _ _ _ (by simp <;> omega)]; exact c2

end Go.Proofs.Ytamppekadobagaa
