/- Contracts of the helpers over a struct of one list of ints: sizes, copies, comparisons, marks. -/
import Derived.Test.YtcklmgifboceaaaDoorBase
namespace Go.Proofs.YtcklmgifboceaaaDoor
set_option linter.unusedVariables false
set_option maxRecDepth 1000000
set_option linter.unusedSimpArgs false
open Go.RowKit

theorem bcell {W w1 : World} (hb : Below W.heap.size W w1) : (∀ b o, b < W.heap.size → w1.cell? ⟨b, o, none⟩ = W.cell? ⟨b, o, none⟩) ∧ (∀ b o, b < W.heap.size → w1.frozen? ⟨b, o, none⟩ = W.frozen? ⟨b, o, none⟩) :=
  ⟨fun b o h => hb.cell (p := ⟨b, o, none⟩) h, fun b o h => hb.frozen (p := ⟨b, o, none⟩) h⟩

theorem szBig_c (ao : Option Addr) (n cap : Nat) (left : Int) (w : World) (hn : n ≤ 9223372036854775807) (h0 : 0 ≤ left) (h1 : left ≤ 1048576) :
    Calls Tryd.prog 28 #[.agg #[.slice ao n cap], .int .i64 left] w fun e w' => e = .returned (.int .i64 (if left < (n : Int) then -1 else left - n)) ∧ Below w.heap.size w w' := by
  by_cases h : left < (n : Int)
  · rw [if_pos h]
    go_enter Tryd.func28, Tryd.ntmps28
    go_wp2_with (go_at_call 60; refine (szIntS_c _ _ _ _ _ hn (by omega) h1).mono ?_; rw [if_pos h]; rintro e w' ⟨rfl, rfl⟩)
    go_ret
    exact ⟨rfl, (Below.refl _ _).alloc (Nat.le_refl _) _⟩
  · rw [if_neg h]
    go_enter Tryd.func28, Tryd.ntmps28
    go_wp2_with (go_at_call 60; refine (szIntS_c _ _ _ _ _ hn (by omega) h1).mono ?_; rw [if_neg h]; rintro e w' ⟨rfl, rfl⟩)
    go_ret
    exact ⟨rfl, (Below.refl _ _).alloc (Nat.le_refl _) _⟩

theorem toBig_c (ao : Option Addr) (n c : Nat) (xs : List Int) (w : World) (hx : xs.length = n) (hn : n ≤ 17592186044416) (hr : Rd w ao xs) :
    Calls Tryd.prog 29 #[.agg #[.slice ao n c]] w fun e w' => ∃ a' c', e = .returned (.agg #[.slice a' n c']) ∧ Own w' w.heap.size (.slice a' n c') xs ∧ Below w.heap.size w w' := by
  go_enter Tryd.func29, Tryd.ntmps29
  go_wp2_with fail
  have hb0 : Below w.heap.size w (((w.alloc (Obj.cells #[Value.slice ao n c] 47)).alloc (Obj.cells #[Value.slice none 0 0] 25)).alloc (Obj.cells #[Value.slice none 0 0] 25)) :=
    (((Below.refl _ _).alloc (Nat.le_refl _) _).alloc (by simp) _).alloc (by simp; omega) _
  refine (toIntS_c ao n c xs _ hx hn (hr.later hb0)).mono ?_
  rintro e w1 ⟨a', c', rfl, ho, hb⟩
  obtain ⟨hc, hf⟩ := bcell hb
  have hz : w.heap.size + 3 ≤ w1.heap.size := by have := hb.size; simp at this; omega
  have HB : Hid (Below w.heap.size w w1) := hb0.trans (hb.mono (by simp; omega))
  have HO : Hid (Own w1 (w.heap.size + 3) (.slice a' n c') xs) := by have := ho; simp at this; exact this
  clear hb ho hb0 hr hx
  simp at hc hf
  go_wp2
  refine bodyPost_ret (v := .agg #[.slice a' n c']) (by simp [results, Tryd.results29, go_sem, hc]) rfl ⟨a', c', rfl, ?_, ?_⟩
  · have h1 : Own _ _ _ _ := ownsRow_setCell_below HO.out (a := ⟨w.heap.size + 1 + 1, 0, none⟩) (by simp) (.slice a' n c')
    have h2 : Own _ _ _ _ := ownsRow_setCell_below h1 (a := ⟨w.heap.size + 1, 0, none⟩) (by simp) (.slice a' n c')
    exact h2.mono (by omega)
  · exact (HB.out.setCell (by simp; omega) _).setCell (by simp) _

theorem eqBig_c (ao bo : Option Addr) (n m c d : Nat) (xs ys : List Int) (w : World) (hx : xs.length = n) (hy : ys.length = m) (hn : n ≤ 17592186044416) (hm : m ≤ 17592186044416) (hr : Rd w ao xs) (hs : Rd w bo ys) :
    Calls Tryd.prog 30 #[.agg #[.slice ao n c], .agg #[.slice bo m d]] w fun e w' => e = .returned (.bool (decide (xs = ys))) ∧ Below w.heap.size w w' := by
  have hb0 : Below w.heap.size w ((w.alloc (Obj.cells #[Value.slice ao n c] 25)).alloc (Obj.cells #[Value.slice bo m d] 25)) :=
    ((Below.refl _ _).alloc (Nat.le_refl _) _).alloc (by simp) _
  by_cases he : xs = ys
  · have hd : decide (xs = ys) = true := by simp [he]
    rw [hd]
    go_enter Tryd.func30, Tryd.ntmps30
    go_wp2_with fail
    refine (eqIntS_c ao bo n m c d xs ys _ hx hy hn hm (hr.later hb0) (hs.later hb0)).mono ?_
    rw [hd]
    clear hd he hr hs hx hy
    rintro e w1 ⟨rfl, hb⟩
    go_wp2
    go_ret
    exact ⟨rfl, hb0.trans (hb.mono (by simp; omega))⟩
  · have hd : decide (xs = ys) = false := by simp [he]
    rw [hd]
    go_enter Tryd.func30, Tryd.ntmps30
    go_wp2_with fail
    refine (eqIntS_c ao bo n m c d xs ys _ hx hy hn hm (hr.later hb0) (hs.later hb0)).mono ?_
    rw [hd]
    clear hd he hr hs hx hy
    rintro e w1 ⟨rfl, hb⟩
    go_wp2
    go_ret
    exact ⟨rfl, hb0.trans (hb.mono (by simp; omega))⟩

/-- The marks k, k + 1, .. of a row of n. -/
def marks (k : Int) (n : Nat) : List Int := (List.range n).map (fun j : Nat => k + (j : Int))
theorem marks_length (k : Int) (n : Nat) : (marks k n).length = n := by simp [marks]
theorem marks_getD (k : Int) (n j : Nat) (h : j < n) : (marks k n).getD j 0 = k + j := by simp [marks, List.getD, h]
theorem marks_of (k : Int) (n : Nat) (ys : List Int) (hl : ys.length = n) (h : ∀ j : Nat, j < n → ys.getD j 0 = k + j) : ys = marks k n := by
  refine List.ext_getElem (by rw [hl, marks_length]) fun j h1 h2 => ?_
  have e1 := h j (by omega)
  have e2 := marks_getD k n j (by omega)
  simp [List.getD, h1] at e1
  simp [List.getD, h2] at e2
  rw [e1, e2]

end Go.Proofs.YtcklmgifboceaaaDoor
