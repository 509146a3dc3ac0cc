/- Contracts of the helpers over a struct of one list of ints: sizes, copies, comparisons, marks. -/
import Derived.Test.YthdncammipiffaaBase
namespace Go.Proofs.Ythdncammipiffaa
set_option linter.unusedVariables false
set_option linter.unusedSimpArgs false
open Go.RowKit

theorem bcell {W w1 : World} (hb : Below W.heap.size W w1) : (∀ b o, b < W.heap.size → w1.cell? ⟨b, o, none⟩ = W.cell? ⟨b, o, none⟩) ∧ (∀ b o, b < W.heap.size → w1.frozen? ⟨b, o, none⟩ = W.frozen? ⟨b, o, none⟩) :=
  ⟨fun b o h => hb.cell (p := ⟨b, o, none⟩) h, fun b o h => hb.frozen (p := ⟨b, o, none⟩) h⟩

theorem szBig_c (ao : Option Addr) (n cap : Nat) (left : Int) (w : World) (hn : n ≤ 9223372036854775807) (h0 : 0 ≤ left) (h1 : left ≤ 1048576) :
    Calls Try.prog 32 #[.agg #[.slice ao n cap], .int .i64 left] w fun e w' => e = .returned (.int .i64 (if left < (n : Int) then -1 else left - n)) ∧ Below w.heap.size w w' := by
  by_cases h : left < (n : Int)
  · rw [if_pos h]
    go_enter Try.func32, Try.ntmps32
    go_wp2_with (go_at_call 71; refine (szIntS_c _ _ _ _ _ hn (by omega) h1).mono ?_; rw [if_pos h]; rintro e w' ⟨rfl, rfl⟩)
    go_ret
    exact ⟨rfl, (Below.refl _ _).alloc (Nat.le_refl _) _⟩
  · rw [if_neg h]
    go_enter Try.func32, Try.ntmps32
    go_wp2_with (go_at_call 71; refine (szIntS_c _ _ _ _ _ hn (by omega) h1).mono ?_; rw [if_neg h]; rintro e w' ⟨rfl, rfl⟩)
    go_ret
    exact ⟨rfl, (Below.refl _ _).alloc (Nat.le_refl _) _⟩

theorem toBig_c (ao : Option Addr) (n c : Nat) (xs : List Int) (w : World) (hx : xs.length = n) (hn : n ≤ 17592186044416) (hr : Rd w ao xs) :
    Calls Try.prog 34 #[.agg #[.slice ao n c]] w fun e w' => ∃ a' c', e = .returned (.agg #[.slice a' n c']) ∧ Own w' w.heap.size (.slice a' n c') xs ∧ Below w.heap.size w w' := by
  go_enter Try.func34, Try.ntmps34
  go_wp2_with fail
  have hb0 : Below w.heap.size w (((w.alloc (Obj.cells #[Value.slice ao n c] 37)).alloc (Obj.cells #[Value.slice none 0 0] 25)).alloc (Obj.cells #[Value.slice none 0 0] 25)) :=
    (((Below.refl _ _).alloc (Nat.le_refl _) _).alloc (by simp) _).alloc (by simp; omega) _
  refine (toIntS_c ao n c xs _ hx hn (hr.later hb0)).mono ?_
  rintro e w1 ⟨a', c', rfl, ho, hb⟩
  obtain ⟨hc, hf⟩ := bcell hb
  have hz : w.heap.size + 3 ≤ w1.heap.size := by have := hb.size; simp at this; omega
  have HB : Hid (Below w.heap.size w w1) := hb0.trans (hb.mono (by simp; omega))
  have HO : Hid (Own w1 (w.heap.size + 3) (.slice a' n c') xs) := by have := ho; simp at this; exact this
  clear hb ho hb0 hr hx
  simp at hc hf
  go_wp2
  refine bodyPost_ret (v := .agg #[.slice a' n c']) (by simp [results, Try.results34, go_sem, hc]) rfl ⟨a', c', rfl, ?_, ?_⟩
  · have h1 : Own _ _ _ _ := ownsRow_setCell_below HO.out (a := ⟨w.heap.size + 1 + 1, 0, none⟩) (by simp) (.slice a' n c')
    have h2 : Own _ _ _ _ := ownsRow_setCell_below h1 (a := ⟨w.heap.size + 1, 0, none⟩) (by simp) (.slice a' n c')
    exact h2.mono (by omega)
  · exact (HB.out.setCell (by simp; omega) _).setCell (by simp) _

theorem eqBig_c (ao bo : Option Addr) (n m c d : Nat) (xs ys : List Int) (w : World) (hx : xs.length = n) (hy : ys.length = m) (hn : n ≤ 17592186044416) (hm : m ≤ 17592186044416) (hr : Rd w ao xs) (hs : Rd w bo ys) :
    Calls Try.prog 36 #[.agg #[.slice ao n c], .agg #[.slice bo m d]] w fun e w' => e = .returned (.bool (decide (xs = ys))) ∧ Below w.heap.size w w' := by
  have hb0 : Below w.heap.size w ((w.alloc (Obj.cells #[Value.slice ao n c] 25)).alloc (Obj.cells #[Value.slice bo m d] 25)) :=
    ((Below.refl _ _).alloc (Nat.le_refl _) _).alloc (by simp) _
  by_cases he : xs = ys
  · have hd : decide (xs = ys) = true := by simp [he]
    rw [hd]
    go_enter Try.func36, Try.ntmps36
    go_wp2_with fail
    refine (eqIntS_c ao bo n m c d xs ys _ hx hy hn hm (hr.later hb0) (hs.later hb0)).mono ?_
    rw [hd]
    clear hd he hr hs hx hy
    rintro e w1 ⟨rfl, hb⟩
    go_wp2
    go_ret
    exact ⟨rfl, hb0.trans (hb.mono (by simp; omega))⟩
  · have hd : decide (xs = ys) = false := by simp [he]
    rw [hd]
    go_enter Try.func36, Try.ntmps36
    go_wp2_with fail
    refine (eqIntS_c ao bo n m c d xs ys _ hx hy hn hm (hr.later hb0) (hs.later hb0)).mono ?_
    rw [hd]
    clear hd he hr hs hx hy
    rintro e w1 ⟨rfl, hb⟩
    go_wp2
    go_ret
    exact ⟨rfl, hb0.trans (hb.mono (by simp; omega))⟩

/-- The marks k, k + 1, .. of a row of n. -/
def marks (k : Int) (n : Nat) : List Int := (List.range n).map (fun j : Nat => k + (j : Int))
theorem marks_length (k : Int) (n : Nat) : (marks k n).length = n := by simp [marks]
theorem marks_getD (k : Int) (n j : Nat) (h : j < n) : (marks k n).getD j 0 = k + j := by simp [marks, List.getD, h]
theorem marks_of (k : Int) (n : Nat) (ys : List Int) (hl : ys.length = n) (h : ∀ j : Nat, j < n → ys.getD j 0 = k + j) : ys = marks k n := by
  refine List.ext_getElem (by rw [hl, marks_length]) fun j h1 h2 => ?_
  have e1 := h j (by omega)
  have e2 := marks_getD k n j (by omega)
  simp [List.getD, h1] at e1
  simp [List.getD, h2] at e2
  rw [e1, e2]

set_option maxHeartbeats 400000 in
theorem markIntS_at (g n c : Nat) (k : Int) (base : Nat) (xs : List Int) (w : World) (hn : n ≤ 17592186044416) (hx : xs.length = n) (h0 : 0 ≤ k) (h1 : k ≤ 17592186044416) (ho : Own w base (.slice (some ⟨g, 0, none⟩) n c) xs) :
    Calls Try.prog 75 #[.slice (some ⟨g, 0, none⟩) n c, .int .i64 k] w fun e w' => e = .returned (.int .i64 (k + n)) ∧ Own w' base (.slice (some ⟨g, 0, none⟩) n c) (marks k n) ∧ w.grownBy w' (some g) := by
  have HO : Hid (∃ ys : List Int, ys.length = n ∧ (∀ j : Nat, j < 0 → ys.getD j 0 = k + j) ∧ w.ownsRow base 3 1 (.slice (some ⟨g, 0, none⟩) n c) n (cellsI ys)) := ⟨xs, hx, fun j h => absurd h (by omega), by rw [← hx]; rw [← hx] at ho; exact ho⟩
  clear ho hx
  go_enter Try.func75, Try.ntmps75
  go_wp2
  go_loopw [1, 5] (fun q i wr => ∃ p : Nat, p ≤ n ∧ i = .int .i64 p ∧ q = .int .i64 (k + p) ∧ Hid (∃ ys : List Int, ys.length = n ∧ (∀ j : Nat, j < p → ys.getD j 0 = k + j) ∧ wr.ownsRow base 3 1 (.slice (some ⟨g, 0, none⟩) n c) n (cellsI ys)) ∧ w.grownBy wr (some g)) (fun _ i _ => n - (intOf i).toNat)
  case atStart => exact ⟨0, Nat.zero_le _, rfl, by go_num, HO, World.grownBy.refl _ _⟩
  case round =>
    clear HO
    obtain ⟨p, hp, rfl, rfl, hO, hgr⟩ := hrel
    by_cases hlt : p < n
    · obtain ⟨ys, hyl, hyt, hyo⟩ := hO.out
      clear hO
      have g2 : wr.cell? ⟨g, p, none⟩ = some (.int .i64 (ys.getD p 0)) := by
        rw [World.ownsRow.cellAt hyo p (by omega)]; exact getD_map_int ys p (by omega)
      have g3 : wr.frozen? ⟨g, p, none⟩ = false := World.ownsRow.frozenAt hyo p
      have hst := World.ownsRow.stored hyo p (.int .i64 (k + p))
      rw [cellsI_set] at hst
      have HS : Hid ((∃ zs : List Int, zs.length = n ∧ (∀ j : Nat, j < p + 1 → zs.getD j 0 = k + j) ∧ (wr.setCell ⟨g, p, none⟩ (.int .i64 (k + p))).ownsRow base 3 1 (.slice (some ⟨g, 0, none⟩) n c) n (cellsI zs)) ∧ w.grownBy (wr.setCell ⟨g, p, none⟩ (.int .i64 (k + p))) (some g)) :=
        ⟨⟨ys.set p (k + p), by simpa using hyl, fun j hj => by
          by_cases e : j = p
          · subst e; simp [List.getD, show j < ys.length by omega]
          · have := hyt j (by omega)
            rw [← this]; simp [List.getD, List.getElem?_set, show p ≠ j by omega], hst.1⟩,
         ⟨hst.2.os.trans hgr.os, hst.2.tape.trans hgr.tape, hst.2.output.trans hgr.output, Nat.le_trans hgr.size hst.2.size, fun q hq hne => (hst.2.block q (Nat.lt_of_lt_of_le hq hgr.size) hne).trans (hgr.block q hq hne)⟩⟩
      clear hst hyo hyt hyl hgr
      generalize hy : ys.getD p 0 = y at g2
      clear hy
      go_wp2
      go_roundw
      case rel => exact ⟨p + 1, by omega, by go_num, by go_num, HS.out.1, HS.out.2⟩
      case measure => simp [intOf]; omega
    · go_wp2
      go_ret
      obtain ⟨ys, hyl, hyt, hyo⟩ := hO.out
      obtain rfl : p = n := by omega
      have e := marks_of k p ys hyl hyt
      subst e
      refine ⟨rfl, ?_, hgr⟩
      unfold Own
      rw [marks_length]
      exact hyo

theorem markIntS_nil (ao : Option Addr) (c : Nat) (k : Int) (w : World) :
    Calls Try.prog 75 #[.slice ao 0 c, .int .i64 k] w fun e w' => e = .returned (.int .i64 k) ∧ w' = w := by
  go_enter Try.func75, Try.ntmps75
  go_wp2
  refine wp_loop_rounds 1 ?_
  rw [rounds_succ]
  go_wp2
  go_ret
  exact ⟨rfl, rfl⟩

/-- A mark over a row of the call's own: the row holds the marks, nothing else has turned. -/
theorem markIntS_c (ao : Option Addr) (n c : Nat) (k : Int) (base : Nat) (xs : List Int) (w : World) (hn : n ≤ 17592186044416) (h0 : 0 ≤ k) (h1 : k ≤ 17592186044416) (ho : Own w base (.slice ao n c) xs) :
    Calls Try.prog 75 #[.slice ao n c, .int .i64 k] w fun e w' => e = .returned (.int .i64 (k + n)) ∧ Own w' base (.slice ao n c) (marks k n) ∧ w.grownBy w' (Value.slice ao n c).ownBlock := by
  have hx := ho.rd'.1
  rcases ho.form with ⟨h, rfl⟩ | ⟨g, cap, h, hb, hg, hc⟩
  · simp only [Value.slice.injEq] at h
    obtain ⟨rfl, rfl, rfl⟩ := h
    refine (markIntS_nil none 0 k w).mono ?_
    rintro e w' ⟨rfl, rfl⟩
    exact ⟨by simp, ho, World.grownBy.refl _ _⟩
  · simp only [Value.slice.injEq] at h
    obtain ⟨rfl, _, _⟩ := h
    exact markIntS_at g n c k base xs w hn hx h0 h1 ho

set_option maxHeartbeats 400000 in
theorem heldIntS_at (g n c : Nat) (k : Int) (w : World) (hn : n ≤ 17592186044416) (h0 : 0 ≤ k) (h1 : k ≤ 17592186044416) (hc : ∀ j, j < n → w.cell? ⟨g, j, none⟩ = some (.int .i64 (k + j))) :
    Calls Try.prog 76 #[.slice (some ⟨g, 0, none⟩) n c, .int .i64 k] w fun e w' => e = .returned (.int .i64 (k + n)) ∧ w' = w := by
  go_enter Try.func76, Try.ntmps76
  go_wp2
  go_loop [1, 5] (fun q i => ∃ p : Nat, p ≤ n ∧ i = .int .i64 p ∧ q = .int .i64 (k + p)) (fun _ i => n - (intOf i).toNat)
  case atStart => exact ⟨0, Nat.zero_le _, rfl, by go_num⟩
  case round =>
    obtain ⟨p, hp, rfl, rfl⟩ := hrel
    by_cases hlt : p < n
    · have g1 := hc p hlt
      clear hc
      go_wp2
      go_round
      case rel => exact ⟨p + 1, by omega, by go_num, by go_num⟩
      case measure => simp [intOf]; omega
    · clear hc
      go_wp2
      go_ret
      obtain rfl : p = n := by omega
      exact ⟨rfl, rfl⟩

theorem heldIntS_nil (ao : Option Addr) (c : Nat) (k : Int) (w : World) :
    Calls Try.prog 76 #[.slice ao 0 c, .int .i64 k] w fun e w' => e = .returned (.int .i64 k) ∧ w' = w := by
  go_enter Try.func76, Try.ntmps76
  go_wp2
  refine wp_loop_rounds 1 ?_
  rw [rounds_succ]
  go_wp2
  go_ret
  exact ⟨rfl, rfl⟩

theorem heldIntS_c (ao : Option Addr) (n c : Nat) (k : Int) (base : Nat) (w : World) (hn : n ≤ 17592186044416) (h0 : 0 ≤ k) (h1 : k ≤ 17592186044416) (ho : Own w base (.slice ao n c) (marks k n)) :
    Calls Try.prog 76 #[.slice ao n c, .int .i64 k] w fun e w' => e = .returned (.int .i64 (k + n)) ∧ w' = w := by
  rcases ho.form with ⟨h, h2⟩ | ⟨g, cap, h, hb, hg, hc⟩
  · simp only [Value.slice.injEq] at h
    obtain ⟨rfl, rfl, rfl⟩ := h
    refine (heldIntS_nil none 0 k w).mono ?_
    rintro e w' ⟨rfl, rfl⟩
    exact ⟨by simp, rfl⟩
  · simp only [Value.slice.injEq] at h
    obtain ⟨rfl, _, _⟩ := h
    refine heldIntS_at g n c k w hn h0 h1 fun j hj => ?_
    have e : (marks k n).length = n := marks_length k n
    have := Own.cell (g := g) (cap := c) (xs := marks k n) (by rw [e]; exact ho) j (by omega)
    rw [marks_getD k n j hj] at this
    exact this

theorem markBig_c (ao : Option Addr) (n c : Nat) (k : Int) (base : Nat) (xs : List Int) (w : World) (hn : n ≤ 17592186044416) (h0 : 0 ≤ k) (h1 : k ≤ 17592186044416) (ho : Own w base (.slice ao n c) xs) :
    Calls Try.prog 39 #[.agg #[.slice ao n c], .int .i64 k] w fun e w' => e = .returned (.int .i64 (k + n)) ∧ Own w' base (.slice ao n c) (marks k n) ∧ w.grownBy w' (Value.slice ao n c).ownBlock := by
  have hb0 : Below w.heap.size w (w.alloc (Obj.cells #[Value.slice ao n c] 25)) := (Below.refl _ _).alloc (Nat.le_refl _) _
  go_enter Try.func39, Try.ntmps39
  go_wp2_with fail
  refine (markIntS_c ao n c k base xs _ hn h0 h1 (ho.later hb0)).mono ?_
  rintro e w1 ⟨rfl, ho1, hg⟩
  have HO : Hid (Own w1 base (.slice ao n c) (marks k n)) := ho1
  have HG : Hid (w.grownBy w1 (Value.slice ao n c).ownBlock) := ⟨hg.os, hg.tape, hg.output, Nat.le_trans (by simp) hg.size, fun q hq hne => (hg.block q (by simp; omega) hne).trans (hb0.block q hq)⟩
  clear ho ho1 hg hb0
  go_wp2
  go_ret
  exact ⟨rfl, HO.out, HG.out⟩

theorem heldBig_c (ao : Option Addr) (n c : Nat) (k : Int) (base : Nat) (w : World) (hn : n ≤ 17592186044416) (h0 : 0 ≤ k) (h1 : k ≤ 17592186044416) (ho : Own w base (.slice ao n c) (marks k n)) :
    Calls Try.prog 40 #[.agg #[.slice ao n c], .int .i64 k] w fun e w' => e = .returned (.int .i64 (k + n)) ∧ Below w.heap.size w w' := by
  have hb0 : Below w.heap.size w (w.alloc (Obj.cells #[Value.slice ao n c] 25)) := (Below.refl _ _).alloc (Nat.le_refl _) _
  go_enter Try.func40, Try.ntmps40
  go_wp2_with fail
  refine (heldIntS_c ao n c k base _ hn h0 h1 (ho.later hb0)).mono ?_
  rintro e w1 ⟨rfl, rfl⟩
  clear ho
  go_wp2
  go_ret
  exact ⟨rfl, hb0⟩

end Go.Proofs.Ythdncammipiffaa
