/- The contract of the specification's HalvesTimes. -/
import Derived.Test.YtaedplfihjfchaaImplHalfh
import Derived.Test.YtaedplfihjfchaaSpecTimes2h
namespace Go.Proofs.Ytaedplfihjfchaa
set_option linter.unusedVariables false
set_option maxRecDepth 1000000
set_option linter.unusedSimpArgs false
open Go.RowKit

set_option maxHeartbeats 1000000 in
theorem specHalf_c (ao bo : Option Addr) (n m c d : Nat) (xs ys : List Int) (w : World) (hx : xs.length = n) (hy : ys.length = m) (hn : n ≤ 17592186044416) (hm : m ≤ 17592186044416) (hr : Rd w ao xs) (hs : Rd w bo ys) (zs : List Int) (fb : Bool) (p : Nat) (hF : halfF xs ys = (zs, fb)) (hp : zs.length = p) :
    Calls Try.prog 6 #[.agg #[.slice ao n c], .agg #[.slice bo m d]] w fun e w' => ∃ a' c', e = .returned (.tuple #[.agg #[.slice a' p c'], .bool fb]) ∧ Own w' w.heap.size (.slice a' p c') zs ∧ Below w.heap.size w w' := by
  have HX : Hid (xs.length = n) := hx
  have HY : Hid (ys.length = m) := hy
  have HR : Hid (Rd w ao xs) := hr
  have HS : Hid (Rd w bo ys) := hs
  have HP : Hid (zs.length = p) := hp
  have HB0 : Hid (Below w.heap.size w (((w.alloc (Obj.cells #[Value.slice ao n c] 25)).alloc (Obj.cells #[Value.slice bo m d] 25)).alloc (Obj.cells #[Value.slice none 0 0] 25))) := below_three w _ _ _
  clear hx hy hr hs hp
  cases hg : (goodB xs && goodB ys)
  · rw [halfF, hg] at hF
    simp only [Bool.false_eq_true, if_false, Prod.mk.injEq] at hF
    obtain ⟨rfl, rfl⟩ := hF
    have hp0 := HP.out
    simp at hp0
    subst hp0
    go_enter Try.func6, Try.ntmps6
    go_wp2_with fail
    refine (l1Both_c ao bo n m c d xs ys _ HX.out HY.out hn hm (HR.out.later HB0.out) (HS.out.later HB0.out)).mono ?_
    rw [hg]
    rintro e w1 ⟨rfl, hb⟩
    have HB1 : Hid (Below w.heap.size w w1) := HB0.out.trans (hb.mono (by simp; omega))
    have r1 : w1.cell? ⟨w.heap.size + 1 + 1, 0, none⟩ = some (.slice none 0 0) := cell_keep (S := 0) hb (by rw [World.cell?_alloc_at _ _ _ _ (by simp)]; rfl)
    have f1 : w1.frozen? ⟨w.heap.size + 1 + 1, 0, none⟩ = false := fcell_keep hb (by simp) (fz3 _ _ _ _ _ _ _)
    clear hb hg
    go_wp2
    refine bodyPost_ret (v := .tuple #[.agg #[.slice none 0 0], .bool false]) (by simp [results, Try.results6, go_sem, r1]) rfl ⟨none, 0, rfl, World.ownsRow_nil _ _ _ _, ?_⟩
    exact HB1.out.setCell (by simp; omega) _
  · rw [halfF, hg] at hF
    simp only [if_true] at hF
    by_cases h3 : 3 < n
    · rw [if_pos (Or.inl (by rw [HX.out]; exact h3))] at hF
      simp only [Prod.mk.injEq] at hF
      obtain ⟨rfl, rfl⟩ := hF
      have hp0 := HP.out
      simp at hp0
      subst hp0
      have h3' : (3 : Int) < (n : Int) := by omega
      go_enter Try.func6, Try.ntmps6
      go_wp2_with fail
      refine (l1Both_c ao bo n m c d xs ys _ HX.out HY.out hn hm (HR.out.later HB0.out) (HS.out.later HB0.out)).mono ?_
      rw [hg]
      rintro e w1 ⟨rfl, hb⟩
      have HB1 : Hid (Below w.heap.size w w1) := HB0.out.trans (hb.mono (by simp; omega))
      have x1 : w1.cell? ⟨w.heap.size, 0, none⟩ = some (.slice ao n c) := cell_keep (S := 0) hb (calloc (calloc (by simp)))
      have y1 : w1.cell? ⟨w.heap.size + 1, 0, none⟩ = some (.slice bo m d) := cell_keep (S := 0) hb (calloc (by simp))
      have r1 : w1.cell? ⟨w.heap.size + 1 + 1, 0, none⟩ = some (.slice none 0 0) := cell_keep (S := 0) hb (by rw [World.cell?_alloc_at _ _ _ _ (by simp)]; rfl)
      have f1 : w1.frozen? ⟨w.heap.size + 1 + 1, 0, none⟩ = false := fcell_keep hb (by simp) (fz3 _ _ _ _ _ _ _)
      clear hb hg
      go_wp2
      refine bodyPost_ret (v := .tuple #[.agg #[.slice none 0 0], .bool false]) (by simp [results, Try.results6, go_sem, r1]) rfl ⟨none, 0, rfl, World.ownsRow_nil _ _ _ _, ?_⟩
      exact HB1.out.setCell (by simp; omega) _
    by_cases h4 : 3 < m
    · rw [if_pos (Or.inr (by rw [HY.out]; exact h4))] at hF
      simp only [Prod.mk.injEq] at hF
      obtain ⟨rfl, rfl⟩ := hF
      have hp0 := HP.out
      simp at hp0
      subst hp0
      have h3' : ¬ (3 : Int) < (n : Int) := by omega
      have h4' : (3 : Int) < (m : Int) := by omega
      go_enter Try.func6, Try.ntmps6
      go_wp2_with fail
      refine (l1Both_c ao bo n m c d xs ys _ HX.out HY.out hn hm (HR.out.later HB0.out) (HS.out.later HB0.out)).mono ?_
      rw [hg]
      rintro e w1 ⟨rfl, hb⟩
      have HB1 : Hid (Below w.heap.size w w1) := HB0.out.trans (hb.mono (by simp; omega))
      have x1 : w1.cell? ⟨w.heap.size, 0, none⟩ = some (.slice ao n c) := cell_keep (S := 0) hb (calloc (calloc (by simp)))
      have y1 : w1.cell? ⟨w.heap.size + 1, 0, none⟩ = some (.slice bo m d) := cell_keep (S := 0) hb (calloc (by simp))
      have r1 : w1.cell? ⟨w.heap.size + 1 + 1, 0, none⟩ = some (.slice none 0 0) := cell_keep (S := 0) hb (by rw [World.cell?_alloc_at _ _ _ _ (by simp)]; rfl)
      have f1 : w1.frozen? ⟨w.heap.size + 1 + 1, 0, none⟩ = false := fcell_keep hb (by simp) (fz3 _ _ _ _ _ _ _)
      clear hb hg
      go_wp2
      refine bodyPost_ret (v := .tuple #[.agg #[.slice none 0 0], .bool false]) (by simp [results, Try.results6, go_sem, r1]) rfl ⟨none, 0, rfl, World.ownsRow_nil _ _ _ _, ?_⟩
      exact HB1.out.setCell (by simp; omega) _
    rw [if_neg (by rw [HX.out, HY.out]; omega)] at hF
    have h3' : ¬ (3 : Int) < (n : Int) := by omega
    have h4' : ¬ (3 : Int) < (m : Int) := by omega
    have HF : Hid (tellF (val xs * val ys) = (zs, fb)) := hF
    have HG : Hid (goodB xs = true ∧ goodB ys = true) := by have h := hg; simp at h; exact h
    have hn6 : n ≤ 6 := by have := (goodB_digs HG.out.1).1; rw [HX.out] at this; exact this
    have hm6 : m ≤ 6 := by have := (goodB_digs HG.out.2).1; rw [HY.out] at this; exact this
    clear hF
    go_enter Try.func6, Try.ntmps6
    go_wp2_with fail
    refine (l1Both_c ao bo n m c d xs ys _ HX.out HY.out hn hm (HR.out.later HB0.out) (HS.out.later HB0.out)).mono ?_
    rw [hg]
    rintro e w1 ⟨rfl, hb⟩
    have HB1 : Hid (Below w.heap.size w w1) := HB0.out.trans (hb.mono (by simp; omega))
    have x1 : w1.cell? ⟨w.heap.size, 0, none⟩ = some (.slice ao n c) := cell_keep (S := 0) hb (calloc (calloc (by simp)))
    have y1 : w1.cell? ⟨w.heap.size + 1, 0, none⟩ = some (.slice bo m d) := cell_keep (S := 0) hb (calloc (by simp))
    have r1 : w1.cell? ⟨w.heap.size + 1 + 1, 0, none⟩ = some (.slice none 0 0) := cell_keep (S := 0) hb (by rw [World.cell?_alloc_at _ _ _ _ (by simp)]; rfl)
    have f1 : w1.frozen? ⟨w.heap.size + 1 + 1, 0, none⟩ = false := fcell_keep hb (by simp) (fz3 _ _ _ _ _ _ _)
    have l1 : w.heap.size + 1 + 1 < w1.heap.size := World.block_lt_of_cell? _ _ r1
    clear hb hg
    have dx := (goodB_digs HG.out.1).2.1
    have dy := (goodB_digs HG.out.2).2.1
    have v0 := val_mul_nonneg dx dy
    obtain ⟨q, hq⟩ : ∃ q, (bigL (val xs * val ys)).length = q := ⟨_, rfl⟩
    have HQ : Hid ((bigL (val xs * val ys)).length = q) := hq
    have hq7 : q ≤ 1000000000 := by
      rw [← hq]
      exact bigL_short v0 (val_mul_lt dx dy (goodB_digs HG.out.1).1 (goodB_digs HG.out.2).1)
    have HD : Hid (Digs (bigL (val xs * val ys)) ∧ val (bigL (val xs * val ys)) = val xs * val ys) := ⟨(bigL_spec v0).1, (bigL_spec v0).2.1⟩
    have HXY : Hid (Digs xs ∧ Digs ys) := ⟨dx, dy⟩
    clear dx dy v0 hq
    go_wp2_with fail
    refine (l1Times_c ao bo n m c d xs ys _ HX.out HY.out (by omega) (by omega) (HR.out.later HB1.out) (HS.out.later HB1.out) HXY.out.1 HXY.out.2 q HQ.out).mono ?_
    rintro e w2 ⟨a2, c2, rfl, ho, hb⟩
    have HB2 : Hid (Below w.heap.size w w2) := HB1.out.trans (hb.mono HB1.out.size)
    have r2 : w2.cell? ⟨w.heap.size + 1 + 1, 0, none⟩ = some (.slice none 0 0) := cell_keep (S := 0) hb r1
    have f2 : w2.frozen? ⟨w.heap.size + 1 + 1, 0, none⟩ = false := fcell_keep hb l1 f1
    have l2 : w.heap.size + 1 + 1 < w2.heap.size := World.block_lt_of_cell? _ _ r2
    have HO2 : Hid (Own w2 w1.heap.size (.slice a2 q c2) (bigL (val xs * val ys))) := ho
    clear hb ho r1 f1 x1 y1 l1
    go_wp2_with fail
    refine (l1Tell_c a2 q c2 (bigL (val xs * val ys)) _ (by omega) HO2.out.rdS HD.out.1 zs fb p (by rw [HD.out.2]; exact HF.out) HP.out).mono ?_
    rintro e w3 ⟨a3, c3, rfl, ho, hb⟩
    have HB3 : Hid (Below w.heap.size w w3) := HB2.out.trans (hb.mono HB2.out.size)
    have r3 : w3.cell? ⟨w.heap.size + 1 + 1, 0, none⟩ = some (.slice none 0 0) := cell_keep (S := 0) hb r2
    have f3 : w3.frozen? ⟨w.heap.size + 1 + 1, 0, none⟩ = false := fcell_keep hb l2 f2
    have HO3 : Hid (Own w3 w2.heap.size (.slice a3 p c3) zs) := ho
    clear hb ho r2 f2
    go_wp2
    refine bodyPost_ret (v := .tuple #[.agg #[.slice a3 p c3], .bool fb]) (by simp [results, Try.results6, go_sem, r3]) rfl ⟨a3, c3, rfl, ?_, ?_⟩
    · exact (own_set_below HO3.out (by omega) _).mono (by omega)
    · exact HB3.out.setCell (by simp; omega) _

end Go.Proofs.Ytaedplfihjfchaa
