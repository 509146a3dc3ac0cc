/- The contract of the program AddBig, whole. -/
import Derived.Test.YtaedplfihjfchaaDoorImplAdd2l
namespace Go.Proofs.YtaedplfihjfchaaDoor
set_option linter.unusedVariables false
set_option maxRecDepth 1000000
set_option linter.unusedSimpArgs false
open Go.RowKit

set_option maxHeartbeats 1000000 in
theorem implAdd_bad (ao bo : Option Addr) (n m c d : Nat) (xs ys : List Int) (w : World) (hx : xs.length = n) (hy : ys.length = m) (hn : n ≤ 17592186044416) (hm : m ≤ 17592186044416) (hr : Rd w ao xs) (hs : Rd w bo ys) (hg : (goodB xs && goodB ys) = false) :
    Calls Tryd.prog 5 #[.agg #[.slice ao n c], .agg #[.slice bo m d]] w fun e w' => ∃ a' c', e = .returned (.tuple #[.agg #[.slice a' 0 c'], .bool false]) ∧ Own w' w.heap.size (.slice a' 0 c') [] ∧ Below w.heap.size w w' := by
  have HX : Hid (xs.length = n) := hx
  have HY : Hid (ys.length = m) := hy
  have HR : Hid (Rd w ao xs) := hr
  have HS : Hid (Rd w bo ys) := hs
  have HB0 : Hid (Below w.heap.size w (((w.alloc (Obj.cells #[Value.slice ao n c] 25)).alloc (Obj.cells #[Value.slice bo m d] 25)).alloc (Obj.cells #[Value.slice none 0 0] 25))) := below_three w _ _ _
  clear hx hy hr hs
  cases gx : goodB xs
  · clear hg
    go_enter Tryd.func5, Tryd.ntmps5
    go_wp2_with fail
    refine (implGood_c ao n c xs _ HX.out hn (HR.out.later HB0.out)).mono ?_
    rw [gx]
    rintro e w1 ⟨rfl, hb⟩
    have HB1 : Hid (Below w.heap.size w w1) := HB0.out.trans (hb.mono (by simp; omega))
    have t1 : w1.cell? ⟨w.heap.size + 1 + 1, 0, none⟩ = some (.slice none 0 0) := cell_keep (S := 0) hb (by rw [World.cell?_alloc_at _ _ _ _ (by simp)]; rfl)
    have f1 : w1.frozen? ⟨w.heap.size + 1 + 1, 0, none⟩ = false := fcell_keep hb (by simp) (fz3 _ _ _ _ _ _ _)
    clear hb gx
    go_wp2
    refine bodyPost_ret (v := .tuple #[.agg #[.slice none 0 0], .bool false]) (by simp [results, Tryd.results5, go_sem, t1]) rfl ⟨none, 0, rfl, World.ownsRow_nil _ _ _ _, ?_⟩
    exact HB1.out.setCell (by simp; omega) _
  · have gy : goodB ys = false := by rw [gx] at hg; simpa using hg
    clear hg
    go_enter Tryd.func5, Tryd.ntmps5
    go_wp2_with fail
    refine (implGood_c ao n c xs _ HX.out hn (HR.out.later HB0.out)).mono ?_
    rw [gx]
    rintro e w1 ⟨rfl, hb⟩
    have HB1 : Hid (Below w.heap.size w w1) := HB0.out.trans (hb.mono (by simp; omega))
    have y1 : w1.cell? ⟨w.heap.size + 1, 0, none⟩ = some (.slice bo m d) := cell_keep (S := 0) hb (calloc (by simp))
    have t1 : w1.cell? ⟨w.heap.size + 1 + 1, 0, none⟩ = some (.slice none 0 0) := cell_keep (S := 0) hb (by rw [World.cell?_alloc_at _ _ _ _ (by simp)]; rfl)
    have f1 : w1.frozen? ⟨w.heap.size + 1 + 1, 0, none⟩ = false := fcell_keep hb (by simp) (fz3 _ _ _ _ _ _ _)
    have l1 : w.heap.size + 1 + 1 < w1.heap.size := World.block_lt_of_cell? _ _ t1
    clear hb gx
    go_wp2_with fail
    refine (implGood_c bo m d ys _ HY.out hm (HS.out.later HB1.out)).mono ?_
    rw [gy]
    rintro e w2 ⟨rfl, hb⟩
    have HB2 : Hid (Below w.heap.size w w2) := HB1.out.trans (hb.mono (HB1.out.size))
    have t2 : w2.cell? ⟨w.heap.size + 1 + 1, 0, none⟩ = some (.slice none 0 0) := cell_keep (S := 0) hb t1
    have f2 : w2.frozen? ⟨w.heap.size + 1 + 1, 0, none⟩ = false := fcell_keep hb l1 f1
    clear hb gy
    go_wp2
    refine bodyPost_ret (v := .tuple #[.agg #[.slice none 0 0], .bool false]) (by simp [results, Tryd.results5, go_sem, t2]) rfl ⟨none, 0, rfl, World.ownsRow_nil _ _ _ _, ?_⟩
    exact HB2.out.setCell (by simp; omega) _

theorem implAdd_c (ao bo : Option Addr) (n m c d : Nat) (xs ys : List Int) (w : World) (hx : xs.length = n) (hy : ys.length = m) (hn : n ≤ 17592186044416) (hm : m ≤ 17592186044416) (hr : Rd w ao xs) (hs : Rd w bo ys) (zs : List Int) (fb : Bool) (p : Nat) (hF : addF xs ys = (zs, fb)) (hp : zs.length = p) :
    Calls Tryd.prog 5 #[.agg #[.slice ao n c], .agg #[.slice bo m d]] w fun e w' => ∃ a' c', e = .returned (.tuple #[.agg #[.slice a' p c'], .bool fb]) ∧ Own w' w.heap.size (.slice a' p c') zs ∧ Below w.heap.size w w' := by
  cases hg : (goodB xs && goodB ys)
  · rw [addF, hg] at hF
    simp only [Bool.false_eq_true, if_false, Prod.mk.injEq] at hF
    obtain ⟨rfl, rfl⟩ := hF
    simp at hp
    subst hp
    exact implAdd_bad ao bo n m c d xs ys w hx hy hn hm hr hs hg
  · have h := hg
    simp at h
    exact implAdd_good ao bo n m c d xs ys w hx hy hn hm hr hs zs fb p hF hp h.1 h.2


end Go.Proofs.YtaedplfihjfchaaDoor
