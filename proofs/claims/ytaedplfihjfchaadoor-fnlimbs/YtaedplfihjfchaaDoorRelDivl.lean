/- The contracts of LessBig, whole and said relatively. -/
import Derived.Test.YtaedplfihjfchaaDoorImplLess2l
import Derived.Test.YtaedplfihjfchaaDoorImplDivBl
namespace Go.Proofs.YtaedplfihjfchaaDoor
set_option linter.unusedVariables false
set_option maxRecDepth 1000000
set_option linter.unusedSimpArgs false
open Go.RowKit

set_option maxHeartbeats 1000000 in
theorem implLess_bad (ao bo : Option Addr) (n m c d : Nat) (xs ys : List Int) (w : World) (hx : xs.length = n) (hy : ys.length = m) (hn : n ≤ 17592186044416) (hm : m ≤ 17592186044416) (hr : Rd w ao xs) (hs : Rd w bo ys) (hg : (goodB xs && goodB ys) = false) :
    Calls Tryd.prog 12 #[.agg #[.slice ao n c], .agg #[.slice bo m d]] w fun e w' => ∃ a' c', e = .returned (.tuple #[.agg #[.slice a' 0 c'], .bool false]) ∧ Own w' w.heap.size (.slice a' 0 c') [] ∧ Below w.heap.size w w' := by
  have HX : Hid (xs.length = n) := hx
  have HY : Hid (ys.length = m) := hy
  have HR : Hid (Rd w ao xs) := hr
  have HS : Hid (Rd w bo ys) := hs
  have HB0 : Hid (Below w.heap.size w (((w.alloc (Obj.cells #[Value.slice ao n c] 25)).alloc (Obj.cells #[Value.slice bo m d] 25)).alloc (Obj.cells #[Value.slice none 0 0] 25))) := below_three w _ _ _
  clear hx hy hr hs
  cases gx : goodB xs
  · clear hg
    go_enter Tryd.func12, Tryd.ntmps12
    go_wp2_with fail
    refine (implGood_c ao n c xs _ HX.out hn (HR.out.later HB0.out)).mono ?_
    rw [gx]
    rintro e w1 ⟨rfl, hb⟩
    have HB1 : Hid (Below w.heap.size w w1) := HB0.out.trans (hb.mono (by simp; omega))
    have t1 : w1.cell? ⟨w.heap.size + 1 + 1, 0, none⟩ = some (.slice none 0 0) := cell_keep (S := 0) hb (by rw [World.cell?_alloc_at _ _ _ _ (by simp)]; rfl)
    have f1 : w1.frozen? ⟨w.heap.size + 1 + 1, 0, none⟩ = false := fcell_keep hb (by simp) (fz3 _ _ _ _ _ _ _)
    clear hb gx
    go_wp2
    refine bodyPost_ret (v := .tuple #[.agg #[.slice none 0 0], .bool false]) (by simp [results, Tryd.results12, go_sem, t1]) rfl ⟨none, 0, rfl, World.ownsRow_nil _ _ _ _, ?_⟩
    exact HB1.out.setCell (by simp; omega) _
  · have gy : goodB ys = false := by rw [gx] at hg; simpa using hg
    clear hg
    go_enter Tryd.func12, Tryd.ntmps12
    go_wp2_with fail
    refine (implGood_c ao n c xs _ HX.out hn (HR.out.later HB0.out)).mono ?_
    rw [gx]
    rintro e w1 ⟨rfl, hb⟩
    have HB1 : Hid (Below w.heap.size w w1) := HB0.out.trans (hb.mono (by simp; omega))
    have y1 : w1.cell? ⟨w.heap.size + 1, 0, none⟩ = some (.slice bo m d) := cell_keep (S := 0) hb (calloc (by simp))
    have t1 : w1.cell? ⟨w.heap.size + 1 + 1, 0, none⟩ = some (.slice none 0 0) := cell_keep (S := 0) hb (by rw [World.cell?_alloc_at _ _ _ _ (by simp)]; rfl)
    have f1 : w1.frozen? ⟨w.heap.size + 1 + 1, 0, none⟩ = false := fcell_keep hb (by simp) (fz3 _ _ _ _ _ _ _)
    have l1 : w.heap.size + 1 + 1 < w1.heap.size := World.block_lt_of_cell? _ _ t1
    clear hb gx
    go_wp2_with fail
    refine (implGood_c bo m d ys _ HY.out hm (HS.out.later HB1.out)).mono ?_
    rw [gy]
    rintro e w2 ⟨rfl, hb⟩
    have HB2 : Hid (Below w.heap.size w w2) := HB1.out.trans (hb.mono (HB1.out.size))
    have t2 : w2.cell? ⟨w.heap.size + 1 + 1, 0, none⟩ = some (.slice none 0 0) := cell_keep (S := 0) hb t1
    have f2 : w2.frozen? ⟨w.heap.size + 1 + 1, 0, none⟩ = false := fcell_keep hb l1 f1
    clear hb gy
    go_wp2
    refine bodyPost_ret (v := .tuple #[.agg #[.slice none 0 0], .bool false]) (by simp [results, Tryd.results12, go_sem, t2]) rfl ⟨none, 0, rfl, World.ownsRow_nil _ _ _ _, ?_⟩
    exact HB2.out.setCell (by simp; omega) _

theorem implLess_c (ao bo : Option Addr) (n m c d : Nat) (xs ys : List Int) (w : World) (hx : xs.length = n) (hy : ys.length = m) (hn : n ≤ 17592186044416) (hm : m ≤ 17592186044416) (hr : Rd w ao xs) (hs : Rd w bo ys) (zs : List Int) (fb : Bool) (p : Nat) (hF : lessF xs ys = (zs, fb)) (hp : zs.length = p) :
    Calls Tryd.prog 12 #[.agg #[.slice ao n c], .agg #[.slice bo m d]] w fun e w' => ∃ a' c', e = .returned (.tuple #[.agg #[.slice a' p c'], .bool fb]) ∧ Own w' w.heap.size (.slice a' p c') zs ∧ Below w.heap.size w w' := by
  cases hg : (goodB xs && goodB ys)
  · rw [lessF, hg] at hF
    simp only [Bool.false_eq_true, if_false, Prod.mk.injEq] at hF
    obtain ⟨rfl, rfl⟩ := hF
    simp at hp
    subst hp
    exact implLess_bad ao bo n m c d xs ys w hx hy hn hm hr hs hg
  · have h := hg
    simp at h
    exact implLess_good ao bo n m c d xs ys w hx hy hn hm hr hs zs fb p hF hp h.1 h.2

theorem implLess_d {ao bo : Option Addr} {n m c d : Nat} {xs ys : List Int} {w W : World} (hx : xs.length = n) (hy : ys.length = m) (hn : n ≤ 17592186044416) (hm : m ≤ 17592186044416) (hr : Rd W ao xs) (hs : Rd W bo ys) {zs : List Int} {fb : Bool} {p : Nat} (hF : lessF xs ys = (zs, fb)) (hp : zs.length = p) (hB : Below w.heap.size w W) :
    Calls Tryd.prog 12 #[.agg #[.slice ao n c], .agg #[.slice bo m d]] W fun e w' => ∃ a' c', e = .returned (.tuple #[.agg #[.slice a' p c'], .bool fb]) ∧ Own w' W.heap.size (.slice a' p c') zs ∧ Hid (Below w.heap.size w w') ∧ Below W.heap.size W w' := by
  refine (implLess_c ao bo n m c d xs ys W hx hy hn hm hr hs zs fb p hF hp).mono ?_
  rintro e w' ⟨a', c', rfl, ho, hb⟩
  exact ⟨a', c', rfl, ho, hB.trans (hb.mono hB.size), hb⟩

theorem lessF_short {xs ys zs : List Int} {fb : Bool} (h : lessF xs ys = (zs, fb)) : zs.length ≤ 6 := by
  cases hg : (goodB xs && goodB ys)
  · rw [lessF, hg] at h
    simp at h
    rw [h.1]; simp
  · rw [lessF, hg] at h
    simp only [if_true] at h
    by_cases hv : val xs < val ys
    · rw [if_pos hv] at h
      simp only [Prod.mk.injEq] at h
      rw [← h.1]; simp
    · rw [if_neg hv] at h
      exact tellF_short (by omega) h

end Go.Proofs.YtaedplfihjfchaaDoor
namespace Go.Proofs.YtaedplfihjfchaaDoor
set_option linter.unusedVariables false
set_option maxRecDepth 1000000
set_option linter.unusedSimpArgs false
open Go.RowKit

theorem divF_short {xs ys zs us : List Int} {fb : Bool} (h : divF xs ys = (zs, us, fb)) : zs.length ≤ 6 ∧ us.length ≤ 6 := by
  unfold divF at h
  split at h
  · rename_i hg
    split at h
    · simp only [Prod.mk.injEq] at h; rw [← h.1, ← h.2.1]; simp
    · simp only [Prod.mk.injEq] at h
      obtain ⟨rfl, rfl, rfl⟩ := h
      have hx : goodB xs = true ∧ goodB ys = true := by simpa using hg
      have dx := (goodB_digs hx.1).2.1
      have v0 := val_nonneg dx
      have v1 := val_lt6 dx (goodB_digs hx.1).1
      have y0 := val_nonneg (goodB_digs hx.2).2.1
      have e : (65536 : Int) ^ 6 = 79228162514264337593543950336 := by decide
      have q1 := Int.ediv_le_self (val ys) v0
      have q2 : val xs % val ys ≤ val xs := by
        have h1 := Int.emod_add_mul_ediv (val xs) (val ys)
        have h2 := Int.mul_nonneg y0 (Int.ediv_nonneg v0 y0)
        omega
      exact ⟨digits_short _ _ 6 (by rw [e]; omega), digits_short _ _ 6 (by rw [e]; omega)⟩
  · simp only [Prod.mk.injEq] at h; rw [← h.1, ← h.2.1]; simp

theorem specDiv_d {ao bo : Option Addr} {n m c d : Nat} {xs ys : List Int} {w W : World} (hx : xs.length = n) (hy : ys.length = m) (hn : n ≤ 17592186044416) (hm : m ≤ 17592186044416) (hr : Rd W ao xs) (hs : Rd W bo ys) {zs us : List Int} {fb : Bool} {p q : Nat} (hF : divF xs ys = (zs, us, fb)) (hp : zs.length = p) (hq : us.length = q) (hB : Below w.heap.size w W) :
    Calls Tryd.prog 8 #[.agg #[.slice ao n c], .agg #[.slice bo m d]] W fun e w' => ∃ a1 c1 a2 c2, e = .returned (.tuple #[.agg #[.slice a1 p c1], .agg #[.slice a2 q c2], .bool fb]) ∧ Own w' W.heap.size (.slice a1 p c1) zs ∧ Own w' W.heap.size (.slice a2 q c2) us ∧ Hid (Below w.heap.size w w') ∧ Below W.heap.size W w' := by
  refine (specDiv_c ao bo n m c d xs ys W hx hy hn hm hr hs zs us fb p q hF hp hq).mono ?_
  rintro e w' ⟨a1, c1, a2, c2, rfl, h1, h2, hb⟩
  exact ⟨a1, c1, a2, c2, rfl, h1, h2, hB.trans (hb.mono hB.size), hb⟩

theorem implDiv_d {ao bo : Option Addr} {n m c d : Nat} {xs ys : List Int} {w W : World} (hx : xs.length = n) (hy : ys.length = m) (hn : n ≤ 17592186044416) (hm : m ≤ 17592186044416) (hr : Rd W ao xs) (hs : Rd W bo ys) {zs us : List Int} {fb : Bool} {p q : Nat} (hF : divF xs ys = (zs, us, fb)) (hp : zs.length = p) (hq : us.length = q) (hB : Below w.heap.size w W) :
    Calls Tryd.prog 7 #[.agg #[.slice ao n c], .agg #[.slice bo m d]] W fun e w' => ∃ a1 c1 a2 c2, e = .returned (.tuple #[.agg #[.slice a1 p c1], .agg #[.slice a2 q c2], .bool fb]) ∧ Own w' W.heap.size (.slice a1 p c1) zs ∧ Own w' W.heap.size (.slice a2 q c2) us ∧ Hid (Below w.heap.size w w') ∧ Below W.heap.size W w' := by
  refine (implDiv_c ao bo n m c d xs ys W hx hy hn hm hr hs zs us fb p q hF hp hq).mono ?_
  rintro e w' ⟨a1, c1, a2, c2, M, rfl, h1, h2, hM, hb⟩
  exact ⟨a1, c1, a2, c2, rfl, h1, h2.mono hM.1, hB.trans (hb.mono hB.size), hb⟩

end Go.Proofs.YtaedplfihjfchaaDoor
