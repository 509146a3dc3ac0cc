/- Contracts said relatively to a world ahead, for regions that leave their order open. -/
import Derived.Test.YtaedplfihjfchaaImplAdd3h
import Derived.Test.YtaedplfihjfchaaLawCmph
namespace Go.Proofs.Ytaedplfihjfchaa
set_option linter.unusedVariables false
set_option maxRecDepth 1000000
set_option linter.unusedSimpArgs false
open Go.RowKit

theorem cnew (w : World) (v : Value) (t : TypeId) : (w.alloc (.cells #[v] t)).cell? ⟨w.heap.size, 0, none⟩ = some v := by
  rw [World.cell?_alloc_at _ _ _ _ rfl]; rfl

theorem balloc (w : World) (o : Obj) : Below w.heap.size w (w.alloc o) := (Below.refl _ _).alloc (Nat.le_refl _) _

theorem own_set_mono {w : World} {base base' : Nat} {v : Value} {xs : List Int} (h : Own w base v xs) {g o : Nat} (hg : g < base) (hb : base' ≤ base) {u : Value} : Own (w.setCell ⟨g, o, none⟩ u) base' v xs := (own_set_below h hg u).mono hb

theorem Rd.alloc {w : World} {ao : Option Addr} {xs : List Int} (h : Rd w ao xs) (o : Obj) : Rd (w.alloc o) ao xs := h.later ((Below.refl _ _).alloc (Nat.le_refl _) _)

theorem specAdd_d {ao bo : Option Addr} {n m c d : Nat} {xs ys : List Int} {w W : World} (hx : xs.length = n) (hy : ys.length = m) (hn : n ≤ 17592186044416) (hm : m ≤ 17592186044416) (hr : Rd W ao xs) (hs : Rd W bo ys) {zs : List Int} {fb : Bool} {p : Nat} (hF : addF xs ys = (zs, fb)) (hp : zs.length = p) (hB : Below w.heap.size w W) :
    Calls Try.prog 46 #[.agg #[.slice ao n c], .agg #[.slice bo m d]] W fun e w' => ∃ a' c', e = .returned (.tuple #[.agg #[.slice a' p c'], .bool fb]) ∧ Own w' W.heap.size (.slice a' p c') zs ∧ Hid (Below w.heap.size w w') ∧ Below W.heap.size W w' := by
  refine (specAdd_c ao bo n m c d xs ys W hx hy hn hm hr hs zs fb p hF hp).mono ?_
  rintro e w' ⟨a', c', rfl, ho, hb⟩
  exact ⟨a', c', rfl, ho, hB.trans (hb.mono hB.size), hb⟩

theorem tellF_short {n : Int} {zs : List Int} {fb : Bool} (h0 : 0 ≤ n) (h : tellF n = (zs, fb)) : zs.length ≤ 6 := by
  by_cases hn : n < 79228162514264337593543950336
  · rw [tellF_good hn] at h
    simp only [Prod.mk.injEq] at h
    rw [← h.1]; exact (bigL_length h0).2 hn
  · rw [tellF_bad hn] at h
    simp only [Prod.mk.injEq] at h
    rw [← h.1]; simp

theorem addF_short {xs ys zs : List Int} {fb : Bool} (h : addF xs ys = (zs, fb)) : zs.length ≤ 6 := by
  cases hg : (goodB xs && goodB ys)
  · rw [addF, hg] at h
    simp at h
    rw [h.1]; simp
  · rw [addF, hg] at h
    simp only [if_true] at h
    simp at hg
    have v0 := val_nonneg (goodB_digs hg.1).2.1
    have v1 := val_nonneg (goodB_digs hg.2).2.1
    exact tellF_short (by omega) h

end Go.Proofs.Ytaedplfihjfchaa
