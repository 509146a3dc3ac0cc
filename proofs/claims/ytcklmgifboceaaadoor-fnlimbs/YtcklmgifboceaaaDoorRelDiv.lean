/- The contracts of DivBig, said relatively. -/
import Derived.Test.YtcklmgifboceaaaDoorImplDivB
namespace Go.Proofs.YtcklmgifboceaaaDoor
set_option linter.unusedVariables false
set_option maxRecDepth 1000000
set_option linter.unusedSimpArgs false
open Go.RowKit

theorem divF_short {xs ys zs us : List Int} {fb : Bool} (h : divF xs ys = (zs, us, fb)) : zs.length ≤ 6 ∧ us.length ≤ 6 := by
  unfold divF at h
  split at h
  · rename_i hg
    split at h
    · simp only [Prod.mk.injEq] at h; rw [← h.1, ← h.2.1]; simp
    · simp only [Prod.mk.injEq] at h
      obtain ⟨rfl, rfl, rfl⟩ := h
      have hx : goodB xs = true ∧ goodB ys = true := by simpa using hg
      have dx := (goodB_digs hx.1).2.1
      have v0 := val_nonneg dx
      have v1 := val_lt6 dx (goodB_digs hx.1).1
      have y0 := val_nonneg (goodB_digs hx.2).2.1
      have e : (65536 : Int) ^ 6 = 79228162514264337593543950336 := by decide
      have q1 := Int.ediv_le_self (val ys) v0
      have q2 : val xs % val ys ≤ val xs := by
        have h1 := Int.emod_add_mul_ediv (val xs) (val ys)
        have h2 := Int.mul_nonneg y0 (Int.ediv_nonneg v0 y0)
        omega
      exact ⟨digits_short _ _ 6 (by rw [e]; omega), digits_short _ _ 6 (by rw [e]; omega)⟩
  · simp only [Prod.mk.injEq] at h; rw [← h.1, ← h.2.1]; simp

theorem specDiv_d {ao bo : Option Addr} {n m c d : Nat} {xs ys : List Int} {w W : World} (hx : xs.length = n) (hy : ys.length = m) (hn : n ≤ 17592186044416) (hm : m ≤ 17592186044416) (hr : Rd W ao xs) (hs : Rd W bo ys) {zs us : List Int} {fb : Bool} {p q : Nat} (hF : divF xs ys = (zs, us, fb)) (hp : zs.length = p) (hq : us.length = q) (hB : Below w.heap.size w W) :
    Calls Tryd.prog 9 #[.agg #[.slice ao n c], .agg #[.slice bo m d]] W fun e w' => ∃ a1 c1 a2 c2, e = .returned (.tuple #[.agg #[.slice a1 p c1], .agg #[.slice a2 q c2], .bool fb]) ∧ Own w' W.heap.size (.slice a1 p c1) zs ∧ Own w' W.heap.size (.slice a2 q c2) us ∧ Hid (Below w.heap.size w w') ∧ Below W.heap.size W w' := by
  refine (specDiv_c ao bo n m c d xs ys W hx hy hn hm hr hs zs us fb p q hF hp hq).mono ?_
  rintro e w' ⟨a1, c1, a2, c2, rfl, h1, h2, hb⟩
  exact ⟨a1, c1, a2, c2, rfl, h1, h2, hB.trans (hb.mono hB.size), hb⟩

theorem implDiv_d {ao bo : Option Addr} {n m c d : Nat} {xs ys : List Int} {w W : World} (hx : xs.length = n) (hy : ys.length = m) (hn : n ≤ 17592186044416) (hm : m ≤ 17592186044416) (hr : Rd W ao xs) (hs : Rd W bo ys) {zs us : List Int} {fb : Bool} {p q : Nat} (hF : divF xs ys = (zs, us, fb)) (hp : zs.length = p) (hq : us.length = q) (hB : Below w.heap.size w W) :
    Calls Tryd.prog 8 #[.agg #[.slice ao n c], .agg #[.slice bo m d]] W fun e w' => ∃ a1 c1 a2 c2, e = .returned (.tuple #[.agg #[.slice a1 p c1], .agg #[.slice a2 q c2], .bool fb]) ∧ Own w' W.heap.size (.slice a1 p c1) zs ∧ Own w' W.heap.size (.slice a2 q c2) us ∧ Hid (Below w.heap.size w w') ∧ Below W.heap.size W w' := by
  refine (implDiv_c ao bo n m c d xs ys W hx hy hn hm hr hs zs us fb p q hF hp hq).mono ?_
  rintro e w' ⟨a1, c1, a2, c2, M, rfl, h1, h2, hM, hb⟩
  exact ⟨a1, c1, a2, c2, rfl, h1, h2.mono hM.1, hB.trans (hb.mono hB.size), hb⟩

end Go.Proofs.YtcklmgifboceaaaDoor
