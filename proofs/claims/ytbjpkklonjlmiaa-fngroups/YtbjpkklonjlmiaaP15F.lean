/- Chapter 15: plain facts: what all say together. -/
import Derived.Test.YtbjpkklonjlmiaaP15E
namespace Go.Proofs.Ytbjpkklonjlmiaa
set_option linter.unusedVariables false
set_option maxRecDepth 1000000
set_option linter.unusedSimpArgs false

/-- What the seats up to k say of the pairs up to m, together. -/
def totP (cs : List Int) (ps : List (List Int)) (m : Nat) : Nat → Int
  | 0 => 0
  | k + 1 => xr (totP cs ps m k) (coP cs ps k m)
theorem totP_nonneg (cs : List Int) (ps : List (List Int)) (m : Nat) : ∀ k, 0 ≤ totP cs ps m k
  | 0 => Int.le_refl _
  | k + 1 => xr_nonneg _ _
theorem totP_zero (cs : List Int) (ps : List (List Int)) : ∀ k, totP cs ps 0 k = 0
  | 0 => rfl
  | k + 1 => by rw [totP, totP_zero cs ps k]; exact zero_xr (Int.le_refl 0)
theorem totP_succ {cs : List Int} {ps : List (List Int)} {m p0 p1 : Nat} (hc : ∀ k, k < cs.length → byB (cs.getD k 0) = true) (hm : m < cs.length) (e0 : (ps.getD m []).getD 0 0 = (p0 : Int)) (e1 : (ps.getD m []).getD 1 0 = (p1 : Int)) (h01 : p0 < p1) :
    ∀ k, totP cs ps (m + 1) k = xr (totP cs ps m k) (if p0 < k then (if p1 < k then 0 else cs.getD m 0) else 0)
  | 0 => by rw [if_neg (by omega)]; exact (zero_xr (Int.le_refl 0)).symm
  | k + 1 => by
    have ih := totP_succ hc hm e0 e1 h01 k
    have hcm := (byB_iff.1 (hc m hm)).1
    have hco : 0 ≤ coP cs ps (k : Nat) m := (byB_iff.1 (coP_by hc m (by omega))).1
    have ht := totP_nonneg cs ps m k
    have hst : coP cs ps (k : Nat) (m + 1) = if (ps.getD m []).getD 0 0 = ((k : Nat) : Int) ∨ (ps.getD m []).getD 1 0 = ((k : Nat) : Int) then xr (coP cs ps (k : Nat) m) (cs.getD m 0) else coP cs ps (k : Nat) m := rfl
    rw [totP, totP, ih, hst, e0, e1]
    generalize coP cs ps (k : Nat) m = x at hco
    generalize totP cs ps m k = y at ht
    generalize cs.getD m 0 = c at hcm
    have hxy := xr_nonneg y x
    rcases Nat.lt_trichotomy k p0 with h | h | h
    · rw [if_neg (by omega), if_neg (by omega), if_neg (by omega), xr_zero ht, xr_zero hxy]
    · rw [if_neg (by omega), if_pos (by omega), if_pos (by omega), if_neg (by omega), xr_zero ht, xr_assoc]
    · rcases Nat.lt_trichotomy k p1 with h1 | h1 | h1
      · rw [if_pos (by omega), if_neg (by omega), if_neg (by omega), if_pos (by omega), if_neg (by omega), xr_assoc, xr_comm c x, ← xr_assoc]
      · rw [if_pos (by omega), if_neg (by omega), if_pos (by omega), if_pos (by omega), if_pos (by omega), xr_zero hxy, xr_assoc, xr_comm x c, ← xr_assoc c c x, xr_self, zero_xr hco]
      · rw [if_pos (by omega), if_pos (by omega), if_neg (by omega), if_pos (by omega), if_pos (by omega), xr_zero ht, xr_zero hxy]
theorem totP_all {t : TbV} (g : GoodT t) : ∀ m, m ≤ t.ps.length → totP t.cs t.ps m t.s.toNat = 0
  | 0, _ => totP_zero _ _ _
  | m + 1, h => by
    have h2 := g.two m (by omega)
    have := totP_succ (m := m) (ps := t.ps) (cs := t.cs) (p0 := ((t.ps.getD m []).getD 0 0).toNat) (p1 := ((t.ps.getD m []).getD 1 0).toNat) g.by' (by rw [g.cl]; omega) (by omega) (by omega) (by omega) t.s.toNat
    rw [this, if_pos (by omega), if_pos (by omega), totP_all g m (by omega)]
    exact zero_xr (Int.le_refl 0)
theorem sum_sayL {t : TbV} (g : GoodT t) {ws : List Int} (hl : ws.length = t.s.toNat) : ∀ k, k ≤ t.s.toNat → sumX ((sayL t ws).take k) = xr (sumX (ws.take k)) (totP t.cs t.ps t.ps.length k)
  | 0, _ => by rw [List.take_zero, List.take_zero]; exact (zero_xr (Int.le_refl 0)).symm
  | k + 1, h => by
    rw [sumX_take (by rw [sayL_length]; omega), sumX_take (by omega), sum_sayL g hl k (by omega), sayL_get _ _ (by omega), totP]
    generalize sumX (ws.take k) = a
    generalize totP t.cs t.ps t.ps.length k = b
    generalize ws.getD k 0 = c
    generalize coP t.cs t.ps k t.ps.length = d
    rw [xr_assoc, xr_assoc, ← xr_assoc b c d, xr_comm b c, xr_assoc c b d]
/-- What all say together is what they would say without the coins. -/
theorem sum_say {t : TbV} (g : GoodT t) {ws : List Int} (hl : ws.length = t.s.toNat) (hb : ∀ x ∈ ws, byB x = true) : sumX (sayL t ws) = sumX ws := by
  have h := sum_sayL g hl t.s.toNat (Nat.le_refl _)
  rw [List.take_of_length_le (by rw [sayL_length]; exact Nat.le_refl _), List.take_of_length_le (by omega), totP_all g _ (Nat.le_refl _), xr_zero (byB_iff.1 (sumX_by hb)).1] at h
  exact h

end Go.Proofs.Ytbjpkklonjlmiaa
