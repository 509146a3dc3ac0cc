/- What FnLimbs asks of the plain numbers: a sum less b is a, quotient times b and the rest make a, a shift comes back. -/
import Derived.Test.YtcklmgifboceaaaDoorFH1P
namespace Go.Proofs.YtcklmgifboceaaaDoor
set_option linter.unusedVariables false
set_option maxRecDepth 1000000
set_option linter.unusedSimpArgs false
open Go.RowKit

theorem good_val {xs : List Int} (h : goodB xs = true) : 0 ≤ val xs ∧ val xs < 79228162514264337593543950336 ∧ bigL (val xs) = xs := by
  obtain ⟨l, d, t⟩ := goodB_digs h
  exact ⟨val_nonneg d, val_lt6 d l, (eq_bigL d t).symm⟩

theorem add_back {xs ys zs : List Int} (h : addF xs ys = (zs, true)) : goodB zs = true ∧ lessF zs ys = (xs, true) := by
  unfold addF at h
  split at h
  · rename_i hg
    obtain ⟨gx, gy⟩ : goodB xs = true ∧ goodB ys = true := by simpa using hg
    obtain ⟨x0, x1, xe⟩ := good_val gx
    obtain ⟨y0, y1, ye⟩ := good_val gy
    by_cases hs : val xs + val ys < 79228162514264337593543950336
    · rw [tellF_good hs] at h
      simp only [Prod.mk.injEq, and_true] at h
      subst h
      have gz := goodB_bigL (n := val xs + val ys) (by omega) hs
      have vz : val (bigL (val xs + val ys)) = val xs + val ys := (bigL_spec (by omega)).2.1
      refine ⟨gz, ?_⟩
      rw [lessF, gz, gy, vz]
      simp only [Bool.and_self, if_true]
      rw [if_neg (by omega), show val xs + val ys - val ys = val xs by omega, tellF_good x1, xe]
    · rw [tellF, if_neg hs] at h; simp at h
  · simp at h

theorem div_back {xs ys qs rs : List Int} (h : divF xs ys = (qs, rs, true)) : ∃ ps, timesF qs ys = (ps, true) ∧ addF ps rs = (xs, true) ∧ cmpF rs ys = (-1, true) := by
  unfold divF at h
  split at h
  · rename_i hg
    obtain ⟨gx, gy⟩ : goodB xs = true ∧ goodB ys = true := by simpa using hg
    obtain ⟨x0, x1, xe⟩ := good_val gx
    obtain ⟨y0, y1, ye⟩ := good_val gy
    split at h
    · simp at h
    · rename_i hl
      simp only [Prod.mk.injEq, and_true] at h
      obtain ⟨rfl, rfl⟩ := h
      have hy : 0 < val ys := by
        rcases Int.lt_or_eq_of_le y0 with h | h
        · exact h
        · exfalso
          rw [← h] at ye
          have : bigL 0 = [] := rfl
          rw [this] at ye
          exact hl (by rw [← ye]; rfl)
      have q0 : 0 ≤ val xs / val ys := Int.ediv_nonneg x0 y0
      have r0 : 0 ≤ val xs % val ys := Int.emod_nonneg _ (by omega)
      have r1 : val xs % val ys < val ys := Int.emod_lt_of_pos _ hy
      have e : val ys * (val xs / val ys) + val xs % val ys = val xs := Int.mul_ediv_add_emod _ _
      have qm : 0 ≤ val ys * (val xs / val ys) := Int.mul_nonneg y0 q0
      have q1 : val xs / val ys ≤ val xs := Int.ediv_le_self _ x0
      rw [Int.mul_comm] at e qm
      have gq := goodB_bigL q0 (by omega)
      have gr := goodB_bigL r0 (by omega)
      have gp := goodB_bigL qm (by omega)
      have vq := (bigL_spec q0).2.1
      have vr := (bigL_spec r0).2.1
      have vp := (bigL_spec qm).2.1
      refine ⟨bigL (val xs / val ys * val ys), ?_, ?_, ?_⟩
      · rw [timesF, gq, gy, vq]
        simp only [Bool.and_self, if_true]
        rw [tellF_good (by omega)]
      · rw [addF, gp, gr, vp, vr]
        simp only [Bool.and_self, if_true]
        rw [e, tellF_good x1, xe]
      · rw [cmpF, gr, gy, vr, cmpI, if_pos r1]; simp
  · simp at h

theorem shift_back {xs zs : List Int} {b : Int} (h : shiftF xs b = (zs, true)) (hb : 0 ≤ b) : shiftF zs (-b) = (xs, true) := by
  unfold shiftF at h
  split at h
  · rename_i hg
    obtain ⟨gx, h1, h2⟩ : goodB xs = true ∧ -96 ≤ b ∧ b ≤ 96 := by simpa using hg
    obtain ⟨x0, x1, xe⟩ := good_val gx
    rw [shV, if_pos hb] at h
    have pw : (0 : Int) < 2 ^ b.toNat := Int.pow_pos (by omega)
    have s0 : 0 ≤ val xs * 2 ^ b.toNat := Int.mul_nonneg x0 (by omega)
    by_cases hs : val xs * 2 ^ b.toNat < 79228162514264337593543950336
    · rw [tellF_good hs] at h
      simp only [Prod.mk.injEq, and_true] at h
      subst h
      have gz := goodB_bigL s0 hs
      have vz := (bigL_spec s0).2.1
      have hd : (-96 ≤ -b ∧ -b ≤ 96) := by omega
      rw [shiftF, gz, vz]
      simp only [hd, and_self, decide_true, Bool.and_self, if_true]
      have e : shV (val xs * 2 ^ b.toNat) (-b) = val xs := by
        by_cases h0 : b = 0
        · subst h0; simp [shV]
        · rw [shV, if_neg (by omega), show -(-b) = b by omega]
          exact Int.mul_ediv_cancel _ (by omega)
      rw [e, tellF_good x1, xe]
    · rw [tellF, if_neg hs] at h; simp at h
  · simp at h

end Go.Proofs.YtcklmgifboceaaaDoor
