/- What FnHalves asks of the plain numbers: halves make the same product, products turn round, what was reduced comes back. -/
import Derived.Test.YtaedplfihjfchaaDoorImplHalfl
import Derived.Test.YtaedplfihjfchaaDoorSpecRedl
import Derived.Test.YtaedplfihjfchaaDoorSpecShiftl
import Derived.Test.YtaedplfihjfchaaDoorSpecDivBl
namespace Go.Proofs.YtaedplfihjfchaaDoor
set_option linter.unusedVariables false
set_option maxRecDepth 1000000
set_option linter.unusedSimpArgs false
open Go.RowKit

theorem goodB_bigL {n : Int} (h0 : 0 ≤ n) (h1 : n < 79228162514264337593543950336) : goodB (bigL n) = true := by
  obtain ⟨d, _, t⟩ := bigL_spec h0
  exact (goodB_iff _).2 ⟨(bigL_length h0).2 h1, d, (trim_last _).1 t⟩

theorem half_times {xs ys zs : List Int} (h : halfF xs ys = (zs, true)) : timesF xs ys = (zs, true) := by
  unfold halfF at h
  split at h
  · rename_i hg
    split at h
    · simp at h
    · rw [timesF, hg, if_pos rfl]; exact h
  · simp at h

theorem times_turn (xs ys : List Int) : timesF xs ys = timesF ys xs := by
  unfold timesF
  rw [Bool.and_comm, Int.mul_comm]

theorem red_back {xs ms rs : List Int} (h : redF xs ms = (rs, true)) : ∃ ts q1 us q2, shiftF rs 16 = (ts, true) ∧ divF ts ms = (q1, us, true) ∧ divF xs ms = (q2, us, true) ∧ cmpF rs ms = (-1, true) := by
  unfold redF at h
  split at h
  · rename_i hg
    split at h
    · rename_i hk
      simp only [Prod.mk.injEq, and_true] at h
      obtain ⟨gx, gm⟩ : goodB xs = true ∧ goodB ms = true := by simpa using hg
      obtain ⟨k1, k2, k3, k4⟩ := hk
      obtain ⟨p, rfl⟩ := List.length_eq_one_iff.1 k1
      have e0 : [p].getD 0 0 = p := rfl
      rw [e0] at k2 k3 k4 h
      have pd := (goodB_digs gm).2.1 p (by simp)
      have hp : 0 < p := by omega
      have vm : val [p] = p := by simp [val]
      have r := redS_bd (A := val xs) hp 16
      obtain ⟨z, hz⟩ := redS_mul (A := val xs) k2 16
      generalize redS p (val xs) 16 = R at h r hz
      subst h
      have e16 : (2 : Int) ^ 16 = 65536 := by decide
      rw [e16] at hz
      have gr : goodB (bigL R) = true := goodB_bigL r.1 (by omega)
      have vr : val (bigL R) = R := (bigL_spec r.1).2.1
      have t0 : 0 ≤ R * 65536 := by omega
      have t1 : R * 65536 < 79228162514264337593543950336 := by omega
      have gt : goodB (bigL (R * 65536)) = true := goodB_bigL t0 t1
      have vt : val (bigL (R * 65536)) = R * 65536 := (bigL_spec t0).2.1
      have em : R * 65536 % p = val xs % p := by
        have e : R * 65536 = val xs + p * z := by omega
        rw [e, Int.add_mul_emod_self_left]
      have es : shV (val (bigL R)) 16 = R * 65536 := by
        rw [vr, shV, if_pos (by omega)]
        show R * (2 : Int) ^ 16 = _
        rw [e16]
      refine ⟨bigL (R * 65536), bigL (R * 65536 / p), bigL (val xs % p), bigL (val xs / p), ?_, ?_, ?_, ?_⟩
      · rw [shiftF, gr, es, tellF_good t1]; simp
      · rw [divF, gt, gm, vt, vm, em]; simp
      · rw [divF, gx, gm, vm]; simp
      · rw [cmpF, gr, gm, vr, vm, cmpI, if_pos r.2]; simp
    · simp at h
  · simp at h

end Go.Proofs.YtaedplfihjfchaaDoor
namespace Go.Proofs.YtaedplfihjfchaaDoor
set_option linter.unusedVariables false
set_option maxRecDepth 1000000
set_option linter.unusedSimpArgs false
open Go.RowKit

theorem good_val {xs : List Int} (h : goodB xs = true) : 0 ≤ val xs ∧ val xs < 79228162514264337593543950336 ∧ bigL (val xs) = xs := by
  obtain ⟨l, d, t⟩ := goodB_digs h
  exact ⟨val_nonneg d, val_lt6 d l, (eq_bigL d t).symm⟩

theorem add_back {xs ys zs : List Int} (h : addF xs ys = (zs, true)) : goodB zs = true ∧ lessF zs ys = (xs, true) := by
  unfold addF at h
  split at h
  · rename_i hg
    obtain ⟨gx, gy⟩ : goodB xs = true ∧ goodB ys = true := by simpa using hg
    obtain ⟨x0, x1, xe⟩ := good_val gx
    obtain ⟨y0, y1, ye⟩ := good_val gy
    by_cases hs : val xs + val ys < 79228162514264337593543950336
    · rw [tellF_good hs] at h
      simp only [Prod.mk.injEq, and_true] at h
      subst h
      have gz := goodB_bigL (n := val xs + val ys) (by omega) hs
      have vz : val (bigL (val xs + val ys)) = val xs + val ys := (bigL_spec (by omega)).2.1
      refine ⟨gz, ?_⟩
      rw [lessF, gz, gy, vz]
      simp only [Bool.and_self, if_true]
      rw [if_neg (by omega), show val xs + val ys - val ys = val xs by omega, tellF_good x1, xe]
    · rw [tellF, if_neg hs] at h; simp at h
  · simp at h

theorem div_back {xs ys qs rs : List Int} (h : divF xs ys = (qs, rs, true)) : ∃ ps, timesF qs ys = (ps, true) ∧ addF ps rs = (xs, true) ∧ cmpF rs ys = (-1, true) := by
  unfold divF at h
  split at h
  · rename_i hg
    obtain ⟨gx, gy⟩ : goodB xs = true ∧ goodB ys = true := by simpa using hg
    obtain ⟨x0, x1, xe⟩ := good_val gx
    obtain ⟨y0, y1, ye⟩ := good_val gy
    split at h
    · simp at h
    · rename_i hl
      simp only [Prod.mk.injEq, and_true] at h
      obtain ⟨rfl, rfl⟩ := h
      have hy : 0 < val ys := by
        rcases Int.lt_or_eq_of_le y0 with h | h
        · exact h
        · exfalso
          rw [← h] at ye
          have : bigL 0 = [] := rfl
          rw [this] at ye
          exact hl (by rw [← ye]; rfl)
      have q0 : 0 ≤ val xs / val ys := Int.ediv_nonneg x0 y0
      have r0 : 0 ≤ val xs % val ys := Int.emod_nonneg _ (by omega)
      have r1 : val xs % val ys < val ys := Int.emod_lt_of_pos _ hy
      have e : val ys * (val xs / val ys) + val xs % val ys = val xs := Int.mul_ediv_add_emod _ _
      have qm : 0 ≤ val ys * (val xs / val ys) := Int.mul_nonneg y0 q0
      have q1 : val xs / val ys ≤ val xs := Int.ediv_le_self _ x0
      rw [Int.mul_comm] at e qm
      have gq := goodB_bigL q0 (by omega)
      have gr := goodB_bigL r0 (by omega)
      have gp := goodB_bigL qm (by omega)
      have vq := (bigL_spec q0).2.1
      have vr := (bigL_spec r0).2.1
      have vp := (bigL_spec qm).2.1
      refine ⟨bigL (val xs / val ys * val ys), ?_, ?_, ?_⟩
      · rw [timesF, gq, gy, vq]
        simp only [Bool.and_self, if_true]
        rw [tellF_good (by omega)]
      · rw [addF, gp, gr, vp, vr]
        simp only [Bool.and_self, if_true]
        rw [e, tellF_good x1, xe]
      · rw [cmpF, gr, gy, vr, cmpI, if_pos r1]; simp
  · simp at h

theorem shift_back {xs zs : List Int} {b : Int} (h : shiftF xs b = (zs, true)) (hb : 0 ≤ b) : shiftF zs (-b) = (xs, true) := by
  unfold shiftF at h
  split at h
  · rename_i hg
    obtain ⟨gx, h1, h2⟩ : goodB xs = true ∧ -96 ≤ b ∧ b ≤ 96 := by simpa using hg
    obtain ⟨x0, x1, xe⟩ := good_val gx
    rw [shV, if_pos hb] at h
    have pw : (0 : Int) < 2 ^ b.toNat := Int.pow_pos (by omega)
    have s0 : 0 ≤ val xs * 2 ^ b.toNat := Int.mul_nonneg x0 (by omega)
    by_cases hs : val xs * 2 ^ b.toNat < 79228162514264337593543950336
    · rw [tellF_good hs] at h
      simp only [Prod.mk.injEq, and_true] at h
      subst h
      have gz := goodB_bigL s0 hs
      have vz := (bigL_spec s0).2.1
      have hd : (-96 ≤ -b ∧ -b ≤ 96) := by omega
      rw [shiftF, gz, vz]
      simp only [hd, and_self, decide_true, Bool.and_self, if_true]
      have e : shV (val xs * 2 ^ b.toNat) (-b) = val xs := by
        by_cases h0 : b = 0
        · subst h0; simp [shV]
        · rw [shV, if_neg (by omega), show -(-b) = b by omega]
          exact Int.mul_ediv_cancel _ (by omega)
      rw [e, tellF_good x1, xe]
    · rw [tellF, if_neg hs] at h; simp at h
  · simp at h

end Go.Proofs.YtaedplfihjfchaaDoor
