/- What FnHalves asks of the plain numbers: halves make the same product, products turn round, what was reduced comes back. -/
import Derived.Test.YtaedplfihjfchaaImplHalfh
import Derived.Test.YtaedplfihjfchaaSpecRedh
import Derived.Test.YtaedplfihjfchaaSpecShifth
import Derived.Test.YtaedplfihjfchaaSpecDivBh
namespace Go.Proofs.Ytaedplfihjfchaa
set_option linter.unusedVariables false
set_option maxRecDepth 1000000
set_option linter.unusedSimpArgs false
open Go.RowKit

theorem goodB_bigL {n : Int} (h0 : 0 ≤ n) (h1 : n < 79228162514264337593543950336) : goodB (bigL n) = true := by
  obtain ⟨d, _, t⟩ := bigL_spec h0
  exact (goodB_iff _).2 ⟨(bigL_length h0).2 h1, d, (trim_last _).1 t⟩

theorem half_times {xs ys zs : List Int} (h : halfF xs ys = (zs, true)) : timesF xs ys = (zs, true) := by
  unfold halfF at h
  split at h
  · rename_i hg
    split at h
    · simp at h
    · rw [timesF, hg, if_pos rfl]; exact h
  · simp at h

theorem times_turn (xs ys : List Int) : timesF xs ys = timesF ys xs := by
  unfold timesF
  rw [Bool.and_comm, Int.mul_comm]

theorem red_back {xs ms rs : List Int} (h : redF xs ms = (rs, true)) : ∃ ts q1 us q2, shiftF rs 16 = (ts, true) ∧ divF ts ms = (q1, us, true) ∧ divF xs ms = (q2, us, true) ∧ cmpF rs ms = (-1, true) := by
  unfold redF at h
  split at h
  · rename_i hg
    split at h
    · rename_i hk
      simp only [Prod.mk.injEq, and_true] at h
      obtain ⟨gx, gm⟩ : goodB xs = true ∧ goodB ms = true := by simpa using hg
      obtain ⟨k1, k2, k3, k4⟩ := hk
      obtain ⟨p, rfl⟩ := List.length_eq_one_iff.1 k1
      have e0 : [p].getD 0 0 = p := rfl
      rw [e0] at k2 k3 k4 h
      have pd := (goodB_digs gm).2.1 p (by simp)
      have hp : 0 < p := by omega
      have vm : val [p] = p := by simp [val]
      have r := redS_bd (A := val xs) hp 16
      obtain ⟨z, hz⟩ := redS_mul (A := val xs) k2 16
      generalize redS p (val xs) 16 = R at h r hz
      subst h
      have e16 : (2 : Int) ^ 16 = 65536 := by decide
      rw [e16] at hz
      have gr : goodB (bigL R) = true := goodB_bigL r.1 (by omega)
      have vr : val (bigL R) = R := (bigL_spec r.1).2.1
      have t0 : 0 ≤ R * 65536 := by omega
      have t1 : R * 65536 < 79228162514264337593543950336 := by omega
      have gt : goodB (bigL (R * 65536)) = true := goodB_bigL t0 t1
      have vt : val (bigL (R * 65536)) = R * 65536 := (bigL_spec t0).2.1
      have em : R * 65536 % p = val xs % p := by
        have e : R * 65536 = val xs + p * z := by omega
        rw [e, Int.add_mul_emod_self_left]
      have es : shV (val (bigL R)) 16 = R * 65536 := by
        rw [vr, shV, if_pos (by omega)]
        show R * (2 : Int) ^ 16 = _
        rw [e16]
      refine ⟨bigL (R * 65536), bigL (R * 65536 / p), bigL (val xs % p), bigL (val xs / p), ?_, ?_, ?_, ?_⟩
      · rw [shiftF, gr, es, tellF_good t1]; simp
      · rw [divF, gt, gm, vt, vm, em]; simp
      · rw [divF, gx, gm, vm]; simp
      · rw [cmpF, gr, gm, vr, vm, cmpI, if_pos r.2]; simp
    · simp at h
  · simp at h

end Go.Proofs.Ytaedplfihjfchaa
