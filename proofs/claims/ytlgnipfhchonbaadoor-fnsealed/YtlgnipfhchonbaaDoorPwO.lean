/- Plain facts on sealed numbers: what is sealed is opened as it was; products; sealed once more. -/
import Derived.Test.YtlgnipfhchonbaaDoorPwM
import Derived.Test.YtlgnipfhchonbaaDoorNumber
namespace Go.Proofs.YtlgnipfhchonbaaDoor
set_option linter.unusedVariables false
set_option linter.unusedSimpArgs false

theorem pw_mul (a b : Int) (k : Nat) : pw (a * b % 2999) k = pw a k * pw b k % 2999 := by
  unfold pw
  rw [emod_pow, Int.mul_pow, Int.mul_emod]

theorem mem_mul {a b : Int} (ha : memB a = true) (hb : memB b = true) : memB (a * b % 2999) = true := by
  have h1 : pw a 1499 = 1 := by simp only [memB, Bool.and_eq_true, beq_iff_eq] at ha; exact ha.2
  have h2 : pw b 1499 = 1 := by simp only [memB, Bool.and_eq_true, beq_iff_eq] at hb; exact hb.2
  exact mem_of_pow (Int.emod_nonneg _ (by omega)) (Int.emod_lt_of_pos _ (by omega)) (by rw [pw_mul, h1, h2]; rfl)

/-- (A, B) is m, sealed for the secret s. -/
structure Opens (s : Nat) (A B m : Int) : Prop where
  ma : memB A = true
  mb : memB B = true
  m0 : 0 ≤ m
  m1 : m < 2999
  eq : B = m * pw A s % 2999

theorem opens_open {s : Nat} {A B m : Int} (h : Opens s A B m) : B * pw (pw A s) 2997 % 2999 = m := by
  have hk := memB_in (mem_pw h.ma s)
  have hi := pw_inv hk.1 hk.2
  have h0 := h.m0
  have h1 := h.m1
  rw [h.eq]
  generalize pw A s = K at hi
  generalize pw K 2997 = J at hi
  rw [Int.mul_emod, Int.emod_emod, ← Int.mul_emod, Int.mul_assoc, Int.mul_emod, hi]
  omega

theorem opens_mul {s : Nat} {A B m A' B' m' : Int} (h : Opens s A B m) (h' : Opens s A' B' m') : Opens s (A * A' % 2999) (B * B' % 2999) (m * m' % 2999) := by
  refine ⟨mem_mul h.ma h'.ma, mem_mul h.mb h'.mb, Int.emod_nonneg _ (by omega), Int.emod_lt_of_pos _ (by omega), ?_⟩
  rw [pw_mul, h.eq, h'.eq]
  generalize pw A s = K
  generalize pw A' s = K'
  have e : (m * K) * (m' * K') = (m * m') * (K * K') := by
    rw [Int.mul_assoc, Int.mul_assoc]
    congr 1
    rw [← Int.mul_assoc, Int.mul_comm K m', Int.mul_assoc]
  rw [← Int.mul_emod, e, Int.mul_emod]

/-- One, sealed by t. -/
theorem opens_one (s t : Nat) : Opens s (pw 4 t) (pw (pw 4 s) t) 1 := by
  refine ⟨mem_pw4 t, mem_pw (mem_pw4 s) t, by omega, by omega, ?_⟩
  rw [Int.one_mul, pw_comm 4 s t]
  exact (Int.emod_eq_of_lt (pw_lo _ _) (pw_hi _ _)).symm

theorem opens_again {s : Nat} {A B m : Int} (h : Opens s A B m) (t : Nat) : Opens s (A * pw 4 t % 2999) (B * pw (pw 4 s) t % 2999) m := by
  have h2 := opens_mul h (opens_one s t)
  have e : m * 1 % 2999 = m := by have := h.m0; have := h.m1; omega
  rw [e] at h2
  exact h2

/-- A number that was sealed. -/
theorem opens_new {s : Nat} {m : Int} (hm : memB m = true) (t : Nat) : Opens s (1 * pw 4 t % 2999) (m * pw (pw 4 s) t % 2999) m := by
  have hr := memB_in hm
  have h : Opens s 1 m m := ⟨memB_one, hm, by omega, by omega, by rw [pw_one]; omega⟩
  exact opens_again h t

theorem opens_openB {s : Nat} {A B m : Int} (h : Opens s A B m) (hs : 1 ≤ s ∧ s ≤ 1498) : openB s A B = true := by
  simp only [openB, sealB, h.ma, h.mb, Bool.and_self, Bool.and_true, decide_eq_true_eq]
  omega

end Go.Proofs.YtlgnipfhchonbaaDoor
