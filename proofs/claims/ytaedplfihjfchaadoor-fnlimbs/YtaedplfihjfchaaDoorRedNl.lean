/- What is reduced, times the base, is the number (Montgomery): plain facts. -/
import Derived.Test.YtaedplfihjfchaaDoorNuml
namespace Go.Proofs.YtaedplfihjfchaaDoor
set_option linter.unusedVariables false
set_option maxRecDepth 1000000
set_option linter.unusedSimpArgs false

/-- A over the base, modulo p: halved so many times. -/
def redS (p A : Int) : Nat → Int
  | 0 => A % p
  | k + 1 => redS p A k * ((p + 1) / 2) % p

theorem redS_bd {p A : Int} (hp : 0 < p) : ∀ k, 0 ≤ redS p A k ∧ redS p A k < p
  | 0 => ⟨Int.emod_nonneg _ (by omega), Int.emod_lt_of_pos _ hp⟩
  | _ + 1 => ⟨Int.emod_nonneg _ (by omega), Int.emod_lt_of_pos _ hp⟩

theorem halve_step {p n : Int} (hodd : p % 2 = 1) : ∃ z, 2 * (n * ((p + 1) / 2) % p) = n + p * z := by
  have h2 : 2 * ((p + 1) / 2) = p + 1 := by omega
  generalize (p + 1) / 2 = h at h2
  have e := Int.emod_add_mul_ediv (n * h) p
  refine ⟨n - 2 * (n * h / p), ?_⟩
  generalize n * h / p = z at e
  have e3 : n * (2 * h) = n * p + n := by rw [h2, Int.mul_add, Int.mul_one]
  rw [Int.mul_left_comm] at e3
  rw [Int.mul_sub, Int.mul_left_comm p 2 z, Int.mul_comm p n]
  omega

theorem redS_mul {p A : Int} (hodd : p % 2 = 1) : ∀ k, ∃ z, 2 ^ k * redS p A k = A + p * z
  | 0 => ⟨-(A / p), by have := Int.emod_add_mul_ediv A p; simp only [redS, Int.mul_neg]; omega⟩
  | k + 1 => by
    obtain ⟨z, hz⟩ := redS_mul (p := p) (A := A) hodd k
    obtain ⟨y, hy⟩ := halve_step (n := redS p A k) hodd
    refine ⟨z + 2 ^ k * y, ?_⟩
    rw [redS, Int.pow_succ, Int.mul_assoc, hy, Int.mul_add, hz, Int.mul_add, Int.mul_left_comm]
    omega

theorem cancel2 {p d k : Int} (hodd : p % 2 = 1) (h : 2 * d = p * k) : ∃ j, d = p * j := by
  have hp : p = 2 * (p / 2) + 1 := by omega
  generalize p / 2 = u at hp
  subst hp
  rw [Int.add_mul, Int.one_mul, Int.mul_assoc] at h
  refine ⟨d - u * k, ?_⟩
  have : k = 2 * (d - u * k) := by omega
  rw [Int.add_mul, Int.one_mul, Int.mul_assoc]
  generalize d - u * k = j at this
  subst this
  rw [Int.mul_left_comm u 2 j] at h
  omega

theorem cancel16 {p d k : Int} (hodd : p % 2 = 1) (h : 65536 * d = p * k) : ∃ j, d = p * j := by
  obtain ⟨j1, h1⟩ := cancel2 (d := 32768 * d) (k := k) hodd (by omega)
  obtain ⟨j2, h2⟩ := cancel2 (d := 16384 * d) hodd (by rw [← h1]; omega)
  obtain ⟨j3, h3⟩ := cancel2 (d := 8192 * d) hodd (by rw [← h2]; omega)
  obtain ⟨j4, h4⟩ := cancel2 (d := 4096 * d) hodd (by rw [← h3]; omega)
  obtain ⟨j5, h5⟩ := cancel2 (d := 2048 * d) hodd (by rw [← h4]; omega)
  obtain ⟨j6, h6⟩ := cancel2 (d := 1024 * d) hodd (by rw [← h5]; omega)
  obtain ⟨j7, h7⟩ := cancel2 (d := 512 * d) hodd (by rw [← h6]; omega)
  obtain ⟨j8, h8⟩ := cancel2 (d := 256 * d) hodd (by rw [← h7]; omega)
  obtain ⟨j9, h9⟩ := cancel2 (d := 128 * d) hodd (by rw [← h8]; omega)
  obtain ⟨ja, ha⟩ := cancel2 (d := 64 * d) hodd (by rw [← h9]; omega)
  obtain ⟨jb, hb⟩ := cancel2 (d := 32 * d) hodd (by rw [← ha]; omega)
  obtain ⟨jc, hc⟩ := cancel2 (d := 16 * d) hodd (by rw [← hb]; omega)
  obtain ⟨jd, hd⟩ := cancel2 (d := 8 * d) hodd (by rw [← hc]; omega)
  obtain ⟨je, he⟩ := cancel2 (d := 4 * d) hodd (by rw [← hd]; omega)
  obtain ⟨jf, hf⟩ := cancel2 (d := 2 * d) hodd (by rw [← he]; omega)
  exact cancel2 hodd hf

theorem small_mult {p d j : Int} (hp : 0 < p) (h : d = p * j) (h0 : -p < d) (h1 : d < p) : d = 0 := by
  subst h
  have a : j < 1 := Int.lt_of_mul_lt_mul_left (a := p) (by omega) (by omega)
  have b : -1 < j := Int.lt_of_mul_lt_mul_left (a := p) (by omega) (by omega)
  obtain rfl : j = 0 := by omega
  simp

/-- One round of inverseInBase. -/
def invS (m x : Int) : Int := x * (65538 - m * x % 65536) % 65536
def invB (m : Int) : Int := invS m (invS m (invS m m))

theorem invS_bd (m x : Int) : 0 ≤ invS m x ∧ invS m x < 65536 := by unfold invS; omega

theorem invS_step {m x E : Int} (h : m * x = E) : ∃ s, m * invS m x = E * (2 - E) + 65536 * s := by
  unfold invS
  have e1 := Int.emod_add_mul_ediv (m * x) 65536
  rw [h] at e1 ⊢
  generalize E % 65536 = r at e1 ⊢
  generalize E / 65536 = j at e1
  have e2 := Int.emod_add_mul_ediv (x * (65538 - r)) 65536
  generalize x * (65538 - r) / 65536 = i at e2
  generalize hy : x * (65538 - r) % 65536 = y at e2 ⊢
  refine ⟨E + E * j - m * i, ?_⟩
  have e3 : m * (y + 65536 * i) = E * (65538 - r) := by rw [e2, ← Int.mul_assoc, h]
  have e4 : r = E - 65536 * j := by omega
  subst e4
  rw [Int.mul_add, Int.mul_left_comm] at e3
  rw [show E * (65538 - (E - 65536 * j)) = E * (2 - E) + 65536 * (E + E * j) by
    rw [show (65538 - (E - 65536 * j)) = (2 - E) + 65536 * (1 + j) by omega, Int.mul_add, Int.mul_left_comm, Int.mul_add, Int.mul_one]] at e3
  omega

theorem sq_step {K t : Int} : (1 + K * t) * (2 - (1 + K * t)) = 1 - K * K * (t * t) := by
  generalize h : K * t = a
  have : K * K * (t * t) = a * a := by subst h; rw [Int.mul_assoc, Int.mul_assoc, Int.mul_left_comm K t t]
  rw [this, show (2 - (1 + a)) = 1 - a by omega, Int.mul_sub, Int.mul_one, Int.add_mul, Int.one_mul]
  omega

theorem invB_mul {m : Int} (hodd : m % 2 = 1) : ∃ b, m * invB m = 1 + 65536 * b := by
  obtain ⟨t0, h0⟩ : ∃ t, m * m = 1 + 8 * t := by
    have hm : m = 2 * (m / 2) + 1 := by omega
    generalize m / 2 = u at hm
    subst hm
    have : ∃ v, u * (u + 1) = 2 * v := by
      rcases (by omega : u % 2 = 0 ∨ u % 2 = 1) with h | h
      · obtain ⟨a, rfl⟩ : ∃ a, u = 2 * a := ⟨u / 2, by omega⟩
        exact ⟨a * (2 * a + 1), by rw [Int.mul_assoc]⟩
      · obtain ⟨a, ha⟩ : ∃ a, u + 1 = 2 * a := ⟨(u + 1) / 2, by omega⟩
        exact ⟨u * a, by rw [ha, Int.mul_left_comm]⟩
    obtain ⟨v, hv⟩ := this
    refine ⟨v, ?_⟩
    rw [Int.mul_add, Int.mul_one] at hv
    rw [Int.mul_add, Int.mul_one, Int.add_mul, Int.one_mul, Int.mul_assoc, Int.mul_left_comm u 2 u]
    omega
  obtain ⟨s1, h1⟩ := invS_step h0
  rw [sq_step] at h1
  obtain ⟨t1, k1⟩ : ∃ t, m * invS m m = 1 + 64 * t := ⟨1024 * s1 - t0 * t0, by omega⟩
  obtain ⟨s2, h2⟩ := invS_step k1
  rw [sq_step] at h2
  obtain ⟨t2, k2⟩ : ∃ t, m * invS m (invS m m) = 1 + 4096 * t := ⟨16 * s2 - t1 * t1, by omega⟩
  obtain ⟨s3, h3⟩ := invS_step k2
  rw [sq_step] at h3
  exact ⟨s3 - 256 * (t2 * t2), by unfold invB; omega⟩

/-- What the program makes of a number of the two limbs r0, r1. -/
def redQ (p r0 : Int) : Int := r0 * invB p % 65536
def redT (p r0 r1 : Int) : Int := (r0 + r1 * 65536 - redQ p r0 * p).tdiv 65536

theorem red_same {p r0 r1 A : Int} (hodd : p % 2 = 1) (hp : 0 < p) (h0 : 0 ≤ r0) (h1 : r0 < 65536) (hA : r0 + r1 * 65536 = A) (hA0 : 0 ≤ A) (hA1 : A < 65536 * p) :
    -p < redT p r0 r1 ∧ redT p r0 r1 < p ∧ (if redT p r0 r1 < 0 then redT p r0 r1 + p else redT p r0 r1) = redS p A 16 := by
  obtain ⟨b, hb⟩ := invB_mul hodd
  obtain ⟨T, hT⟩ : ∃ T, r0 + r1 * 65536 - redQ p r0 * p = 65536 * T := by
    unfold redQ
    have e := Int.emod_add_mul_ediv (r0 * invB p) 65536
    generalize r0 * invB p / 65536 = a at e
    generalize hq : r0 * invB p % 65536 = q at e ⊢
    have e2 : (q + 65536 * a) * p = r0 + 65536 * (r0 * b) := by
      rw [e, Int.mul_assoc, Int.mul_comm (invB p) p, hb, Int.mul_add, Int.mul_one, Int.mul_left_comm]
    rw [Int.add_mul, Int.mul_assoc] at e2
    exact ⟨r1 - r0 * b + a * p, by omega⟩
  have hq : 0 ≤ redQ p r0 ∧ redQ p r0 < 65536 := by unfold redQ; omega
  have hq0 : 0 ≤ redQ p r0 * p := Int.mul_nonneg hq.1 (by omega)
  have hq1 : redQ p r0 * p ≤ 65535 * p := Int.mul_le_mul_of_nonneg_right (by omega) (by omega)
  have eT : redT p r0 r1 = T := by
    unfold redT
    rw [hT, Int.mul_comm, Int.mul_tdiv_cancel _ (by omega)]
  rw [eT]
  have b0 : -p < T := by omega
  have b1 : T < p := by omega
  refine ⟨b0, b1, ?_⟩
  obtain ⟨z, hz⟩ := redS_mul (p := p) (A := A) hodd 16
  have hbd := redS_bd (A := A) hp 16
  generalize redS p A 16 = R at hz hbd ⊢
  rw [show (2 : Int) ^ 16 = 65536 by decide] at hz
  generalize redQ p r0 = q at hT hq0 hq1 hq
  split
  · rename_i hneg
    obtain ⟨j, hj⟩ := cancel16 (d := T + p - R) (k := 65536 - q - z) hodd (by
      rw [Int.mul_sub p, Int.mul_sub p, Int.mul_comm p q]; omega)
    have := small_mult hp hj (by omega) (by omega)
    omega
  · rename_i hneg
    obtain ⟨j, hj⟩ := cancel16 (d := T - R) (k := -q - z) hodd (by
      rw [Int.mul_sub p, Int.mul_neg, Int.mul_comm p q]; omega)
    have := small_mult hp hj (by omega) (by omega)
    omega

end Go.Proofs.YtaedplfihjfchaaDoor
