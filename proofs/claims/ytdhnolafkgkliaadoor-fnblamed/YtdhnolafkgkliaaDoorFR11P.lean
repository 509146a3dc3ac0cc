/- Chapter 11: plain facts of FnReceipts: another Sign is wrong. -/
import Derived.Test.YtdhnolafkgkliaaDoorP11
namespace Go.Proofs.YtdhnolafkgkliaaDoor
set_option linter.unusedVariables false
set_option maxRecDepth 1000000
set_option linter.unusedSimpArgs false

def noOne : Nat → Bool
  | 0 => true
  | k + 1 => (pw 4 (k + 1) != 1) && noOne k

theorem noOne_ok : noOne 1498 = true := by decide +kernel

theorem noOne_at : ∀ {K k : Nat}, noOne K = true → 1 ≤ k → k ≤ K → pw 4 k ≠ 1
  | 0, k, _, h1, h2 => by omega
  | K + 1, k, h, h1, h2 => by
    unfold noOne at h
    rw [Bool.and_eq_true] at h
    by_cases e : k = K + 1
    · rw [e]; simpa using h.1
    · exact noOne_at h.2 h1 (by omega)

/-- Root has the order SmallPrime: its powers below that are unlike. -/
theorem pw4_inj {a b : Nat} (ha : a < 1499) (hb : b < 1499) (h : pw 4 a = pw 4 b) : a = b := by
  rcases Nat.lt_trichotomy a b with hl | hl | hl
  · exfalso
    refine noOne_at noOne_ok (k := b + (1499 - a) - 1499) (by omega) (by omega) ?_
    have h1 : pw 4 (b + (1499 - a)) = 1 := by
      rw [← pw_add, ← h, pw_add, show a + (1499 - a) = 1499 by omega]; exact pw_root
    rw [← pw_mod, show (b + (1499 - a)) % 1499 = b + (1499 - a) - 1499 by omega] at h1
    exact h1
  · exact hl
  · exfalso
    refine noOne_at noOne_ok (k := a + (1499 - b) - 1499) (by omega) (by omega) ?_
    have h1 : pw 4 (a + (1499 - b)) = 1 := by
      rw [← pw_add, h, pw_add, show b + (1499 - b) = 1499 by omega]; exact pw_root
    rw [← pw_mod, show (a + (1499 - b)) % 1499 = a + (1499 - b) - 1499 by omega] at h1
    exact h1

/-- A sign that is another one is not right. -/
theorem sign_other {s f l z : Int} (hs : 0 ≤ s) (hz : 0 ≤ z ∧ z < 1498) : chkR (pw 4 s.toNat) (f, f + 1, l, (signN s f l + 1 + z) % 1499) = false := by
  have hb := signN_bd (s := s) (f := f) (l := l)
  have hc := sign_chk (s := s) (f := f) (l := l) hs
  unfold chkR signR at hc
  rw [beq_iff_eq] at hc
  unfold chkR
  rw [beq_eq_false_iff_ne]
  intro e
  have e2 : pw 4 ((signN s f l + 1 + z) % 1499).toNat = pw 4 (signN s f l).toNat := e.trans hc.symm
  have := pw4_inj (by omega) (by omega) e2
  omega

end Go.Proofs.YtdhnolafkgkliaaDoor
