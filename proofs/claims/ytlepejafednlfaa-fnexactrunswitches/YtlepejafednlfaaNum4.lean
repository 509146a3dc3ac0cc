/- Chapter 4: plain facts: bits of small numbers, the round, blocks forth and back. -/
import Derived.Test.YtlepejafednlfaaB3
namespace Go.Proofs.Ytlepejafednlfaa
set_option linter.unusedVariables false
set_option maxRecDepth 1000000
set_option linter.unusedSimpArgs false
open Go.RowKit

theorem i64_and255 (n : Int) : bits .and .i64 n 255 = n % 256 := by
  have h1 : (BitVec.ofInt 64 255).toNat = 2 ^ 8 - 1 := by decide
  have key : (BitVec.ofInt 64 n &&& BitVec.ofInt 64 255).toNat = (n % ((2 ^ 64 : Nat) : Int)).toNat % 2 ^ 8 := by
    rw [BitVec.toNat_and, BitVec.toNat_ofInt, h1, Nat.and_two_pow_sub_one_eq_mod]
  show IntKind.i64.wrap ((BitVec.ofInt 64 n &&& BitVec.ofInt 64 255).toNat : Nat) = n % 256
  rw [key, IntKind.wrap_i64]
  omega

theorem ofInt_small {a : Nat} (h : a < 65536) : (BitVec.ofInt 64 (a : Int)).toNat = a := by
  rw [BitVec.toNat_ofInt]; omega

theorem i64_xor {a b : Nat} (ha : a < 65536) (hb : b < 65536) : bits .xor .i64 (a : Int) (b : Int) = ((a ^^^ b : Nat) : Int) := by
  have hx : a ^^^ b < 2 ^ 16 := Nat.xor_lt_two_pow ha hb
  have key : (BitVec.ofInt 64 (a : Int) ^^^ BitVec.ofInt 64 (b : Int)).toNat = a ^^^ b := by
    rw [BitVec.toNat_xor, ofInt_small ha, ofInt_small hb]
  show IntKind.i64.wrap ((BitVec.ofInt 64 (a : Int) ^^^ BitVec.ofInt 64 (b : Int)).toNat : Nat) = _
  rw [key, IntKind.wrap_i64]
  omega

theorem i64_or {u l : Nat} (hu : u < 256) (hl : l < 256) : bits .or .i64 ((256 * u : Nat) : Int) (l : Int) = ((256 * u + l : Nat) : Int) := by
  have e : (256 * u) ||| l = 256 * u + l := by
    have := Nat.two_pow_add_eq_or_of_lt (i := 8) (b := l) hl u
    exact this.symm
  have key : (BitVec.ofInt 64 ((256 * u : Nat) : Int) ||| BitVec.ofInt 64 (l : Int)).toNat = 256 * u + l := by
    rw [BitVec.toNat_or, ofInt_small (by omega), ofInt_small (by omega), e]
  show IntKind.i64.wrap ((BitVec.ofInt 64 ((256 * u : Nat) : Int) ||| BitVec.ofInt 64 (l : Int)).toNat : Nat) = _
  rw [key, IntKind.wrap_i64]
  omega

/-- The round of a key over a half. -/
def rndN (k h : Nat) : Nat := ((h + k % 256) % 256 * ((h + k % 256) % 256) + (h + k % 256) % 256 * (k / 256) + 29) % 65521 % 256
theorem rndN_lt (k h : Nat) : rndN k h < 256 := Nat.mod_lt _ (by omega)

/-- One round forth, one round back. -/
def fwd (k : Nat) (b : Nat × Nat) : Nat × Nat := (b.2, b.1 ^^^ rndN k b.2)
def bwd (k : Nat) (b : Nat × Nat) : Nat × Nat := (b.2 ^^^ rndN k b.1, b.1)
def fwdL : List Nat → Nat × Nat → Nat × Nat
  | [], b => b
  | k :: r, b => fwdL r (fwd k b)
def bwdL : List Nat → Nat × Nat → Nat × Nat
  | [], b => b
  | k :: r, b => bwd k (bwdL r b)
def cutN (n : Nat) : Nat × Nat := (n / 256, n % 256)
def joinN (b : Nat × Nat) : Nat := 256 * b.1 + b.2
def small (b : Nat × Nat) : Prop := b.1 < 256 ∧ b.2 < 256
def mixN (ks : List Nat) (n : Nat) : Nat := joinN (fwdL ks (cutN n))
def unmixN (ks : List Nat) (n : Nat) : Nat := joinN (bwdL ks (cutN n))

theorem xor_lt256 {a b : Nat} (ha : a < 256) (hb : b < 256) : a ^^^ b < 256 := Nat.xor_lt_two_pow (n := 8) ha hb
theorem fwd_small {k : Nat} {b : Nat × Nat} (h : small b) : small (fwd k b) := ⟨h.2, xor_lt256 h.1 (rndN_lt _ _)⟩
theorem bwd_small {k : Nat} {b : Nat × Nat} (h : small b) : small (bwd k b) := ⟨xor_lt256 h.2 (rndN_lt _ _), h.1⟩
theorem fwdL_small : ∀ (ks : List Nat) (b : Nat × Nat), small b → small (fwdL ks b)
  | [], _, h => h
  | k :: r, b, h => fwdL_small r _ (fwd_small h)
theorem bwdL_small : ∀ (ks : List Nat) (b : Nat × Nat), small b → small (bwdL ks b)
  | [], _, h => h
  | k :: r, b, h => bwd_small (bwdL_small r _ h)
theorem bwd_fwd (k : Nat) (b : Nat × Nat) : bwd k (fwd k b) = b := by
  simp [bwd, fwd, Nat.xor_assoc, Nat.xor_self]
theorem fwd_bwd (k : Nat) (b : Nat × Nat) : fwd k (bwd k b) = b := by
  simp [bwd, fwd, Nat.xor_assoc, Nat.xor_self]
theorem bwdL_fwdL : ∀ (ks : List Nat) (b : Nat × Nat), bwdL ks (fwdL ks b) = b
  | [], _ => rfl
  | k :: r, b => by simp [fwdL, bwdL, bwdL_fwdL r, bwd_fwd]
theorem fwdL_bwdL : ∀ (ks : List Nat) (b : Nat × Nat), fwdL ks (bwdL ks b) = b
  | [], _ => rfl
  | k :: r, b => by simp [fwdL, bwdL, fwdL_bwdL r, fwd_bwd]
theorem cutN_small {n : Nat} (h : n < 65536) : small (cutN n) := ⟨by simp only [cutN]; omega, by simp only [cutN]; omega⟩
theorem joinN_lt {b : Nat × Nat} (h : small b) : joinN b < 65536 := by obtain ⟨h1, h2⟩ := h; unfold joinN; omega
theorem cut_join {b : Nat × Nat} (h : small b) : cutN (joinN b) = b := by
  obtain ⟨h1, h2⟩ := h
  obtain ⟨u, l⟩ := b
  simp only [cutN, joinN, Prod.mk.injEq] at *
  omega
theorem join_cut (n : Nat) : joinN (cutN n) = n := by simp only [cutN, joinN]; omega
theorem mixN_lt {ks : List Nat} {n : Nat} (h : n < 65536) : mixN ks n < 65536 := joinN_lt (fwdL_small _ _ (cutN_small h))
theorem unmixN_lt {ks : List Nat} {n : Nat} (h : n < 65536) : unmixN ks n < 65536 := joinN_lt (bwdL_small _ _ (cutN_small h))
theorem unmix_mix {ks : List Nat} {n : Nat} (h : n < 65536) : unmixN ks (mixN ks n) = n := by
  unfold unmixN mixN
  rw [cut_join (fwdL_small _ _ (cutN_small h)), bwdL_fwdL, join_cut]
theorem mix_unmix {ks : List Nat} {n : Nat} (h : n < 65536) : mixN ks (unmixN ks n) = n := by
  unfold unmixN mixN
  rw [cut_join (bwdL_small _ _ (cutN_small h)), fwdL_bwdL, join_cut]

theorem fwdL_app (k : Nat) : ∀ (ks : List Nat) (b : Nat × Nat), fwdL (ks ++ [k]) b = fwd k (fwdL ks b)
  | [], _ => rfl
  | j :: r, b => by simp [fwdL, fwdL_app k r]

end Go.Proofs.Ytlepejafednlfaa
