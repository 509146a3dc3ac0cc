/- Chapter 7: plain facts: texts bit for bit unlike, checks, bodies, layers that are put on and peeled. -/
import Derived.WalkKit
import Derived.Laws.BytesArg
import Derived.Laws.IdiomStrings
import Derived.Laws.IdiomCopy
namespace Go.Proofs.Ytlepejafednlfaa
set_option linter.unusedVariables false
set_option maxRecDepth 1000000
set_option linter.unusedSimpArgs false
open Go.RowKit

abbrev Bs := List UInt8
/-- A text of bytes. -/
def tx (l : Bs) : ByteArray := ⟨l.toArray⟩
def bl (s : ByteArray) : Bs := s.data.toList
theorem bl_tx (l : Bs) : bl (tx l) = l := rfl
theorem tx_bl (s : ByteArray) : tx (bl s) = s := by unfold tx bl; simp
theorem tx_size (l : Bs) : (tx l).size = l.length := by simp [tx, ByteArray.size]
theorem bl_length (s : ByteArray) : (bl s).length = s.size := Array.length_toList
theorem tx_inj {a b : Bs} (h : tx a = tx b) : a = b := by have := congrArg bl h; exact this
theorem bl_inj {a b : ByteArray} (h : bl a = bl b) : a = b := by rw [← tx_bl a, ← tx_bl b, h]
def bN (l : Bs) (i : Nat) : Nat := (l.getD i 0).toNat
theorem bN_lt (l : Bs) (i : Nat) : bN l i < 256 := (l.getD i 0).toNat_lt
def zeros (n : Nat) : Bs := List.replicate n 0

/-- Bit for bit unlike. -/
def xorB (a b : Bs) : Bs := List.zipWith (· ^^^ ·) a b
theorem xorB_length {a b : Bs} (h : a.length = b.length) : (xorB a b).length = a.length := by simp [xorB, h]
theorem xorB_get {a b : Bs} (h : a.length = b.length) {i : Nat} (hi : i < a.length) : (xorB a b).getD i 0 = a.getD i 0 ^^^ b.getD i 0 := by
  have h2 : i < b.length := by omega
  rw [xorB, List.getD, List.getD, List.getD, List.getElem?_eq_getElem (by simp; omega), List.getElem?_eq_getElem hi, List.getElem?_eq_getElem h2]
  simp
theorem xor_byte (x y : UInt8) : x ^^^ y ^^^ y = x := by rw [UInt8.xor_assoc, UInt8.xor_self, UInt8.xor_zero]
theorem xorB_xorB : ∀ {a b : Bs}, a.length = b.length → xorB (xorB a b) b = a
  | [], [], _ => rfl
  | x :: a, y :: b, h => by
    have := xorB_xorB (a := a) (b := b) (by simpa using h)
    unfold xorB at this ⊢
    simp only [List.zipWith_cons_cons, this, xor_byte]
theorem xorB_take (a b : Bs) (n : Nat) : (xorB a b).take n = xorB (a.take n) (b.take n) := by unfold xorB; rw [List.take_zipWith]

/-- Sums of the bytes, each times its place and 1. -/
def wsum (l : Bs) : Nat → Nat
  | 0 => 0
  | k + 1 => wsum l k + bN l k * (k + 1)
theorem wsum_le (l : Bs) : ∀ k, k ≤ 40 → wsum l k ≤ 10455 * k
  | 0, _ => by simp [wsum]
  | k + 1, h => by
    have h1 := wsum_le l k (by omega)
    have h2 := bN_lt l k
    have h3 : bN l k * (k + 1) ≤ 255 * 41 := Nat.mul_le_mul (by omega) (by omega)
    rw [wsum]; omega
def chk (l : Bs) : Nat := wsum l l.length % 251
theorem chk_lt (l : Bs) : chk l < 251 := Nat.mod_lt _ (by omega)

/-- A body and what it is made up to. -/
def padB (b : Bs) : Bs := b ++ [128] ++ zeros (15 - b.length)
theorem padB_length {b : Bs} (h : b.length < 16) : (padB b).length = 16 := by simp [padB, zeros]; omega
/-- The last place that is not nought, or 0. -/
def lastP (l : Bs) : Nat → Nat
  | 0 => 0
  | n + 1 => if l.getD (n + 1) 0 = 0 then lastP l n else n + 1
theorem lastP_le (l : Bs) : ∀ n, lastP l n ≤ n
  | 0 => Nat.le_refl _
  | n + 1 => by rw [lastP]; split; · have := lastP_le l n; omega
                · exact Nat.le_refl _
theorem lastP_zero (l : Bs) : ∀ n j, lastP l n < j → j ≤ n → l.getD j 0 = 0
  | 0, j, h, h2 => by simp [lastP] at h; omega
  | n + 1, j, h, h2 => by
    rw [lastP] at h
    split at h
    · rename_i hz
      by_cases e : j = n + 1
      · rw [e]; exact hz
      · exact lastP_zero l n j h (by omega)
    · omega
theorem lastP_stop (l : Bs) (p : Nat) (hp : l.getD p 0 ≠ 0) : ∀ n, p ≤ n → (∀ j, p < j → j ≤ n → l.getD j 0 = 0) → lastP l n = p
  | 0, h, _ => by simp [lastP]; omega
  | n + 1, h, hz => by
    rw [lastP]
    by_cases e : p = n + 1
    · subst e; rw [if_neg hp]
    · rw [if_pos (hz (n + 1) (by omega) (Nat.le_refl _))]
      exact lastP_stop l p hp n (by omega) (fun j h1 h2 => hz j h1 (by omega))
/-- The text of which this is the body made up, where there is one. -/
def unpadB (l : Bs) : Option Bs := if l.length = 16 ∧ l.getD (lastP l 15) 0 = 128 then some (l.take (lastP l 15)) else none

theorem padB_get (b : Bs) (_h : b.length < 16) : (padB b).getD b.length 0 = 128 := by simp [padB, List.getD]
theorem padB_zero (b : Bs) (j : Nat) (hj : b.length < j) : (padB b).getD j 0 = 0 := by
  unfold padB
  rw [List.append_assoc, List.getD, List.getElem?_append_right (by omega)]
  obtain ⟨k, hk⟩ : ∃ k, j - b.length = k + 1 := ⟨j - b.length - 1, by omega⟩
  rw [hk]
  simp only [List.cons_append, List.nil_append, List.getElem?_cons_succ, zeros, List.getElem?_replicate]
  split <;> rfl
theorem unpad_pad (b : Bs) (h : b.length < 16) : unpadB (padB b) = some b := by
  have hl := lastP_stop (padB b) b.length (by rw [padB_get b h]; decide) 15 (by omega) (fun j h1 _ => padB_zero b j h1)
  unfold unpadB
  rw [hl, if_pos ⟨padB_length h, padB_get b h⟩]
  simp [padB]
theorem pad_unpad {l b : Bs} (h : unpadB l = some b) : b.length < 16 ∧ padB b = l := by
  unfold unpadB at h
  split at h
  · rename_i hc
    obtain ⟨h1, h2⟩ := hc
    have h3 := lastP_le l 15
    have hz := lastP_zero l 15
    generalize lastP l 15 = p at *
    obtain rfl : l.take p = b := by simpa using h
    have hp : (l.take p).length = p := by rw [List.length_take]; omega
    refine ⟨by omega, ?_⟩
    unfold padB
    rw [hp]
    refine List.ext_getElem (by simp [zeros]; omega) fun j g1 g2 => ?_
    by_cases e1 : j < p
    · rw [List.getElem_append_left (by simp; omega), List.getElem_append_left (by omega)]; simp
    · by_cases e2 : j = p
      · subst e2
        rw [List.getElem_append_left (by simp; omega), List.getElem_append_right (by omega)]
        simp [List.getD, g2] at h2 ⊢
        exact h2.symm
      · have := hz j (by omega) (by omega)
        simp [List.getD, g2] at this
        rw [List.getElem_append_right (by simp; omega), this]
        simp [zeros]
  · cases h

/-- One layer more, one less. -/
def putB (pad : Bs) (h : UInt8) (s : Bs) : Bs := xorB (h :: UInt8.ofNat (chk (s.take 16)) :: s.take 22) pad
structure Peel where
  next : Nat
  rest : Bs
  body : Bs
def peelB (pad : Bs) (s : Bs) : Option Peel :=
  let t := xorB s pad
  if 1 ≤ bN t 0 ∧ bN t 0 ≤ 250 ∧ bN t 1 = chk ((t.drop 2).take 16) then some ⟨bN t 0, t.drop 2 ++ [0, 0], (unpadB ((t.drop 2).take 16)).getD []⟩ else none
theorem putB_length {pad s : Bs} {h : UInt8} (hp : pad.length = 24) (hs : s.length = 24) : (putB pad h s).length = 24 := by
  unfold putB
  rw [xorB_length (by simp [hp, hs])]; simp [hs]

/-- What agrees with a layer as far as it goes is peeled as the layer. -/
theorem peel_put {pad s r : Bs} {h : UInt8} {m : Nat} (hp : pad.length = 24) (hs : s.length = 24) (hr : r.length = 24) (hm : 18 ≤ m) (hm2 : m ≤ 24) (ht : r.take m = (putB pad h s).take m) (h1 : 1 ≤ h.toNat) (h2 : h.toNat ≤ 250) :
    ∃ r', peelB pad r = some ⟨h.toNat, r', (unpadB (s.take 16)).getD []⟩ ∧ r'.length = 24 ∧ r'.take (m - 2) = s.take (m - 2) := by
  obtain ⟨t, ht0⟩ : ∃ t, t = xorB r pad := ⟨_, rfl⟩
  have htl : t.length = 24 := by rw [ht0, xorB_length (by rw [hr, hp])]; exact hr
  have hl : (h :: UInt8.ofNat (chk (s.take 16)) :: s.take 22).length = pad.length := by simp [hs, hp]
  have htm : t.take m = (h :: UInt8.ofNat (chk (s.take 16)) :: s.take 22).take m := by
    rw [ht0, xorB_take, ht, ← xorB_take]
    unfold putB
    rw [xorB_xorB hl]
  obtain ⟨k, rfl⟩ : ∃ k, m = k + 2 := ⟨m - 2, by omega⟩
  rw [List.take_succ_cons, List.take_succ_cons] at htm
  obtain ⟨t0, t1, u, rfl⟩ : ∃ t0 t1 u, t = t0 :: t1 :: u := by
    match t, htl with
    | t0 :: t1 :: u, _ => exact ⟨t0, t1, u, rfl⟩
  rw [List.take_succ_cons, List.take_succ_cons, List.cons.injEq, List.cons.injEq] at htm
  obtain ⟨rfl, rfl, hu⟩ := htm
  have hu22 : u.length = 22 := by simpa using htl
  have hu2 : u.take k = s.take k := by rw [hu, List.take_take]; congr 1; omega
  have hu16 : u.take 16 = s.take 16 := by
    have := congrArg (List.take 16) hu2
    rw [List.take_take, List.take_take, Nat.min_eq_left (by omega)] at this
    exact this
  refine ⟨u ++ [0, 0], ?_, by simp [hu22], ?_⟩
  · unfold peelB
    rw [← ht0]
    simp only [List.drop_succ_cons, List.drop_zero]
    have hc := chk_lt (s.take 16)
    have e0 : bN (t0 :: UInt8.ofNat (chk (s.take 16)) :: u) 0 = t0.toNat := rfl
    have e1 : bN (t0 :: UInt8.ofNat (chk (s.take 16)) :: u) 1 = chk (s.take 16) := by
      show (UInt8.ofNat (chk (s.take 16))).toNat = _
      rw [UInt8.toNat_ofNat']; omega
    rw [e0, e1, hu16, if_pos ⟨h1, h2, rfl⟩]
  · show (u ++ [0, 0]).take (k + 2 - 2) = s.take (k + 2 - 2)
    rw [show k + 2 - 2 = k by omega, List.take_append_of_le_length (by omega), hu2]

/-- Layers from the last hand back. -/
def buildB : List (Bs × UInt8) → Bs → Bs
  | [], b => padB b ++ zeros 8
  | (p, h) :: r, b => putB p h (buildB r b)
theorem buildB_length {b : Bs} (hb : b.length < 16) : ∀ (l : List (Bs × UInt8)), (∀ x ∈ l, x.1.length = 24) → (buildB l b).length = 24
  | [], _ => by simp [buildB, padB_length hb, zeros]
  | (p, h) :: r, hl => by
    rw [buildB]; exact putB_length (hl (p, h) (by simp)) (buildB_length hb r fun x hx => hl x (by simp [hx]))
/-- All layers peeled, one by one: the hops, and the last body. -/
def walkB : List Bs → List Nat × Bs × Bs → Option (List Nat × Bs × Bs)
  | [], st => some st
  | p :: r, (hs, s, _) => match peelB p s with
    | none => none
    | some q => walkB r (hs ++ [q.next], q.rest, q.body)
theorem walk_build {b : Bs} (hb : b.length < 16) : ∀ (l : List (Bs × UInt8)) (m : Nat) (r b0 : Bs) (hs : List Nat), (∀ x ∈ l, x.1.length = 24 ∧ 1 ≤ x.2.toNat ∧ x.2.toNat ≤ 250) → r.length = 24 → m ≤ 24 → 16 + 2 * l.length ≤ m → r.take m = (buildB l b).take m →
    (l = [] → b0 = b) → ∃ r', walkB (l.map (·.1)) (hs, r, b0) = some (hs ++ l.map (·.2.toNat), r', b)
  | [], m, r, b0, hs, _, _, _, _, _, h => ⟨r, by simp [walkB, h rfl]⟩
  | (p, h) :: rest, m, r, b0, hs, hl, hr, hm, hm2, ht, _ => by
    obtain ⟨hp, g1, g2⟩ := hl (p, h) (by simp)
    simp only [List.length_cons] at hm2
    have hbl := buildB_length hb rest (fun x hx => (hl x (by simp [hx])).1)
    rw [buildB] at ht
    obtain ⟨r', e1, e2, e3⟩ := peel_put hp hbl hr (by omega) hm ht g1 g2
    have hbody : rest = [] → (unpadB ((buildB rest b).take 16)).getD [] = b := by
      rintro rfl
      rw [buildB, List.take_append_of_le_length (by rw [padB_length hb]; exact Nat.le_refl _), List.take_of_length_le (by rw [padB_length hb]; exact Nat.le_refl _), unpad_pad b hb]
      rfl
    obtain ⟨r2, e4⟩ := walk_build hb rest (m - 2) r' _ (hs ++ [h.toNat]) (fun x hx => hl x (by simp [hx])) e2 (by omega) (by omega) e3 hbody
    refine ⟨r2, ?_⟩
    simp only [List.map_cons, walkB, e1]
    rw [e4]
    simp
end Go.Proofs.Ytlepejafednlfaa
