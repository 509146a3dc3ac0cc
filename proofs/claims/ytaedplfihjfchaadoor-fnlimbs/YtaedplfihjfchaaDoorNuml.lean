/- Plain facts on lists of limbs: their value, the canonical list of a number, sums, differences, products. No program is named here. -/
namespace Go.Proofs.YtaedplfihjfchaaDoor
set_option linter.unusedVariables false
set_option maxRecDepth 1000000
set_option linter.unusedSimpArgs false

/-- The number that limbs tell, the lowest first. -/
def val : List Int → Int
  | [] => 0
  | x :: xs => x + 65536 * val xs

def Digs (xs : List Int) : Prop := ∀ x ∈ xs, 0 ≤ x ∧ x < 65536

theorem digs_nil : Digs [] := by intro x h; simp at h
theorem digs_cons {x : Int} {xs : List Int} (h0 : 0 ≤ x) (h1 : x < 65536) (h : Digs xs) : Digs (x :: xs) := by
  intro y hy
  rcases List.mem_cons.1 hy with rfl | hy
  · exact ⟨h0, h1⟩
  · exact h y hy
theorem Digs.head {x : Int} {xs : List Int} (h : Digs (x :: xs)) : 0 ≤ x ∧ x < 65536 := h x (by simp)
theorem Digs.tail {x : Int} {xs : List Int} (h : Digs (x :: xs)) : Digs xs := fun y hy => h y (by simp [hy])
theorem Digs.append {xs ys : List Int} (h : Digs xs) (k : Digs ys) : Digs (xs ++ ys) := by
  intro x hx
  rcases List.mem_append.1 hx with hx | hx
  · exact h x hx
  · exact k x hx
theorem Digs.take {xs : List Int} (h : Digs xs) (n : Nat) : Digs (xs.take n) := fun x hx => h x (List.mem_of_mem_take hx)
theorem Digs.drop {xs : List Int} (h : Digs xs) (n : Nat) : Digs (xs.drop n) := fun x hx => h x (List.mem_of_mem_drop hx)
theorem Digs.getD {xs : List Int} (h : Digs xs) (j : Nat) : 0 ≤ xs.getD j 0 ∧ xs.getD j 0 < 65536 := by
  by_cases hj : j < xs.length
  · have := h (xs[j]) (List.getElem_mem hj)
    simpa [List.getD, hj] using this
  · simp [List.getD, List.getElem?_eq_none (by omega : xs.length ≤ j)]
theorem digs_replicate (n : Nat) : Digs (List.replicate n 0) := by
  intro x hx
  have := List.eq_of_mem_replicate hx
  omega

theorem val_nonneg : ∀ {xs : List Int}, Digs xs → 0 ≤ val xs
  | [], _ => by simp [val]
  | x :: xs, h => by
    have h1 := h.head
    have h2 := val_nonneg h.tail
    simp only [val]; omega

theorem val_replicate : ∀ n : Nat, val (List.replicate n 0) = 0
  | 0 => rfl
  | n + 1 => by simp [List.replicate_succ, val, val_replicate n]

theorem val_append_zeros : ∀ (xs : List Int) (n : Nat), val (xs ++ List.replicate n 0) = val xs
  | [], n => by simp [val, val_replicate]
  | x :: xs, n => by simp [val, val_append_zeros xs n]

/-- Limbs without noughts at the end. -/
def trim : List Int → List Int
  | [] => []
  | x :: xs => if trim xs = [] then (if x = 0 then [] else [x]) else x :: trim xs

theorem trim_val : ∀ xs : List Int, val (trim xs) = val xs
  | [] => rfl
  | x :: xs => by
    have ih := trim_val xs
    by_cases h : trim xs = []
    · rw [h] at ih
      by_cases hx : x = 0
      · simp [trim, h, hx, val, ← ih]
      · simp [trim, h, hx, val, ← ih]
    · simp [trim, h, val, ih]

theorem trim_digs : ∀ {xs : List Int}, Digs xs → Digs (trim xs)
  | [], _ => digs_nil
  | x :: xs, h => by
    have ih := trim_digs h.tail
    by_cases ht : trim xs = []
    · by_cases hx : x = 0
      · simp [trim, ht, hx, digs_nil]
      · simp only [trim, ht, hx, if_true, if_false]; exact digs_cons h.head.1 h.head.2 digs_nil
    · simp only [trim, ht, if_false]; exact digs_cons h.head.1 h.head.2 ih

theorem trim_trim : ∀ xs : List Int, trim (trim xs) = trim xs
  | [] => rfl
  | x :: xs => by
    have ih := trim_trim xs
    by_cases ht : trim xs = []
    · by_cases hx : x = 0
      · simp [trim, ht, hx]
      · simp [trim, ht, hx]
    · simp [trim, ht, ih]

theorem trim_take : ∀ xs : List Int, ∃ m, m ≤ xs.length ∧ trim xs = xs.take m
  | [] => ⟨0, by simp, rfl⟩
  | x :: xs => by
    obtain ⟨m, hm, ih⟩ := trim_take xs
    by_cases ht : trim xs = []
    · by_cases hx : x = 0
      · exact ⟨0, by simp, by simp [trim, ht, hx]⟩
      · exact ⟨1, by simp, by simp [trim, ht, hx]⟩
    · exact ⟨m + 1, by simp; omega, by rw [trim, if_neg ht, ih]; simp⟩

theorem trim_length (xs : List Int) : (trim xs).length ≤ xs.length := by
  obtain ⟨m, hm, h⟩ := trim_take xs
  rw [h]; simp; omega

theorem trim_last : ∀ xs : List Int, trim xs = xs ↔ xs.getLast? ≠ some 0
  | [] => by simp [trim]
  | [x] => by by_cases hx : x = 0 <;> simp [trim, hx]
  | x :: y :: xs => by
    have ih := trim_last (y :: xs)
    rw [List.getLast?_cons_cons, ← ih]
    by_cases ht : trim (y :: xs) = []
    · rw [ht]
      have : trim (x :: y :: xs) = if x = 0 then [] else [x] := by rw [trim, if_pos ht]
      rw [this]
      by_cases hx : x = 0 <;> simp [hx]
    · have : trim (x :: y :: xs) = x :: trim (y :: xs) := by rw [trim, if_neg ht]
      rw [this]; simp

/-- One nought at the end more or less. -/
theorem trim_snoc_zero : ∀ xs : List Int, trim (xs ++ [0]) = trim xs
  | [] => by simp [trim]
  | x :: xs => by
    have ih := trim_snoc_zero xs
    simp only [List.cons_append, trim, ih]

theorem trim_snoc_nz : ∀ (xs : List Int) (y : Int), y ≠ 0 → trim (xs ++ [y]) = xs ++ [y]
  | [], y, h => by simp [trim, h]
  | x :: xs, y, h => by
    have ih := trim_snoc_nz xs y h
    have hne : xs ++ [y] ≠ [] := by simp
    simp only [List.cons_append, trim, ih, if_neg hne]

theorem trim_zero : ∀ {xs : List Int}, Digs xs → val xs = 0 → trim xs = []
  | [], _, _ => rfl
  | x :: xs, h, hv => by
    have h1 := h.head
    have h2 := val_nonneg h.tail
    simp only [val] at hv
    have h3 : val xs = 0 := by omega
    have h4 : x = 0 := by omega
    simp [trim, trim_zero h.tail h3, h4]

theorem canon_tail {x : Int} {xs : List Int} (h : trim (x :: xs) = x :: xs) : trim xs = xs := by
  by_cases ht : trim xs = []
  · rw [trim, if_pos ht] at h
    by_cases hx : x = 0
    · simp [hx] at h
    · simp [hx] at h; rw [ht]; exact h.symm
  · rw [trim, if_neg ht] at h
    simpa using h

theorem canon_uniq : ∀ {xs ys : List Int}, Digs xs → Digs ys → trim xs = xs → trim ys = ys → val xs = val ys → xs = ys
  | [], ys, _, hy, _, cy, hv => by
    have := trim_zero hy (by rw [← hv]; rfl)
    rw [cy] at this; exact this.symm
  | x :: xs, [], hx, _, cx, _, hv => by
    have := trim_zero hx (by rw [hv]; rfl)
    rw [cx] at this; exact this
  | x :: xs, y :: ys, hx, hy, cx, cy, hv => by
    have h1 := hx.head
    have h2 := hy.head
    simp only [val] at hv
    have e1 : x = y := by omega
    have e2 : val xs = val ys := by omega
    rw [e1, canon_uniq hx.tail hy.tail (canon_tail cx) (canon_tail cy) e2]

/-- The limbs of a number, by fuel. -/
def digits : Nat → Int → List Int
  | 0, _ => []
  | f + 1, n => if n ≤ 0 then [] else (n % 65536) :: digits f (n / 65536)

theorem digits_spec : ∀ (f : Nat) (n : Int), 0 ≤ n → n.toNat ≤ f → Digs (digits f n) ∧ val (digits f n) = n ∧ trim (digits f n) = digits f n
  | 0, n, h0, hf => by
    have : n = 0 := by omega
    subst this
    exact ⟨digs_nil, rfl, rfl⟩
  | f + 1, n, h0, hf => by
    by_cases h : n ≤ 0
    · have : n = 0 := by omega
      subst this
      simp [digits, digs_nil, val, trim]
    · obtain ⟨i1, i2, i3⟩ := digits_spec f (n / 65536) (by omega) (by omega)
      simp only [digits, if_neg h]
      refine ⟨digs_cons (by omega) (by omega) i1, ?_, ?_⟩
      · simp only [val, i2]; omega
      · by_cases ht : digits f (n / 65536) = []
        · have hz : n / 65536 = 0 := by rw [← i2, ht]; rfl
          have : n % 65536 ≠ 0 := by omega
          simp [trim, ht, this]
        · simp [trim, i3, ht]

/-- The canonical limbs of a number from 0 on. -/
def bigL (n : Int) : List Int := digits n.toNat n

theorem bigL_spec {n : Int} (h : 0 ≤ n) : Digs (bigL n) ∧ val (bigL n) = n ∧ trim (bigL n) = bigL n := digits_spec _ n h (Nat.le_refl _)

theorem eq_bigL {xs : List Int} (h : Digs xs) (c : trim xs = xs) : xs = bigL (val xs) := by
  obtain ⟨h1, h2, h3⟩ := bigL_spec (val_nonneg h)
  exact canon_uniq h h1 c h3 h2.symm

theorem trim_bigL {xs : List Int} (h : Digs xs) : trim xs = bigL (val xs) := by
  rw [← trim_val xs]
  exact eq_bigL (trim_digs h) (trim_trim xs)

theorem val_lt6 {xs : List Int} (h : Digs xs) (hl : xs.length ≤ 6) : val xs < 79228162514264337593543950336 := by
  match xs, hl with
  | [], _ => simp [val]
  | [a], _ => have := h.head; simp [val]; omega
  | [a, b], _ => have := h.head; have := h.tail.head; simp [val]; omega
  | [a, b, c], _ => have := h.head; have := h.tail.head; have := h.tail.tail.head; simp [val]; omega
  | [a, b, c, d], _ => have := h.head; have := h.tail.head; have := h.tail.tail.head; have := h.tail.tail.tail.head; simp [val]; omega
  | [a, b, c, d, e], _ => have := h.head; have := h.tail.head; have := h.tail.tail.head; have := h.tail.tail.tail.head; have := h.tail.tail.tail.tail.head; simp [val]; omega
  | [a, b, c, d, e, f], _ => have := h.head; have := h.tail.head; have := h.tail.tail.head; have := h.tail.tail.tail.head; have := h.tail.tail.tail.tail.head; have := h.tail.tail.tail.tail.tail.head; simp [val]; omega
  | a :: b :: c :: d :: e :: f :: g :: r, hl => exact absurd hl (by simp)

theorem canon_pos {xs : List Int} (h : Digs xs) (c : trim xs = xs) (hne : xs ≠ []) : 0 < val xs := by
  have h0 := val_nonneg h
  by_cases hz : val xs = 0
  · have := trim_zero h hz
    rw [c] at this; exact absurd this hne
  · omega

theorem val_ge6 {xs : List Int} (h : Digs xs) (c : trim xs = xs) (hl : 6 < xs.length) : 79228162514264337593543950336 ≤ val xs := by
  match xs, hl with
  | [], hl => exact absurd hl (by simp)
  | [a], hl => exact absurd hl (by simp)
  | [a, b], hl => exact absurd hl (by simp)
  | [a, b, c], hl => exact absurd hl (by simp)
  | [a, b, c, d], hl => exact absurd hl (by simp)
  | [a, b, c, d, e], hl => exact absurd hl (by simp)
  | [a, b, c, d, e, f], hl => exact absurd hl (by simp)
  | a :: b :: c' :: d :: e :: f :: g :: r, _ =>
    have p := canon_pos h.tail.tail.tail.tail.tail.tail (canon_tail (canon_tail (canon_tail (canon_tail (canon_tail (canon_tail c)))))) (by simp)
    have := h.head; have := h.tail.head; have := h.tail.tail.head; have := h.tail.tail.tail.head; have := h.tail.tail.tail.tail.head; have := h.tail.tail.tail.tail.tail.head
    simp only [val] at p ⊢
    omega

theorem bigL_length {n : Int} (h : 0 ≤ n) : (bigL n).length ≤ 6 ↔ n < 79228162514264337593543950336 := by
  obtain ⟨h1, h2, h3⟩ := bigL_spec h
  constructor
  · intro hl
    have := val_lt6 h1 hl
    rwa [h2] at this
  · intro hn
    by_cases hl : (bigL n).length ≤ 6
    · exact hl
    · have := val_ge6 h1 h3 (by omega)
      rw [h2] at this
      omega

theorem digits_short : ∀ (f : Nat) (n : Int) (k : Nat), n < (65536 : Int) ^ k → (digits f n).length ≤ k
  | 0, n, k, _ => by simp [digits]
  | f + 1, n, k, h => by
    by_cases h0 : n ≤ 0
    · simp [digits, h0]
    · simp only [digits, if_neg h0, List.length_cons]
      match k, h with
      | 0, h => simp at h; omega
      | k + 1, h =>
        rw [Int.pow_succ] at h
        have := digits_short f (n / 65536) k (by omega)
        omega

theorem bigL_short {n : Int} (h0 : 0 ≤ n) (h : n < 79228162514264337593543950336 * 79228162514264337593543950336) : (bigL n).length ≤ 1000000000 := by
  have := digits_short n.toNat n 12 (by
    have e : (65536 : Int) ^ 12 = 79228162514264337593543950336 * 79228162514264337593543950336 := by decide
    rw [e]; exact h)
  unfold bigL
  omega

/-- What is told of a number: its limbs, where it is good. -/
def tellF (n : Int) : List Int × Bool := if n < 79228162514264337593543950336 then (bigL n, true) else ([], false)

/-- A sum limb by limb, with a carry: the limbs, and the carry behind the last. -/
def addC : List Int → List Int → Int → List Int × Int
  | x :: xs, y :: ys, c => (((x + y + c) % 65536) :: (addC xs ys ((x + y + c) / 65536)).1, (addC xs ys ((x + y + c) / 65536)).2)
  | _, _, c => ([], c)

theorem addC_spec : ∀ {xs ys : List Int} (c : Int), xs.length = ys.length → Digs xs → Digs ys → 0 ≤ c → c ≤ 1 → val ((addC xs ys c).1 ++ [(addC xs ys c).2]) = val xs + val ys + c ∧ Digs (addC xs ys c).1 ∧ (addC xs ys c).1.length = xs.length ∧ 0 ≤ (addC xs ys c).2 ∧ (addC xs ys c).2 ≤ 1
  | [], [], c, _, _, _, h0, h1 => by simp [addC, val, digs_nil]; omega
  | [], y :: ys, c, h, _, _, _, _ => by simp at h
  | x :: xs, [], c, h, _, _, _, _ => by simp at h
  | x :: xs, y :: ys, c, h, hx, hy, h0, h1 => by
    have a := hx.head
    have b := hy.head
    obtain ⟨i1, i2, i3, i4, i5⟩ := addC_spec (xs := xs) (ys := ys) ((x + y + c) / 65536) (by simpa using h) hx.tail hy.tail (by omega) (by omega)
    simp only [addC, List.cons_append, val, i1, List.length_cons, i3]
    refine ⟨by omega, digs_cons (by omega) (by omega) i2, ?_, i4, i5⟩ <;> simp

theorem val_snoc6 {xs : List Int} (h : xs.length = 6) (c : Int) : val (xs ++ [c]) = val xs + 79228162514264337593543950336 * c := by
  match xs, h with
  | [a0, a1, a2, a3, a4, a5], _ => simp [val]; omega

/-- -1, 0, 1 where the first number is less, alike, greater. -/
def cmpI (x y : Int) : Int := if x < y then -1 else if x = y then 0 else 1

theorem getD_cons_succ (x : Int) (xs : List Int) (j : Nat) : (x :: xs).getD (j + 1) 0 = xs.getD j 0 := by simp [List.getD]

theorem ext_getD {xs ys : List Int} (hl : xs.length = ys.length) (h : ∀ j, j < xs.length → xs.getD j 0 = ys.getD j 0) : xs = ys := by
  refine List.ext_getElem hl fun j h1 h2 => ?_
  have := h j h1
  simpa [List.getD, h1, h2] using this

theorem val_lt_of : ∀ {xs ys : List Int} (i : Nat), xs.length = ys.length → Digs xs → Digs ys → i < xs.length → (∀ j, i < j → xs.getD j 0 = ys.getD j 0) → xs.getD i 0 < ys.getD i 0 → val xs < val ys
  | [], _, i, _, _, _, hi, _, _ => by simp at hi
  | x :: xs, [], i, hl, _, _, _, _, _ => by simp at hl
  | x :: xs, y :: ys, 0, hl, hx, hy, _, hj, hlt => by
    have e : xs = ys := ext_getD (by simpa using hl) (fun j _ => by
      have := hj (j + 1) (by omega)
      rwa [getD_cons_succ, getD_cons_succ] at this)
    subst e
    simp [List.getD] at hlt
    simp only [val]; omega
  | x :: xs, y :: ys, i + 1, hl, hx, hy, hi, hj, hlt => by
    have h := val_lt_of (xs := xs) (ys := ys) i (by simpa using hl) hx.tail hy.tail (by simpa using hi) (fun j hij => by
      have := hj (j + 1) (by omega)
      rwa [getD_cons_succ, getD_cons_succ] at this) (by rwa [getD_cons_succ, getD_cons_succ] at hlt)
    have a := hx.head
    have b := hy.head
    simp only [val]; omega

theorem getD_append_zeros (xs : List Int) (n j : Nat) : (xs ++ List.replicate n 0).getD j 0 = xs.getD j 0 := by
  by_cases h : j < xs.length
  · simp [List.getD, List.getElem?_append_left h]
  · simp only [List.getD, List.getElem?_append_right (by omega : xs.length ≤ j), List.getElem?_eq_none (by omega : xs.length ≤ j), List.getElem?_replicate]
    split <;> rfl

theorem val_lt_len {xs ys : List Int} (hx : Digs xs) (hy : Digs ys) (c : trim ys = ys) (hl : xs.length < ys.length) : val xs < val ys := by
  have hlast := (trim_last ys).1 c
  have e1 : val (xs ++ List.replicate (ys.length - xs.length) 0) = val xs := val_append_zeros _ _
  rw [← e1]
  refine val_lt_of (ys.length - 1) (by simp; omega) (hx.append (digs_replicate _)) hy (by simp; omega) (fun j hj => ?_) ?_
  · rw [getD_append_zeros]
    simp [List.getD, List.getElem?_eq_none (by omega : xs.length ≤ j), List.getElem?_eq_none (by omega : ys.length ≤ j)]
  · rw [getD_append_zeros]
    have h0 : xs.getD (ys.length - 1) 0 = 0 := by simp [List.getD, List.getElem?_eq_none (by omega : xs.length ≤ ys.length - 1)]
    rw [h0]
    have hd := hy.getD (ys.length - 1)
    rw [List.getLast?_eq_getElem?, List.getElem?_eq_getElem (by omega : ys.length - 1 < ys.length)] at hlast
    have hne : ys.getD (ys.length - 1) 0 ≠ 0 := by
      intro e
      apply hlast
      simp only [List.getD, List.getElem?_eq_getElem (by omega : ys.length - 1 < ys.length), Option.getD_some] at e
      rw [e]
    omega

theorem cmpI_lt {x y : Int} (h : x < y) : cmpI x y = -1 := by simp [cmpI, h]
theorem cmpI_gt {x y : Int} (h : y < x) : cmpI x y = 1 := by
  unfold cmpI; rw [if_neg (by omega), if_neg (by omega)]
theorem cmpI_eq (x : Int) : cmpI x x = 0 := by simp [cmpI]

/-- Two last limbs made one. -/
theorem val_snoc2 : ∀ (l : List Int) (a b : Int), val (l ++ [a, b]) = val (l ++ [a + 65536 * b])
  | [], a, b => by simp [val]
  | x :: l, a, b => by simp only [List.cons_append, val, val_snoc2 l a b]

theorem val_snoc_zero (l : List Int) : val (l ++ [0]) = val l := val_append_zeros l 1

theorem val_drop {xs : List Int} {k : Nat} (h : k < xs.length) : val (xs.drop k) = xs.getD k 0 + 65536 * val (xs.drop (k + 1)) := by
  rw [List.drop_eq_getElem_cons h]
  simp only [val, List.getD, List.getElem?_eq_getElem h, Option.getD_some]

theorem val_drop' (xs : List Int) (k : Nat) : val (xs.drop k) = xs.getD k 0 + 65536 * val (xs.drop (k + 1)) := by
  by_cases h : k < xs.length
  · exact val_drop h
  · rw [List.drop_eq_nil_of_le (by omega), List.drop_eq_nil_of_le (by omega)]
    simp [val, List.getD, List.getElem?_eq_none (show xs.length ≤ k by omega)]

/-- One round of a sum: the limb that is written, and what is left to be added. -/
theorem add_round {xs ys out : List Int} {k : Nat} {cy : Int} {N : Int} (h : val (out ++ [val (xs.drop k) + val (ys.drop k) + cy]) = N) :
    val ((out ++ [(xs.getD k 0 + ys.getD k 0 + cy) % 65536]) ++ [val (xs.drop (k + 1)) + val (ys.drop (k + 1)) + (xs.getD k 0 + ys.getD k 0 + cy) / 65536]) = N := by
  rw [List.append_assoc, List.singleton_append, val_snoc2, ← h, val_drop' xs k, val_drop' ys k]
  generalize xs.getD k 0 = x
  generalize ys.getD k 0 = y
  generalize val (xs.drop (k + 1)) = X
  generalize val (ys.drop (k + 1)) = Y
  have e : (x + y + cy) % 65536 + 65536 * (X + Y + (x + y + cy) / 65536) = x + 65536 * X + (y + 65536 * Y) + cy := by omega
  rw [e]

/-- A difference limb by limb, with a borrow. -/
def subC : List Int → List Int → Int → List Int × Int
  | x :: xs, y :: ys, b => ((if x - y - b < 0 then x - y - b + 65536 else x - y - b) :: (subC xs ys (if x - y - b < 0 then 1 else 0)).1, (subC xs ys (if x - y - b < 0 then 1 else 0)).2)
  | _, _, b => ([], b)

theorem subC_spec : ∀ {xs ys : List Int} (b : Int), xs.length = ys.length → Digs xs → Digs ys → 0 ≤ b → b ≤ 1 → val ((subC xs ys b).1 ++ [-(subC xs ys b).2]) = val xs - val ys - b ∧ Digs (subC xs ys b).1 ∧ (subC xs ys b).1.length = xs.length ∧ 0 ≤ (subC xs ys b).2 ∧ (subC xs ys b).2 ≤ 1
  | [], [], b, _, _, _, h0, h1 => by simp [subC, val, digs_nil]; omega
  | [], y :: ys, b, h, _, _, _, _ => by simp at h
  | x :: xs, [], b, h, _, _, _, _ => by simp at h
  | x :: xs, y :: ys, b, h, hx, hy, h0, h1 => by
    have a := hx.head
    have c := hy.head
    by_cases hn : x - y - b < 0
    · obtain ⟨i1, i2, i3, i4, i5⟩ := subC_spec (xs := xs) (ys := ys) 1 (by simpa using h) hx.tail hy.tail (by omega) (by omega)
      simp only [subC, if_pos hn, List.cons_append, val, i1, List.length_cons, i3]
      refine ⟨by omega, digs_cons (by omega) (by omega) i2, ?_, i4, i5⟩ <;> simp
    · obtain ⟨i1, i2, i3, i4, i5⟩ := subC_spec (xs := xs) (ys := ys) 0 (by simpa using h) hx.tail hy.tail (by omega) (by omega)
      simp only [subC, if_neg hn, List.cons_append, val, i1, List.length_cons, i3]
      refine ⟨by omega, digs_cons (by omega) (by omega) i2, ?_, i4, i5⟩ <;> simp

theorem val_snoc_neg : ∀ {l : List Int} {t : Int}, Digs l → t < 0 → val (l ++ [t]) < 0
  | [], t, _, h => by simp [val]; omega
  | x :: l, t, hd, h => by
    have := val_snoc_neg hd.tail h
    have := hd.head
    simp only [List.cons_append, val]; omega

theorem sub_round {xs ys out : List Int} {k : Nat} {b r d b' : Int} {N : Int} (h : val (out ++ [val (xs.drop k) - val (ys.drop k) - b]) = N) (hr : xs.getD k 0 - ys.getD k 0 - b = r) (hd : d - 65536 * b' = r) :
    val ((out ++ [d]) ++ [val (xs.drop (k + 1)) - val (ys.drop (k + 1)) - b']) = N := by
  rw [List.append_assoc, List.singleton_append, val_snoc2, ← h, val_drop' xs k, val_drop' ys k]
  congr 3
  omega

end Go.Proofs.YtaedplfihjfchaaDoor
