/- The field of the small prime, polynomials over it, and the polynomial through parts (Lagrange): plain facts. -/
import Derived.WalkKit
namespace Go.Proofs.Ytamppekadobagaa
set_option linter.unusedVariables false
set_option linter.unusedSimpArgs false

/-- The numbers modulo the small prime. -/
abbrev F := Fin 1499

/-- One divided by a number: its power 1497. -/
def pwF (a : F) : Nat → F
  | 0 => 1
  | k + 1 => pwF a k * a
def finv (a : F) : F := pwF a 1497

theorem pwF_mul (a b : F) : ∀ k, pwF (a * b) k = pwF a k * pwF b k
  | 0 => by simp [pwF]
  | k + 1 => by rw [pwF, pwF, pwF, pwF_mul a b k]; grind -lia
theorem finv_mul (a b : F) : finv (a * b) = finv a * finv b := pwF_mul a b _
theorem pwF_add (a : F) (j : Nat) : ∀ k, pwF a (j + k) = pwF a j * pwF a k
  | 0 => by rw [Nat.add_zero, pwF]; grind -lia
  | k + 1 => by rw [← Nat.add_assoc, pwF, pwF, pwF_add a j k]; grind -lia
theorem pwF_dbl (a : F) : ∀ k, pwF (a * a) k = pwF a (2 * k)
  | 0 => rfl
  | k + 1 => by rw [pwF, pwF_dbl a k, show 2 * (k + 1) = 2 * k + 1 + 1 by omega, pwF, pwF]; grind -lia

/-- Powers by squares, to be reckoned. -/
def pwN (a : Nat) : Nat → Nat → Nat → Nat
  | 0, _, r => r
  | f + 1, k, r => if k = 0 then r else pwN (a * a % 1499) f (k / 2) (if k % 2 = 1 then r * a % 1499 else r)
theorem pwN_val : ∀ (f : Nat) (a : F) (k : Nat) (r : F), k < 2 ^ f → pwN a.val f k r.val = (r * pwF a k).val
  | 0, a, k, r, h => by
    have : k = 0 := by omega
    subst this; rw [pwN, pwF, show r * 1 = r by grind -lia]
  | f + 1, a, k, r, h => by
    by_cases hk : k = 0
    · subst hk; rw [pwN, if_pos rfl, pwF, show r * 1 = r by grind -lia]
    · rw [pwN, if_neg hk]
      have e : a.val * a.val % 1499 = (a * a).val := (Fin.val_mul a a).symm
      have e2 : (if k % 2 = 1 then r.val * a.val % 1499 else r.val) = (if k % 2 = 1 then r * a else r).val := by
        split
        · exact (Fin.val_mul r a).symm
        · rfl
      rw [e, e2, pwN_val f (a * a) (k / 2) _ (by rw [Nat.pow_succ] at h; omega)]
      congr 1
      rw [pwF_dbl]
      by_cases h2 : k % 2 = 1
      · rw [if_pos h2]
        have : k = 2 * (k / 2) + 1 := by omega
        generalize k / 2 = m at *
        subst this
        rw [pwF]; grind -lia
      · rw [if_neg h2, show 2 * (k / 2) = k by omega]

theorem inv_all : ∀ a, a < 1499 → a = 0 ∨ a * pwN a 11 1497 1 % 1499 = 1 := by decide +kernel
theorem mul_finv (a : F) (h : a ≠ 0) : a * finv a = 1 := by
  have h1 := pwN_val 11 a 1497 1 (by omega)
  have e1 : (1 : F) * pwF a 1497 = finv a := by rw [finv]; grind -lia
  rw [e1] at h1
  rcases inv_all a.val a.isLt with h0 | h0
  · exact absurd (Fin.ext h0) h
  · apply Fin.ext
    rw [Fin.val_mul, ← h1]
    exact h0
theorem mul_zero_F {a b : F} (h : a * b = 0) (ha : a ≠ 0) : b = 0 := by
  have h1 := mul_finv a ha
  have : finv a * (a * b) = b := by grind -lia
  rw [h] at this
  grind -lia

/-- The value of a polynomial. -/
def evF (p : List F) (x : F) : F := p.foldr (fun c v => v * x + c) 0
theorem evF_nil (x : F) : evF [] x = 0 := rfl
theorem evF_cons (c : F) (p : List F) (x : F) : evF (c :: p) x = evF p x * x + c := rfl

/-- The values of all ends of a polynomial. -/
def tailsF (a : F) : List F → List F
  | [] => []
  | c :: p => evF (c :: p) a :: tailsF a p
theorem tailsF_length (a : F) : ∀ p, (tailsF a p).length = p.length
  | [] => rfl
  | c :: p => by simp [tailsF, tailsF_length a p]
theorem tailsF_ev (a x : F) : ∀ p, evF (tailsF a p) x * (x - a) = evF p x * x - evF p a * a
  | [] => by simp only [tailsF, evF_nil]; grind -lia
  | c :: p => by
    have h := tailsF_ev a x p
    rw [tailsF, evF_cons, evF_cons, evF_cons]
    grind -lia
theorem tailsF_zero (a : F) : ∀ p, (∀ c ∈ tailsF a p, c = 0) → ∀ c ∈ p, c = 0
  | [], _, c, hc => by cases hc
  | c :: p, h, d, hd => by
    have ih := tailsF_zero a p (fun e he => h e (by rw [tailsF]; exact List.mem_cons_of_mem _ he))
    rcases List.mem_cons.1 hd with rfl | hd
    · have h0 : evF (d :: p) a = 0 := h _ (by rw [tailsF]; exact List.mem_cons_self)
      have h1 : evF p a = 0 := by
        cases p with
        | nil => rfl
        | cons e q => exact h _ (by rw [tailsF, tailsF]; exact List.mem_cons_of_mem _ List.mem_cons_self)
      rw [evF_cons, h1] at h0
      grind -lia
    · exact ih d hd

/-- As many noughts as it has numbers: it is nought. -/
theorem roots : ∀ (xs : List F) (p : List F), xs.Nodup → p.length ≤ xs.length → (∀ x ∈ xs, evF p x = 0) → ∀ c ∈ p, c = 0
  | [], p, _, hl, _, c, hc => by
    have : p = [] := List.length_eq_zero_iff.1 (by simpa using hl)
    subst this; cases hc
  | a :: r, [], _, _, _, c, hc => by cases hc
  | a :: r, c0 :: p, hn, hl, hz, c, hc => by
    have ha := hz a List.mem_cons_self
    have hnr := (List.nodup_cons.1 hn)
    have hq : ∀ x ∈ r, evF (tailsF a p) x = 0 := fun x hx => by
      have h1 := tailsF_ev a x p
      have h2 := hz x (List.mem_cons_of_mem _ hx)
      rw [evF_cons] at h2 ha
      have hne : x - a ≠ 0 := fun e => hnr.1 (by have : x = a := by grind -lia
                                                 rw [← this]; exact hx)
      refine mul_zero_F (a := x - a) ?_ hne
      grind -lia
    have h0 := roots r (tailsF a p) hnr.2 (by rw [tailsF_length]; simpa using hl) hq
    have hp := tailsF_zero a p h0
    rcases List.mem_cons.1 hc with rfl | hc
    · have h1 : evF p a = 0 := by
        cases p with
        | nil => rfl
        | cons e q => exact h0 _ (by rw [tailsF]; exact List.mem_cons_self)
      rw [evF_cons, h1] at ha
      grind -lia
    · exact hp c hc

/-- The difference of two polynomials that are as long. -/
def subF (p q : List F) : List F := List.zipWith (· - ·) p q
theorem subF_ev (x : F) : ∀ p q : List F, p.length = q.length → evF (subF p q) x = evF p x - evF q x
  | [], [], _ => by simp only [subF, List.zipWith_nil_left, evF_nil]; grind -lia
  | a :: p, b :: q, h => by
    have ih := subF_ev x p q (by simpa using h)
    rw [show subF (a :: p) (b :: q) = (a - b) :: subF p q from rfl, evF_cons, evF_cons, evF_cons, ih]
    grind -lia
theorem subF_zero : ∀ p q : List F, p.length = q.length → (∀ c ∈ subF p q, c = 0) → p = q
  | [], [], _, _ => rfl
  | a :: p, b :: q, h, hz => by
    have ih := subF_zero p q (by simpa using h) (fun c hc => hz c (List.mem_cons_of_mem _ hc))
    have h0 : a - b = 0 := hz _ List.mem_cons_self
    rw [ih, show a = b by grind -lia]
/-- A polynomial is told by as many of its values as it has numbers. -/
theorem told (p q : List F) (xs : List F) (hn : xs.Nodup) (hp : p.length = xs.length) (hq : q.length = xs.length) (h : ∀ x ∈ xs, evF p x = evF q x) : p = q := by
  refine subF_zero p q (by omega) (roots xs _ hn (by simp [subF]; omega) fun x hx => ?_)
  rw [subF_ev x p q (by omega), h x hx]
  grind -lia

/-- Of all others: the product of (o less z). -/
def prF (pl z : F) (xs : List F) : F := xs.foldr (fun o v => if o = pl then v else v * (o - z)) 1
theorem prF_cons (pl z o : F) (xs : List F) : prF pl z (o :: xs) = if o = pl then prF pl z xs else prF pl z xs * (o - z) := rfl
theorem prF_zero (pl z : F) : ∀ xs, z ∈ xs → z ≠ pl → prF pl z xs = 0
  | o :: xs, h, hne => by
    rw [prF_cons]
    rcases List.mem_cons.1 h with rfl | h
    · rw [if_neg hne]; grind -lia
    · rw [prF_zero pl z xs h hne]
      split
      · rfl
      · grind -lia
theorem prF_ne (pl z : F) : ∀ xs, (∀ o ∈ xs, o ≠ pl → o ≠ z) → prF pl z xs ≠ 0
  | [], _ => by show (1 : F) ≠ 0; decide
  | o :: xs, h => by
    have ih := prF_ne pl z xs (fun q hq => h q (List.mem_cons_of_mem _ hq))
    rw [prF_cons]
    by_cases e : o = pl
    · rw [if_pos e]; exact ih
    · rw [if_neg e]
      intro h0
      have := mul_zero_F h0 ih
      exact h o List.mem_cons_self e (by grind -lia)
/-- The weight of a place for z. -/
def wtF (xs : List F) (pl z : F) : F := prF pl z xs * finv (prF pl pl xs)
theorem wtF_self (xs : List F) (pl : F) : wtF xs pl pl = 1 := mul_finv _ (prF_ne pl pl xs (fun _ _ h => h))
theorem wtF_other (xs : List F) (pl z : F) (h : z ∈ xs) (hne : z ≠ pl) : wtF xs pl z = 0 := by
  rw [wtF, prF_zero pl z xs h hne]; grind -lia
/-- What goes through the parts, at z. -/
def sumF (xs : List F) (z : F) (l : List (F × F)) : F := l.foldr (fun p v => v + wtF xs p.1 z * p.2) 0
theorem sumF_cons (xs : List F) (z : F) (p : F × F) (l : List (F × F)) : sumF xs z (p :: l) = sumF xs z l + wtF xs p.1 z * p.2 := rfl
def thF (l : List (F × F)) (z : F) : F := sumF (l.map Prod.fst) z l
theorem sumF_out (xs : List F) (z : F) (hz : z ∈ xs) : ∀ l : List (F × F), (∀ p ∈ l, p.1 ≠ z) → sumF xs z l = 0
  | [], _ => rfl
  | p :: l, h => by
    rw [sumF_cons, sumF_out xs z hz l (fun q hq => h q (List.mem_cons_of_mem _ hq)), wtF_other xs p.1 z hz (fun e => h p List.mem_cons_self e.symm)]
    grind -lia
theorem sumF_in (xs : List F) (z : F) (hz : z ∈ xs) : ∀ l : List (F × F), (l.map Prod.fst).Nodup → ∀ p ∈ l, p.1 = z → sumF xs z l = p.2
  | q :: l, hn, p, hp, e => by
    have hn' := List.nodup_cons.1 (by simpa using hn : (q.1 :: l.map Prod.fst).Nodup)
    rw [sumF_cons]
    rcases List.mem_cons.1 hp with rfl | hp
    · rw [sumF_out xs z hz l (fun r hr h => hn'.1 (by rw [e, ← h]; exact List.mem_map_of_mem hr)), e, wtF_self]
      grind -lia
    · rw [sumF_in xs z hz l hn'.2 p hp e, wtF_other xs q.1 z hz (fun h => hn'.1 (by rw [← h, ← e]; exact List.mem_map_of_mem hp))]
      grind -lia
/-- It goes through each part. -/
theorem thF_at (l : List (F × F)) (hn : (l.map Prod.fst).Nodup) (p : F × F) (hp : p ∈ l) : thF l p.1 = p.2 :=
  sumF_in _ _ (List.mem_map_of_mem hp) l hn p hp rfl

/-- A polynomial times (o less x). -/
def mulF (o : F) (p : List F) : List F := List.zipWith (· + ·) (p.map (· * o) ++ [0]) (0 :: p.map (fun c => 0 - c))
def addF (p q : List F) : List F := List.zipWith (· + ·) p q
theorem addF_ev (x : F) : ∀ p q : List F, p.length = q.length → evF (addF p q) x = evF p x + evF q x
  | [], [], _ => by simp only [addF, List.zipWith_nil_left, evF_nil]; grind -lia
  | a :: p, b :: q, h => by
    have ih := addF_ev x p q (by simpa using h)
    rw [show addF (a :: p) (b :: q) = (a + b) :: addF p q from rfl, evF_cons, evF_cons, evF_cons, ih]
    grind -lia
theorem addF_length (p q : List F) (h : p.length = q.length) : (addF p q).length = p.length := by simp [addF, h]
theorem ev_map (k x : F) : ∀ p : List F, evF (p.map (· * k)) x = evF p x * k
  | [] => by simp only [List.map_nil, evF_nil]; grind -lia
  | c :: p => by rw [List.map_cons, evF_cons, evF_cons, ev_map k x p]; grind -lia
theorem ev_neg (x : F) : ∀ p : List F, evF (p.map (fun c => 0 - c)) x = 0 - evF p x
  | [] => by simp only [List.map_nil, evF_nil]; grind -lia
  | c :: p => by rw [List.map_cons, evF_cons, evF_cons, ev_neg x p]; grind -lia
theorem ev_zero_end (x : F) : ∀ p : List F, evF (p ++ [0]) x = evF p x
  | [] => by simp only [List.nil_append, evF_nil, evF_cons]; grind -lia
  | c :: p => by rw [List.cons_append, evF_cons, evF_cons, ev_zero_end x p]
theorem mulF_length (o : F) (p : List F) : (mulF o p).length = p.length + 1 := by simp [mulF]
theorem mulF_ev (o x : F) (p : List F) : evF (mulF o p) x = evF p x * (o - x) := by
  rw [mulF, show List.zipWith (· + ·) (p.map (· * o) ++ [0]) (0 :: p.map (fun c => 0 - c)) = addF (p.map (· * o) ++ [0]) (0 :: p.map (fun c => 0 - c)) from rfl, addF_ev _ _ _ (by simp), ev_zero_end, ev_map, evF_cons, ev_neg]
  grind -lia

/-- The products of the others, step by step. -/
def upF (pl z : F) (u : F) (xs : List F) : F := xs.foldl (fun u o => if o = pl then u else u * (o - z)) u
theorem upF_pr (pl z : F) : ∀ (xs : List F) (u : F), upF pl z u xs = u * prF pl z xs
  | [], u => by show u = u * 1; grind -lia
  | o :: xs, u => by
    show upF pl z (if o = pl then u else u * (o - z)) xs = _
    rw [upF_pr pl z xs, prF_cons]
    split
    · rfl
    · grind -lia
def basF (pl : F) (xs : List F) (p : List F) : List F := xs.foldl (fun p o => if o = pl then p else mulF o p) p
theorem basF_ev (pl z : F) : ∀ (xs p : List F), evF (basF pl xs p) z = evF p z * prF pl z xs
  | [], p => by show evF p z = evF p z * 1; grind -lia
  | o :: xs, p => by
    show evF (basF pl xs (if o = pl then p else mulF o p)) z = _
    rw [basF_ev pl z xs, prF_cons]
    split
    · rfl
    · rw [mulF_ev]; grind -lia
theorem basF_out (pl : F) : ∀ (xs p : List F), pl ∉ xs → (basF pl xs p).length = p.length + xs.length
  | [], p, _ => rfl
  | o :: xs, p, h => by
    have h1 : o ≠ pl := fun e => h (by rw [e]; exact List.mem_cons_self)
    show (basF pl xs (if o = pl then p else mulF o p)).length = _
    rw [if_neg h1, basF_out pl xs _ (fun e => h (List.mem_cons_of_mem _ e)), mulF_length, List.length_cons]
    omega
theorem basF_in (pl : F) : ∀ (xs p : List F), xs.Nodup → pl ∈ xs → (basF pl xs p).length + 1 = p.length + xs.length
  | o :: xs, p, hn, h => by
    have hn' := List.nodup_cons.1 hn
    show (basF pl xs (if o = pl then p else mulF o p)).length + 1 = _
    by_cases e : o = pl
    · subst e
      rw [if_pos rfl, basF_out o xs p hn'.1, List.length_cons]; omega
    · rw [if_neg e, basF_in pl xs _ hn'.2 ((List.mem_cons.1 h).resolve_left (fun h => e h.symm)), mulF_length, List.length_cons]; omega

/-- The numbers of the polynomial through the parts, part after part. -/
def lagStep (xs : List F) (out : List F) (p : F × F) : List F := addF out ((basF p.1 xs [1]).map (fun c => c * p.2 * finv (prF p.1 p.1 xs)))
def lagF (xs : List F) (l : List (F × F)) (out : List F) : List F := l.foldl (lagStep xs) out
theorem ev_map2 (k q x : F) : ∀ p : List F, evF (p.map (fun c => c * k * q)) x = evF p x * k * q
  | [] => by simp only [List.map_nil, evF_nil]; grind -lia
  | c :: p => by rw [List.map_cons, evF_cons, evF_cons, ev_map2 k q x p]; grind -lia
theorem basF_len {xs : List F} (hn : xs.Nodup) {pl : F} (h : pl ∈ xs) : (basF pl xs [1]).length = xs.length := by
  have := basF_in pl xs [1] hn h
  simp at this
  omega
theorem lagStep_length {xs out : List F} (hn : xs.Nodup) {p : F × F} (h : p.1 ∈ xs) (ho : out.length = xs.length) : (lagStep xs out p).length = xs.length := by
  rw [lagStep, addF_length _ _ (by rw [List.length_map, basF_len hn h, ho])]; exact ho
theorem lagF_length {xs : List F} (hn : xs.Nodup) : ∀ (l : List (F × F)) (out : List F), (∀ p ∈ l, p.1 ∈ xs) → out.length = xs.length → (lagF xs l out).length = xs.length
  | [], out, _, ho => ho
  | p :: l, out, h, ho => lagF_length hn l _ (fun q hq => h q (List.mem_cons_of_mem _ hq)) (lagStep_length hn (h p List.mem_cons_self) ho)
theorem lagF_ev {xs : List F} (hn : xs.Nodup) (z : F) : ∀ (l : List (F × F)) (out : List F), (∀ p ∈ l, p.1 ∈ xs) → out.length = xs.length → evF (lagF xs l out) z = evF out z + sumF xs z l
  | [], out, _, ho => by show evF out z = evF out z + 0; grind -lia
  | p :: l, out, h, ho => by
    have hp := h p List.mem_cons_self
    show evF (lagF xs l (lagStep xs out p)) z = _
    rw [lagF_ev hn z l _ (fun q hq => h q (List.mem_cons_of_mem _ hq)) (lagStep_length hn hp ho), lagStep, addF_ev _ _ _ (by rw [List.length_map, basF_len hn hp, ho]), ev_map2, basF_ev, sumF_cons, wtF]
    have : evF [1] z = 1 := by rw [evF_cons, evF_nil]; grind -lia
    rw [this]
    grind -lia
theorem ev_zeros (z : F) : ∀ n, evF (List.replicate n 0) z = 0
  | 0 => rfl
  | n + 1 => by rw [List.replicate_succ, evF_cons, ev_zeros z n]; grind -lia
/-- The polynomial through the parts. -/
def polyF (l : List (F × F)) : List F := lagF (l.map Prod.fst) l (List.replicate l.length 0)
theorem polyF_length (l : List (F × F)) (hn : (l.map Prod.fst).Nodup) : (polyF l).length = l.length := by
  rw [polyF, lagF_length hn l _ (fun p hp => List.mem_map_of_mem hp) (by simp)]; simp
theorem polyF_ev (l : List (F × F)) (hn : (l.map Prod.fst).Nodup) (z : F) : evF (polyF l) z = thF l z := by
  rw [polyF, lagF_ev hn z l _ (fun p hp => List.mem_map_of_mem hp) (by simp), ev_zeros, thF]; grind -lia
theorem polyF_told (l : List (F × F)) (hn : (l.map Prod.fst).Nodup) (c : List F) (hc : c.length = l.length) (h : ∀ p ∈ l, evF c p.1 = p.2) : c = polyF l := by
  refine told c _ (l.map Prod.fst) hn (by simpa using hc) (by simpa using polyF_length l hn) fun x hx => ?_
  obtain ⟨p, hp, rfl⟩ := List.mem_map.1 hx
  rw [polyF_ev l hn, thF_at l hn p hp, h p hp]
theorem thF_told (l : List (F × F)) (hn : (l.map Prod.fst).Nodup) (c : List F) (hc : c.length = l.length) (h : ∀ p ∈ l, evF c p.1 = p.2) (z : F) : thF l z = evF c z := by
  rw [polyF_told l hn c hc h, polyF_ev l hn]
theorem ev_at_zero (c : F) (p : List F) : evF (c :: p) 0 = c := by rw [evF_cons]; grind -lia

/-- The numbers as the program finds them: the first, then those of what is left, divided by x. -/
def peelStep (l : List (F × F)) (f : F) : List (F × F) := l.map fun p => (p.1, (p.2 - f) * finv p.1)
def peelF : Nat → List (F × F) → List F
  | 0, _ => []
  | n + 1, l => thF l 0 :: peelF n (peelStep l.tail (thF l 0))
theorem peelStep_fst (l : List (F × F)) (f : F) : (peelStep l f).map Prod.fst = l.map Prod.fst := by simp [peelStep, Function.comp_def]
theorem peelF_told : ∀ (n : Nat) (l : List (F × F)) (c : List F), l.length = n → c.length = n → (l.map Prod.fst).Nodup → (∀ p ∈ l, p.1 ≠ 0) → (∀ p ∈ l, evF c p.1 = p.2) → peelF n l = c
  | 0, l, c, _, hc, _, _, _ => (List.length_eq_zero_iff.1 hc).symm
  | n + 1, [], c, hl, _, _, _, _ => by simp at hl
  | n + 1, q :: l, [], _, hc, _, _, _ => by simp at hc
  | n + 1, q :: l, c0 :: c, hl, hc, hn, hz, h => by
    have e0 : thF (q :: l) 0 = c0 := by rw [thF_told (q :: l) hn (c0 :: c) (by rw [hl, hc]) h, ev_at_zero]
    have hn' := List.nodup_cons.1 (by simpa using hn : (q.1 :: l.map Prod.fst).Nodup)
    rw [peelF, e0, List.tail_cons]
    refine congrArg (c0 :: ·) ?_
    refine peelF_told n _ c (by simpa [peelStep] using hl) (by simpa using hc) (by rw [peelStep_fst]; exact hn'.2) ?_ ?_
    · intro p hp
      obtain ⟨r, hr, rfl⟩ := List.mem_map.1 hp
      exact hz r (List.mem_cons_of_mem _ hr)
    · intro p hp
      obtain ⟨r, hr, rfl⟩ := List.mem_map.1 hp
      have h1 := h r (List.mem_cons_of_mem _ hr)
      have h2 := mul_finv r.1 (hz r (List.mem_cons_of_mem _ hr))
      rw [evF_cons] at h1
      show evF c r.1 = (r.2 - c0) * finv r.1
      grind -lia
theorem peelF_poly (l : List (F × F)) (hn : (l.map Prod.fst).Nodup) (hz : ∀ p ∈ l, p.1 ≠ 0) : peelF l.length l = polyF l :=
  peelF_told _ l _ rfl (polyF_length l hn) hn hz fun p hp => by rw [polyF_ev l hn, thF_at l hn p hp]

/-- With one part fewer any secret would fit. -/
def fitF (l : List (F × F)) (s x : F) : F := thF ((0, s) :: l) x
theorem fit_nodup {l : List (F × F)} (hn : (l.map Prod.fst).Nodup) (hz : ∀ p ∈ l, p.1 ≠ 0) (s : F) : (((0, s) :: l).map Prod.fst).Nodup := by
  rw [List.map_cons, List.nodup_cons]
  refine ⟨fun h => ?_, hn⟩
  obtain ⟨p, hp, e⟩ := List.mem_map.1 h
  exact hz p hp e
theorem fitF_joins (l : List (F × F)) (hn : (l.map Prod.fst).Nodup) (hz : ∀ p ∈ l, p.1 ≠ 0) (s x : F) (hx : x ∉ l.map Prod.fst) : thF (l ++ [(x, fitF l s x)]) 0 = s := by
  have hn0 := fit_nodup hn hz s
  have hn1 : ((l ++ [(x, fitF l s x)]).map Prod.fst).Nodup := by
    rw [List.map_append, List.nodup_append]
    refine ⟨hn, by simp, fun a ha b hb => ?_⟩
    simp at hb
    rintro rfl
    exact hx (hb ▸ ha)
  have key : ∀ p ∈ (0, s) :: l, evF (polyF ((0, s) :: l)) p.1 = p.2 := fun p hp => by rw [polyF_ev _ hn0, thF_at _ hn0 p hp]
  rw [thF_told _ hn1 (polyF ((0, s) :: l)) (by rw [polyF_length _ hn0]; simp) ?_, key _ List.mem_cons_self]
  intro p hp
  rcases List.mem_append.1 hp with hp | hp
  · exact key p (List.mem_cons_of_mem _ hp)
  · simp at hp
    subst hp
    exact polyF_ev _ hn0 x
theorem fitF_unlike (l : List (F × F)) (hn : (l.map Prod.fst).Nodup) (hz : ∀ p ∈ l, p.1 ≠ 0) (s t x : F) (hx : x ∉ l.map Prod.fst) (hst : s ≠ t) : fitF l s x ≠ fitF l t x := fun e => by
  have h1 := fitF_joins l hn hz s x hx
  have h2 := fitF_joins l hn hz t x hx
  rw [e, h2] at h1
  exact hst h1.symm
/-- The weights add up to one. -/
theorem sumF_ones (xs : List F) (z : F) : ∀ l : List F, sumF xs z (l.map fun x => (x, 1)) = l.foldr (fun x v => v + wtF xs x z) 0
  | [] => rfl
  | x :: l => by rw [List.map_cons, sumF_cons, sumF_ones xs z l, List.foldr_cons]; grind -lia
theorem weights_one (xs : List F) (hn : xs.Nodup) (h0 : xs ≠ []) (z : F) : xs.foldr (fun x v => v + wtF xs x z) 0 = 1 := by
  rw [← sumF_ones xs z xs]
  have e : (xs.map fun x => (x, (1 : F))).map Prod.fst = xs := by simp [Function.comp_def]
  have h := thF_told (xs.map fun x => (x, 1)) (by rw [e]; exact hn) (1 :: List.replicate (xs.length - 1) 0) (by cases xs with
    | nil => exact absurd rfl h0
    | cons a r => simp) (fun p hp => by
      obtain ⟨r, hr, rfl⟩ := List.mem_map.1 hp
      rw [evF_cons, ev_zeros]; grind -lia) z
  rw [thF, e] at h
  rw [h, evF_cons, ev_zeros]
  grind -lia
/-- Added parts tell the sum. -/
theorem sumF_add (xs : List F) (z : F) : ∀ a b : List (F × F), a.map Prod.fst = b.map Prod.fst → sumF xs z (List.zipWith (fun p q => (p.1, p.2 + q.2)) a b) = sumF xs z a + sumF xs z b
  | [], [], _ => by show (0 : F) = 0 + 0; rfl
  | p :: a, q :: b, h => by
    simp only [List.map_cons, List.cons.injEq] at h
    have ih := sumF_add xs z a b h.2
    rw [List.zipWith_cons_cons, sumF_cons, sumF_cons, sumF_cons, ih, ← h.1]
    grind -lia
theorem zip_fst : ∀ a b : List (F × F), a.map Prod.fst = b.map Prod.fst → (List.zipWith (fun p q => (p.1, p.2 + q.2)) a b).map Prod.fst = a.map Prod.fst
  | [], [], _ => rfl
  | p :: a, q :: b, h => by
    simp only [List.map_cons, List.cons.injEq] at h
    rw [List.zipWith_cons_cons, List.map_cons, List.map_cons, zip_fst a b h.2]
theorem thF_add (a b : List (F × F)) (h : a.map Prod.fst = b.map Prod.fst) (z : F) : thF (List.zipWith (fun p q => (p.1, p.2 + q.2)) a b) z = thF a z + thF b z := by
  rw [thF, zip_fst a b h, sumF_add _ z a b h, thF, thF, ← h]
end Go.Proofs.Ytamppekadobagaa
