/- Chapter 4: plain facts on orders: how many there are, the n-th one, the number of one. -/
import Derived.Test.YtlepejafednlfaaNum4
namespace Go.Proofs.Ytlepejafednlfaa
set_option linter.unusedVariables false
set_option maxRecDepth 1000000
set_option linter.unusedSimpArgs false
open Go.RowKit

def fac : Nat → Nat
  | 0 => 1
  | n + 1 => (n + 1) * fac n
theorem fac_pos : ∀ n, 0 < fac n
  | 0 => by decide
  | n + 1 => Nat.mul_pos (by omega) (fac_pos n)
theorem fac_le9 {n : Nat} (h : n ≤ 9) : fac n ≤ 362880 := by
  have : ∀ k, k ≤ 9 → fac k ≤ 362880 := by decide
  exact this n h

/-- The n-th order of what is left, as a list of m. -/
def ordL : Nat → List Int → Nat → List Int
  | 0, _, _ => []
  | m + 1, left, n => left.getD (n / fac m) 0 :: ordL m (left.eraseIdx (n / fac m)) (n % fac m)
def upI (m : Nat) : List Int := (List.range m).map (fun j : Nat => (j : Int))
theorem upI_length (m : Nat) : (upI m).length = m := by simp [upI]
theorem upI_succ (m : Nat) : upI (m + 1) = upI m ++ [(m : Int)] := by simp [upI, List.range_succ]

theorem ordL_length : ∀ (m : Nat) (l : List Int) (n : Nat), (ordL m l n).length = m
  | 0, _, _ => rfl
  | m + 1, l, n => by simp [ordL, ordL_length m]

theorem div_fac {m n : Nat} (h : n < fac (m + 1)) : n / fac m < m + 1 := by
  rw [Nat.div_lt_iff_lt_mul (fac_pos m)]; exact h
theorem mod_fac (m n : Nat) : n % fac m < fac m := Nat.mod_lt _ (fac_pos m)

/-- How many of a list are less. -/
def lessN (x : Int) (l : List Int) : Nat := (l.filter (fun y => decide (y < x))).length
theorem lessN_le (x : Int) (l : List Int) : lessN x l ≤ l.length := List.length_filter_le _ _
theorem lessN_app (x y : Int) (l : List Int) : lessN x (l ++ [y]) = lessN x l + (if y < x then 1 else 0) := by
  unfold lessN
  by_cases h : y < x <;> simp [h]
def numL : List Int → Nat
  | [] => 0
  | x :: r => lessN x r * fac r.length + numL r
theorem numL_lt : ∀ l : List Int, numL l < fac l.length
  | [] => by simp [numL, fac]
  | x :: r => by
    have h1 := numL_lt r
    have h2 := lessN_le x r
    simp only [numL, List.length_cons, fac]
    have : lessN x r * fac r.length ≤ r.length * fac r.length := Nat.mul_le_mul_right _ h2
    rw [Nat.add_mul, Nat.one_mul]
    omega

/-- A list is an order: each of 0 up to its length, none twice. -/
def isOrd (xs : List Int) : Prop := xs.length ≤ 9 ∧ ∀ i, i < xs.length → (0 ≤ xs.getD i 0 ∧ xs.getD i 0 < xs.length) ∧ xs.getD i 0 ∉ xs.take i

theorem cons_erase : ∀ (l : List Int) (k : Nat) (h : k < l.length), (l[k] :: l.eraseIdx k).Perm l
  | [], k, h => absurd h (by simp)
  | a :: r, 0, _ => List.Perm.refl _
  | a :: r, k + 1, h => by
    have hk : k < r.length := by simpa using h
    simp only [List.getElem_cons_succ, List.eraseIdx_cons_succ]
    exact (List.Perm.swap a r[k] _).trans ((cons_erase r k hk).cons a)

theorem perm_ordL : ∀ (m : Nat) (l : List Int) (n : Nat), l.length = m → n < fac m → (ordL m l n).Perm l
  | 0, l, n, hl, _ => by rw [List.length_eq_zero_iff.1 hl]; exact List.Perm.refl _
  | m + 1, l, n, hl, hn => by
    have hk : n / fac m < l.length := by rw [hl]; exact div_fac hn
    simp only [ordL]
    have ih := perm_ordL m (l.eraseIdx (n / fac m)) (n % fac m) (by rw [List.length_eraseIdx, if_pos hk]; omega) (mod_fac m n)
    have h1 : (l.getD (n / fac m) 0 :: ordL m (l.eraseIdx (n / fac m)) (n % fac m)).Perm (l.getD (n / fac m) 0 :: l.eraseIdx (n / fac m)) := ih.cons _
    refine h1.trans ?_
    have e : l.getD (n / fac m) 0 = l[n / fac m] := by simp [List.getD, hk]
    rw [e]
    exact cons_erase l _ hk

/-- Rising. -/
def up (l : List Int) : Prop := l.Pairwise (· < ·)
theorem up_erase {l : List Int} (k : Nat) (h : up l) : up (l.eraseIdx k) := List.Pairwise.sublist (List.eraseIdx_sublist l k) h

theorem lessN_perm {x : Int} {a b : List Int} (h : a.Perm b) : lessN x a = lessN x b := (h.filter _).length_eq

theorem lessN_erase : ∀ (l : List Int) (k : Nat), up l → (hk : k < l.length) → lessN (l[k]) (l.eraseIdx k) = k
  | [], k, _, hk => absurd hk (by simp)
  | a :: r, 0, h, hk => by
    have h2 := List.pairwise_cons.1 h
    simp only [lessN, List.getElem_cons_zero, List.eraseIdx_cons_zero]
    rw [List.filter_eq_nil_iff.2]
    · rfl
    · intro y hy
      have := h2.1 y hy
      simp; omega
  | a :: r, k + 1, h, hk => by
    have h2 := List.pairwise_cons.1 h
    have hk' : k < r.length := by simpa using hk
    have ih := lessN_erase r k h2.2 hk'
    have ha := h2.1 r[k] (List.getElem_mem hk')
    simp only [List.getElem_cons_succ, List.eraseIdx_cons_succ]
    unfold lessN at *
    simp [ha, ih]

theorem num_ord : ∀ (m : Nat) (l : List Int) (n : Nat), l.length = m → up l → n < fac m → numL (ordL m l n) = n
  | 0, l, n, _, _, hn => by simp [fac] at hn; simp [ordL, numL, hn]
  | m + 1, l, n, hl, hu, hn => by
    have hk : n / fac m < l.length := by rw [hl]; exact div_fac hn
    have hl' : (l.eraseIdx (n / fac m)).length = m := by rw [List.length_eraseIdx, if_pos hk]; omega
    have ih := num_ord m (l.eraseIdx (n / fac m)) (n % fac m) hl' (up_erase _ hu) (mod_fac m n)
    simp only [ordL, numL, ordL_length]
    rw [ih, lessN_perm (perm_ordL m _ _ hl' (mod_fac m n))]
    have e : l.getD (n / fac m) 0 = l[n / fac m] := by simp [List.getD, hk]
    rw [e, lessN_erase l _ hu hk, Nat.mul_comm]
    exact Nat.div_add_mod n (fac m)

theorem up_upI : ∀ m, up (upI m)
  | 0 => by simp [upI, up]
  | m + 1 => by
    rw [upI_succ]
    refine List.pairwise_append.2 ⟨up_upI m, by simp, ?_⟩
    intro a ha b hb
    simp at hb
    subst hb
    simp [upI] at ha
    obtain ⟨j, hj, rfl⟩ := ha
    omega

theorem isOrd_ordL {m n : Nat} (h9 : m ≤ 9) (hn : n < fac m) : isOrd (ordL m (upI m) n) := by
  have hp := perm_ordL m (upI m) n (upI_length m) hn
  have hl := ordL_length m (upI m) n
  have hnd : (ordL m (upI m) n).Nodup := by
    refine hp.nodup_iff.2 ?_
    exact List.Pairwise.imp (fun h => by omega) (up_upI m)
  generalize ordL m (upI m) n = o at *
  refine ⟨by omega, fun i hi => ⟨?_, ?_⟩⟩
  · have hm : o.getD i 0 ∈ o := by simp only [List.getD, List.getElem?_eq_getElem hi, Option.getD_some]; exact List.getElem_mem _
    have := hp.mem_iff.1 hm
    simp [upI] at this
    obtain ⟨j, hj, e⟩ := this
    rw [hl]
    simp only [List.getD]
    omega
  · intro hmem
    have e : o.getD i 0 = o[i] := by simp [List.getD, hi]
    rw [e] at hmem
    obtain ⟨j, hj, e2⟩ := List.getElem_of_mem hmem
    have hj' : j < i := by simp at hj; omega
    rw [List.getElem_take] at e2
    have := (List.nodup_iff_pairwise_ne.1 hnd)
    have h3 := List.pairwise_iff_getElem.1 this j i (by omega) hi hj'
    exact h3 e2

/-- Where two orders with neighbouring numbers part, the one with the lesser number is less. -/
def firstLess : List Int → List Int → Bool
  | a :: r, b :: s => if a = b then firstLess r s else decide (a < b)
  | _, _ => false
theorem ord_less : ∀ (m : Nat) (l : List Int) (n : Nat), l.length = m → up l → n + 1 < fac m → firstLess (ordL m l n) (ordL m l (n + 1)) = true
  | 0, _, n, _, _, hn => by simp [fac] at hn
  | m + 1, l, n, hl, hu, hn => by
    have hk : (n + 1) / fac m < l.length := by rw [hl]; exact div_fac hn
    have hf := fac_pos m
    have e1 := Nat.div_add_mod n (fac m)
    have e2 := Nat.div_add_mod (n + 1) (fac m)
    have r1 := mod_fac m n
    have r2 := mod_fac m (n + 1)
    by_cases he : (n + 1) % fac m = 0
    · -- the head turns
      have hd : n / fac m + 1 = (n + 1) / fac m := by
        generalize hq : (n + 1) / fac m = q at *
        rw [he, Nat.add_zero] at e2
        cases q with
        | zero => simp at e2
        | succ q =>
          congr 1
          rw [Nat.mul_succ] at e2
          rw [show n = fac m - 1 + fac m * q by omega, Nat.add_mul_div_left _ _ hf, Nat.div_eq_of_lt (by omega)]
          omega
      have hlt : n / fac m < l.length := by omega
      have ea : l.getD (n / fac m) 0 = l[n / fac m] := by simp [List.getD, hlt]
      have eb : l.getD ((n + 1) / fac m) 0 = l[(n + 1) / fac m] := by simp [List.getD, hk]
      have hlt2 := List.pairwise_iff_getElem.1 hu (n / fac m) ((n + 1) / fac m) hlt hk (by omega)
      simp only [ordL, firstLess]
      rw [ea, eb, if_neg (by omega)]
      simpa using hlt2
    · have hd : n / fac m = (n + 1) / fac m := by
        generalize hq : (n + 1) / fac m = q at *
        rw [show n = (n + 1) % fac m - 1 + fac m * q by omega, Nat.add_mul_div_left _ _ hf, Nat.div_eq_of_lt (by omega)]
        omega
      have hm : (n + 1) % fac m = n % fac m + 1 := by rw [hd] at e1; omega
      simp only [ordL, firstLess]
      rw [hd, if_pos rfl, hm]
      exact ord_less m _ _ (by rw [List.length_eraseIdx, if_pos hk]; omega) (up_erase _ hu) (by omega)

end Go.Proofs.Ytlepejafednlfaa
