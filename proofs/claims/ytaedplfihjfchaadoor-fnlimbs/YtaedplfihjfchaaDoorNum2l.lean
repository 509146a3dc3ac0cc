/- Plain facts on products of limbs, made limb by limb. No program is named here. -/
import Derived.Test.YtaedplfihjfchaaDoorImplAddl
namespace Go.Proofs.YtaedplfihjfchaaDoor
set_option linter.unusedVariables false
set_option maxRecDepth 1000000
set_option linter.unusedSimpArgs false

theorem val_split : ∀ (l : List Int) (i : Nat), val (l.take i ++ [val (l.drop i)]) = val l
  | l, 0 => by simp [val]
  | [], i + 1 => by simp [val]
  | x :: l, i + 1 => by simp only [List.take_succ_cons, List.drop_succ_cons, List.cons_append, val, val_split l i]

theorem val_snoc_inj : ∀ {l : List Int} {s t : Int}, val (l ++ [s]) = val (l ++ [t]) → s = t
  | [], s, t, h => by simpa [val] using h
  | x :: l, s, t, h => by
    simp only [List.cons_append, val] at h
    exact val_snoc_inj (l := l) (by omega)

/-- Inside the round for limb x of the first factor (place i): k limbs of the second are done. -/
def InSt (O0 : List Int) (i : Nat) (x : Int) (ys : List Int) (N : Int) (k : Nat) (O : List Int) (c : Int) : Prop :=
  O.length = O0.length ∧ Digs O ∧ O.take i = O0.take i ∧ O.drop (i + k) = O0.drop (i + k) ∧ val (O.take (i + k) ++ [val (O0.drop (i + k)) + x * val (ys.drop k) + c]) = N

theorem inSt_step {O0 O ys : List Int} {i k : Nat} {x N c s y v : Int} (h : InSt O0 i x ys N k O c) (hk : k < ys.length) (hl : i + k < O0.length) (ey : ys.getD k 0 = y) (ev : O.getD (i + k) 0 = v) (es : s = v + x * y + c) (h0 : 0 ≤ s) :
    InSt O0 i x ys N (k + 1) (O.set (i + k) (s % 65536)) (s / 65536) := by
  obtain ⟨h1, h2, h3, h4, h5⟩ := h
  have ev0 : O0.getD (i + k) 0 = v := by rw [← ev, getD_of_drop h4 (i + k) (Nat.le_refl _)]
  refine ⟨by simpa using h1, ?_, ?_, ?_, ?_⟩
  · intro z hz
    rcases List.mem_or_eq_of_mem_set hz with hz | rfl
    · exact h2 z hz
    · omega
  · rw [List.take_set_of_le (by omega)]; exact h3
  · rw [show i + (k + 1) = (i + k) + 1 by omega, drop_set_succ]
    have := congrArg (List.drop 1) h4
    simpa [List.drop_drop, Nat.add_comm] using this
  · rw [show i + (k + 1) = (i + k) + 1 by omega, take_set_succ (by omega), List.append_assoc, List.singleton_append, val_snoc2, ← h5]
    rw [val_drop' O0 (i + k), val_drop' ys k, ev0, ey]
    generalize val (O0.drop (i + k + 1)) = X
    generalize val (ys.drop (k + 1)) = Y
    have e : x * (y + 65536 * Y) = x * y + 65536 * (x * Y) := by rw [Int.mul_add, Int.mul_left_comm]
    rw [e]
    have : s % 65536 + 65536 * (X + x * Y + s / 65536) = v + 65536 * X + (x * y + 65536 * (x * Y)) + c := by omega
    rw [this]

theorem inSt_end {O0 O ys : List Int} {i r : Nat} {x N c : Int} (h : InSt O0 i x ys N ys.length O c) (hz : O0.drop (i + ys.length) = List.replicate r 0) (hr : 0 < r) (hlen : i + ys.length + r = O0.length) (c0 : 0 ≤ c) (c1 : c < 65536) :
    val (O.set (i + ys.length) c) = N ∧ Digs (O.set (i + ys.length) c) ∧ (O.set (i + ys.length) c).length = O0.length ∧ (O.set (i + ys.length) c).take i = O0.take i ∧ (O.set (i + ys.length) c).drop (i + ys.length + 1) = List.replicate (r - 1) 0 ∧ O.getD (i + ys.length) 0 = 0 := by
  obtain ⟨h1, h2, h3, h4, h5⟩ := h
  have hd : (O.set (i + ys.length) c).drop (i + ys.length + 1) = List.replicate (r - 1) 0 := by
    rw [drop_set_succ]
    have := congrArg (List.drop 1) (h4.trans hz)
    rw [List.drop_drop, List.drop_replicate] at this
    exact this
  refine ⟨?_, ?_, by simpa using h1, ?_, hd, ?_⟩
  · rw [hz, val_replicate, List.drop_eq_nil_of_le (Nat.le_refl _)] at h5
    simp only [val, Int.mul_zero, Int.zero_add] at h5
    rw [← val_split (O.set (i + ys.length) c) (i + ys.length + 1), hd, val_replicate, take_set_succ (by omega), ← h5]
    rw [val_snoc_zero]
  · intro z hz'
    rcases List.mem_or_eq_of_mem_set hz' with hz' | rfl
    · exact h2 z hz'
    · exact ⟨c0, c1⟩
  · rw [List.take_set_of_le (by omega)]; exact h3
  · rw [getD_of_drop (h4.trans hz |>.trans (show List.replicate r (0 : Int) = (List.replicate (i + ys.length + r) 0).drop (i + ys.length) by rw [List.drop_replicate]; congr 1; omega)) (i + ys.length) (Nat.le_refl _)]
    simp only [List.getD, List.getElem?_replicate]
    split <;> rfl

/-- Ahead of the round for place i of the first factor. -/
def OutSt (xs ys : List Int) (i : Nat) (O : List Int) : Prop :=
  O.length = xs.length + ys.length ∧ Digs O ∧ O.drop (i + ys.length) = List.replicate (xs.length - i) 0 ∧ val (O.take i ++ [val (O.drop i) + val (xs.drop i) * val ys]) = val xs * val ys

theorem outSt_zero (xs ys : List Int) : OutSt xs ys 0 (List.replicate (xs.length + ys.length) 0) := by
  refine ⟨by simp, digs_replicate _, ?_, by simp [val, val_replicate]⟩
  rw [List.drop_replicate]; congr 1; omega

theorem outSt_in {xs ys O : List Int} {i : Nat} (h : OutSt xs ys i O) (x : Int) : InSt O i x ys (val (O.take i ++ [val (O.drop i) + x * val ys])) 0 O 0 :=
  ⟨rfl, h.2.1, rfl, rfl, by simp⟩

theorem outSt_step {xs ys O O' : List Int} {i : Nat} {x c : Int} (h : OutSt xs ys i O) (hi : i < xs.length) (ex : xs.getD i 0 = x) (hin : InSt O i x ys (val (O.take i ++ [val (O.drop i) + x * val ys])) ys.length O' c) (c0 : 0 ≤ c) (c1 : c < 65536) :
    OutSt xs ys (i + 1) (O'.set (i + ys.length) c) ∧ O'.getD (i + ys.length) 0 = 0 := by
  obtain ⟨h1, h2, h3, h4⟩ := h
  obtain ⟨e1, e2, e3, e4, e5, e6⟩ := inSt_end hin h3 (by omega) (by omega) c0 c1
  generalize O'.set (i + ys.length) c = Q at e1 e2 e3 e4 e5 ⊢
  refine ⟨⟨by rw [e3, h1], e2, ?_, ?_⟩, e6⟩
  · rw [show i + 1 + ys.length = i + ys.length + 1 by omega, e5]; congr 1
  · rw [← val_split Q i, e4] at e1
    have hq := val_snoc_inj e1
    have hqd : Q.drop i = Q.getD i 0 :: Q.drop (i + 1) := drop_cons (by rw [e3, h1]; omega)
    have ht : Q.take (i + 1) = O.take i ++ [Q.getD i 0] := by
      rw [← e4]; exact take_snoc_getD Q i (by rw [e3, h1]; omega)
    rw [ht, List.append_assoc, List.singleton_append, val_snoc2, ← h4, val_drop' xs i, ex]
    rw [hqd] at hq
    simp only [val] at hq
    generalize val (Q.drop (i + 1)) = Y at hq ⊢
    generalize Q.getD i 0 = q at hq ⊢
    generalize val (xs.drop (i + 1)) = X
    generalize val ys = V at hq ⊢
    generalize val (O.drop i) = Z at hq ⊢
    have e : (x + 65536 * X) * V = x * V + 65536 * (X * V) := by rw [Int.add_mul, Int.mul_assoc]
    rw [e]
    have : q + 65536 * (Y + X * V) = Z + (x * V + 65536 * (X * V)) := by omega
    rw [this]

theorem outSt_end {xs ys O : List Int} (h : OutSt xs ys xs.length O) : val O = val xs * val ys := by
  obtain ⟨h1, h2, h3, h4⟩ := h
  rw [List.drop_eq_nil_of_le (Nat.le_refl xs.length)] at h4
  simp only [val, Int.zero_mul, Int.add_zero, val_split] at h4
  exact h4

theorem prod_bd {x y : Int} (hx : 0 ≤ x ∧ x < 65536) (hy : 0 ≤ y ∧ y < 65536) : 0 ≤ x * y ∧ x * y ≤ 4294836225 := by
  refine ⟨Int.mul_nonneg hx.1 hy.1, ?_⟩
  have h1 : x * y ≤ 65535 * y := Int.mul_le_mul_of_nonneg_right (by omega) hy.1
  omega

theorem val_mul_nonneg {xs ys : List Int} (hx : Digs xs) (hy : Digs ys) : 0 ≤ val xs * val ys := Int.mul_nonneg (val_nonneg hx) (val_nonneg hy)

end Go.Proofs.YtaedplfihjfchaaDoor
