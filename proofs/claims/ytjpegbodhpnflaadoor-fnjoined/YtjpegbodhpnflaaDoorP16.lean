/- Chapter 16, plain facts: the numbers that a window's bits tell, and the bits of a window told by its numbers. -/
import Derived.Test.YtjpegbodhpnflaaDoorP8
namespace Go.Proofs.YtjpegbodhpnflaaDoor
set_option linter.unusedVariables false
set_option maxRecDepth 1000000
set_option linter.unusedSimpArgs false

/-- The numbers whose bits are set, rising: bit nought is the greatest itself. -/
def RL : Nat → Nat → Int → List Int
  | 0, _, _ => []
  | j + 1, b, t => RL j (b / 2) (t - 1) ++ (if b % 2 = 1 then [t] else [])

/-- The bits that tell which of the j numbers up to t are in s. -/
def WB : Nat → Int → List Int → Nat
  | 0, _, _ => 0
  | j + 1, t, s => 2 * WB j (t - 1) s + (if t ∈ s then 1 else 0)

theorem RL_mem : ∀ (j b : Nat) (t x : Int), x ∈ RL j b t ↔ ∃ k, k < j ∧ b.testBit k = true ∧ x = t - (k : Int)
  | 0, b, t, x => by simp [RL]
  | j + 1, b, t, x => by
    rw [RL, List.mem_append, RL_mem j]
    constructor
    · rintro (⟨k, hk, hb, rfl⟩ | h)
      · exact ⟨k + 1, by omega, by rw [Nat.testBit_succ]; exact hb, by omega⟩
      · split at h
        · rename_i h1
          simp only [List.mem_singleton] at h
          exact ⟨0, by omega, by rw [Nat.testBit_zero]; simpa using h1, by omega⟩
        · cases h
    · rintro ⟨k, hk, hb, rfl⟩
      cases k with
      | zero =>
        rw [Nat.testBit_zero] at hb
        simp only [decide_eq_true_eq] at hb
        rw [if_pos hb]
        exact .inr (by simp)
      | succ k => exact .inl ⟨k, by omega, by rw [Nat.testBit_succ] at hb; exact hb, by omega⟩

theorem RL_le {j b : Nat} {t x : Int} (h : x ∈ RL j b t) : x ≤ t ∧ t - (j : Int) < x := by
  obtain ⟨k, hk, _, rfl⟩ := (RL_mem j b t x).1 h
  omega

theorem RL_ris : ∀ (j b : Nat) (t : Int), Ris ltI (RL j b t)
  | 0, b, t => List.Pairwise.nil
  | j + 1, b, t => by
    rw [RL]
    refine List.pairwise_append.2 ⟨RL_ris j _ _, ?_, ?_⟩
    · split
      · exact List.pairwise_singleton _ _
      · exact List.Pairwise.nil
    · intro x hx y hy
      have h1 := RL_le hx
      split at hy
      · simp only [List.mem_singleton] at hy
        subst hy
        simp only [ltI, decide_eq_true_eq]
        omega
      · cases hy

theorem RL_len : ∀ (j b : Nat) (t : Int), (RL j b t).length ≤ j
  | 0, b, t => by simp [RL]
  | j + 1, b, t => by
    have := RL_len j (b / 2) (t - 1)
    rw [RL, List.length_append]
    split <;> simp <;> omega

theorem RL_zero : ∀ (j : Nat) (t : Int), RL j 0 t = []
  | 0, t => rfl
  | j + 1, t => by rw [RL, show (0 : Nat) / 2 = 0 from rfl, RL_zero j]; rfl

theorem WB_lt : ∀ (j : Nat) (t : Int) (s : List Int), WB j t s < 2 ^ j
  | 0, t, s => by simp [WB]
  | j + 1, t, s => by
    have := WB_lt j (t - 1) s
    rw [WB, Nat.pow_succ]
    split <;> omega

theorem WB_bit : ∀ (j k : Nat) (t : Int) (s : List Int), (WB j t s).testBit k = (decide (k < j) && decide (t - (k : Int) ∈ s))
  | 0, k, t, s => by simp [WB]
  | j + 1, k, t, s => by
    rw [WB]
    cases k with
    | zero =>
      rw [Nat.testBit_zero]
      by_cases h : t ∈ s
      · simp [h, Nat.add_mod]
      · simp [h]
    | succ k =>
      rw [Nat.testBit_succ]
      have h2 : (2 * WB j (t - 1) s + (if t ∈ s then 1 else 0)) / 2 = WB j (t - 1) s := by split <;> omega
      rw [h2, WB_bit j k]
      have h3 : t - 1 - (k : Int) = t - ((k + 1 : Nat) : Int) := by omega
      rw [h3]
      congr 1
      simp

theorem WB_congr {s s' : List Int} (h : ∀ x, x ∈ s ↔ x ∈ s') : ∀ (j : Nat) (t : Int), WB j t s = WB j t s'
  | 0, t => rfl
  | j + 1, t => by
    rw [WB, WB, WB_congr h j]
    congr 1
    by_cases hx : t ∈ s
    · rw [if_pos hx, if_pos ((h t).1 hx)]
    · rw [if_neg hx, if_neg (fun e => hx ((h t).2 e))]

/-- The greatest of a rising list; nought where there is none. -/
def topL (l : List Int) : Int := match l.getLast? with
  | some x => x
  | none => 0

theorem topL_nil : topL [] = 0 := rfl
theorem topL_snoc (l : List Int) (x : Int) : topL (l ++ [x]) = x := by simp [topL]
theorem topL_of {l : List Int} (hR : Ris ltI l) {m : Int} (h : m ∈ l) (hm : ∀ x ∈ l, x ≤ m) : topL l = m := by
  rcases List.eq_nil_or_concat l with rfl | ⟨r, x, rfl⟩
  · cases h
  · rw [List.concat_eq_append] at *
    rw [topL_snoc]
    have h1 := hm x (by simp)
    rcases List.mem_append.1 h with h2 | h2
    · have := (List.pairwise_append.1 hR).2.2 m h2 x (by simp)
      simp only [ltI, decide_eq_true_eq] at this
      omega
    · simp only [List.mem_singleton] at h2
      exact h2.symm
theorem topL_mem {l : List Int} (h : l ≠ []) : topL l ∈ l := by
  rcases List.eq_nil_or_concat l with rfl | ⟨r, x, rfl⟩
  · exact absurd rfl h
  · rw [List.concat_eq_append, topL_snoc]; simp
theorem le_topL {l : List Int} (hR : Ris ltI l) {x : Int} (h : x ∈ l) : x ≤ topL l := by
  rcases List.eq_nil_or_concat l with rfl | ⟨r, y, rfl⟩
  · cases h
  · rw [List.concat_eq_append] at *
    rw [topL_snoc]
    rcases List.mem_append.1 h with h2 | h2
    · have := (List.pairwise_append.1 hR).2.2 x h2 y (by simp)
      simp only [ltI, decide_eq_true_eq] at this
      omega
    · simp only [List.mem_singleton] at h2
      omega
theorem topL_getD {l : List Int} (h : l ≠ []) : topL l = l.getD (l.length - 1) 0 := by
  rcases List.eq_nil_or_concat l with rfl | ⟨r, x, rfl⟩
  · exact absurd rfl h
  · rw [List.concat_eq_append, topL_snoc]; simp [List.getD]

/-- A good window: its greatest number t and its bits b. -/
def GoodW (t : Int) (b : Nat) : Prop := 0 ≤ t ∧ t ≤ 100000 ∧ b < 65536 ∧ (b % 2 = 1 ↔ 0 < t) ∧ ∀ k, k < 16 → b.testBit k = true → 1 ≤ t - (k : Int)

/-- What TakeNumber makes of a window. -/
def takeW (t : Int) (b : Nat) (n : Int) : (Int × Nat) × Int :=
  if 16 ≤ t - n then ((t, b), 2)
  else if 0 ≤ t - n ∧ b.testBit (t - n).toNat = true then ((t, b), 1)
  else if 0 ≤ t - n then ((t, b ||| 1 <<< (t - n).toNat), 0)
  else if 16 ≤ n - t then ((n, 1), 0)
  else ((n, ((b <<< (n - t).toNat) &&& 65535) ||| 1), 0)

/-- What one who has seen the numbers s says of n. -/
def codeL (s : List Int) (n : Int) : Int := if n ∈ s then 1 else if 16 ≤ topL s - n then 2 else 0

theorem goodW_top {t : Int} {b : Nat} (h : GoodW t b) : topL (RL 16 b t) = t := by
  obtain ⟨h0, h1, h2, h3, h4⟩ := h
  by_cases hb : b % 2 = 1
  · rw [RL, if_pos hb, topL_snoc]
  · have : t = 0 := by have := mt h3.2 hb; omega
    subst this
    have hz : RL 16 b 0 = [] := by
      rcases hl : RL 16 b 0 with _ | ⟨x, r⟩
      · rfl
      · exfalso
        have hx : x ∈ RL 16 b 0 := by rw [hl]; simp
        obtain ⟨k, hk, hkb, rfl⟩ := (RL_mem _ _ _ _).1 hx
        have := h4 k hk hkb
        omega
    rw [hz]; rfl
theorem goodW_pos {t : Int} {b : Nat} (h : GoodW t b) {x : Int} (hx : x ∈ RL 16 b t) : 1 ≤ x ∧ x ≤ t := by
  obtain ⟨k, hk, hkb, rfl⟩ := (RL_mem _ _ _ _).1 hx
  have := h.2.2.2.2 k hk hkb
  omega
theorem bit_lt {b k : Nat} (h : b < 65536) (hk : b.testBit k = true) : k < 16 := by
  rcases Nat.lt_or_ge k 16 with h1 | h1
  · exact h1
  · have : b < 2 ^ k := Nat.lt_of_lt_of_le h (show 2 ^ 16 ≤ 2 ^ k from Nat.pow_le_pow_right (by omega) h1)
    rw [Nat.testBit_lt_two_pow this] at hk
    cases hk

theorem goodW_mem {t : Int} {b : Nat} (h : GoodW t b) {n : Int} (hn : 0 ≤ t - n) : n ∈ RL 16 b t ↔ b.testBit (t - n).toNat = true := by
  rw [RL_mem]
  constructor
  · rintro ⟨k, hk, hkb, rfl⟩
    rw [show (t - (t - (k : Int))).toNat = k by omega]
    exact hkb
  · intro hb
    exact ⟨(t - n).toNat, bit_lt h.2.2.1 hb, hb, by omega⟩

theorem goodW_code {t : Int} {b : Nat} (h : GoodW t b) (n : Int) : codeL (RL 16 b t) n = (takeW t b n).2 := by
  unfold codeL takeW
  rw [goodW_top h]
  by_cases h1 : 16 ≤ t - n
  · have : n ∉ RL 16 b t := fun e => by have := RL_le e; omega
    rw [if_neg this, if_pos h1, if_pos h1]
  · rw [if_neg h1, if_neg h1]
    by_cases h2 : 0 ≤ t - n
    · by_cases h3 : b.testBit (t - n).toNat = true
      · rw [if_pos ((goodW_mem h h2).2 h3), if_pos ⟨h2, h3⟩]
      · rw [if_neg (fun e => h3 ((goodW_mem h h2).1 e)), if_neg (fun e => h3 e.2), if_pos h2]
    · have : n ∉ RL 16 b t := fun e => by have := RL_le e; omega
      rw [if_neg this, if_neg (fun e => h2 e.1), if_neg h2]
      split <;> rfl

theorem ins_top {t : Int} {b : Nat} (h : GoodW t b) {n : Int} (hn : 1 ≤ n) (hm : n ∉ RL 16 b t) : topL (insL ltI n (RL 16 b t)) = max t n := by
  refine topL_of (insL_ris ordI n (RL_ris _ _ _) hm) ?_ ?_
  · rw [insL_mem]
    by_cases h1 : t ≤ n
    · left; omega
    · right
      have : max t n = t := by omega
      rw [this]
      have h2 : b % 2 = 1 := h.2.2.2.1.2 (by omega)
      rw [RL, if_pos h2]; simp
  · intro x hx
    rcases (insL_mem (lt := ltI) n x _).1 hx with rfl | hx
    · omega
    · have := (goodW_pos h hx).2; omega

theorem decB {p : Prop} [Decidable p] {c : Bool} (h : p ↔ c = true) : decide p = c := by
  cases c
  · exact decide_eq_false (fun e => by cases h.1 e)
  · exact decide_eq_true (h.2 rfl)
theorem decAnd {p q : Prop} [Decidable p] [Decidable q] {c : Bool} (h : p ↔ q ∧ c = true) : decide p = (decide q && c) := by
  by_cases hq : q
  · rw [decide_eq_true hq, Bool.true_and]; exact decB ⟨fun e => (h.1 e).2, fun e => h.2 ⟨hq, e⟩⟩
  · rw [decide_eq_false hq, Bool.false_and]; exact decide_eq_false (fun e => hq (h.1 e).1)
theorem WB_ins (k : Nat) (T n : Int) (l : List Int) : (WB 16 T (insL ltI n l)).testBit k = (decide (k < 16) && decide (T - (k : Int) = n ∨ T - (k : Int) ∈ l)) := by
  rw [WB_bit]
  by_cases h : T - (k : Int) = n ∨ T - (k : Int) ∈ l
  · rw [decide_eq_true h, decide_eq_true ((insL_mem n _ l).2 h)]
  · rw [decide_eq_false h, decide_eq_false (fun e => h ((insL_mem n _ l).1 e))]

/-- What a number that is taken makes of the bits. -/
theorem take_bits {t : Int} {b : Nat} (h : GoodW t b) {n : Int} (hn : 1 ≤ n) (hc : (takeW t b n).2 = 0) : (takeW t b n).1 = (max t n, WB 16 (max t n) (insL ltI n (RL 16 b t))) := by
  have hb := h.2.2.1
  have hK := fun (k : Nat) (T : Int) => WB_ins k T n (RL 16 b t)
  unfold takeW at hc ⊢
  by_cases h1 : 16 ≤ t - n
  · rw [if_pos h1] at hc; cases hc
  rw [if_neg h1] at hc ⊢
  by_cases h2 : 0 ≤ t - n ∧ b.testBit (t - n).toNat = true
  · rw [if_pos h2] at hc; cases hc
  rw [if_neg h2] at hc ⊢
  by_cases h3 : 0 ≤ t - n
  · rw [if_pos h3]
    have hm : max t n = t := by omega
    rw [hm]
    refine Prod.ext rfl (Nat.eq_of_testBit_eq fun k => ?_)
    show (b ||| 1 <<< (t - n).toNat).testBit k = (WB 16 t (insL ltI n (RL 16 b t))).testBit k
    rw [hK, Nat.testBit_or, Nat.testBit_shiftLeft]
    by_cases hk : k < 16
    · rw [decide_eq_true hk, Bool.true_and]
      by_cases he : k = (t - n).toNat
      · have e1 : t - (k : Int) = n := by omega
        subst he
        rw [decide_eq_true (Or.inl e1)]
        simp
      · have e2 : ¬ t - (k : Int) = n := by omega
        have e3 : (1 : Nat).testBit (k - (t - n).toNat) = false ∨ ¬ k ≥ (t - n).toNat := by
          rcases Nat.lt_or_ge k (t - n).toNat with h4 | h4
          · right; omega
          · left
            have : 0 < k - (t - n).toNat := by omega
            rw [Nat.testBit_lt_two_pow (show (1 : Nat) < 2 ^ (k - (t - n).toNat) from Nat.one_lt_two_pow (by omega))]
        have e4 : (decide (k ≥ (t - n).toNat) && (1 : Nat).testBit (k - (t - n).toNat)) = false := by
          rcases e3 with e3 | e3
          · rw [e3, Bool.and_false]
          · rw [decide_eq_false e3, Bool.false_and]
        rw [e4, Bool.or_false]
        have e5 : (t - (k : Int) = n ∨ t - (k : Int) ∈ RL 16 b t) ↔ b.testBit k = true := by
          rw [or_iff_right e2, goodW_mem h (by omega), show (t - (t - (k : Int))).toNat = k by omega]
        exact (decB e5).symm
    · rw [decide_eq_false hk, Bool.false_and]
      have e1 : b.testBit k = false := by
        rcases hbk : b.testBit k with _ | _
        · rfl
        · exact absurd (bit_lt hb hbk) hk
      rw [e1, Bool.false_or]
      rw [Nat.testBit_lt_two_pow (show (1 : Nat) < 2 ^ (k - (t - n).toNat) from Nat.one_lt_two_pow (by omega)), Bool.and_false]
  rw [if_neg h3]
  have hm : max t n = n := by omega
  rw [hm]
  have hin : ∀ k : Nat, n - (k : Int) ∈ RL 16 b t ↔ (n - t).toNat ≤ k ∧ b.testBit (k - (n - t).toNat) = true := fun k => by
    rw [RL_mem]
    constructor
    · rintro ⟨k', hk', hkb, he⟩
      have : k - (n - t).toNat = k' := by omega
      rw [this]
      exact ⟨by omega, hkb⟩
    · rintro ⟨h4, h5⟩
      exact ⟨k - (n - t).toNat, bit_lt hb h5, h5, by omega⟩
  by_cases h5 : 16 ≤ n - t
  · rw [if_pos h5]
    refine Prod.ext rfl (Nat.eq_of_testBit_eq fun k => ?_)
    show (1 : Nat).testBit k = (WB 16 n (insL ltI n (RL 16 b t))).testBit k
    rw [hK]
    by_cases hk0 : k = 0
    · subst hk0
      rw [decide_eq_true (show n - ((0 : Nat) : Int) = n ∨ _ from Or.inl (by omega))]
      rfl
    · rw [Nat.testBit_lt_two_pow (show (1 : Nat) < 2 ^ k from Nat.one_lt_two_pow hk0)]
      by_cases hk : k < 16
      · rw [decide_eq_false (show ¬ (n - (k : Int) = n ∨ n - (k : Int) ∈ RL 16 b t) from ?_), Bool.and_false]
        rintro (e | e)
        · omega
        · have := ((hin k).1 e).1; omega
      · rw [decide_eq_false hk, Bool.false_and]
  · rw [if_neg h5]
    refine Prod.ext rfl (Nat.eq_of_testBit_eq fun k => ?_)
    show (((b <<< (n - t).toNat) &&& 65535) ||| 1).testBit k = (WB 16 n (insL ltI n (RL 16 b t))).testBit k
    rw [hK, Nat.testBit_or, Nat.testBit_and, Nat.testBit_shiftLeft]
    have e65 : (65535 : Nat).testBit k = decide (k < 16) := by
      rw [show (65535 : Nat) = 2 ^ 16 - 1 from rfl, Nat.testBit_two_pow_sub_one]
    rw [e65]
    by_cases hk0 : k = 0
    · subst hk0
      rw [decide_eq_true (show n - ((0 : Nat) : Int) = n ∨ _ from Or.inl (by omega))]
      simp
    · rw [Nat.testBit_lt_two_pow (show (1 : Nat) < 2 ^ k from Nat.one_lt_two_pow hk0), Bool.or_false, Bool.and_comm (decide (k < 16))]
      congr 1
      have e6 : (n - (k : Int) = n ∨ n - (k : Int) ∈ RL 16 b t) ↔ ((n - t).toNat ≤ k ∧ b.testBit (k - (n - t).toNat) = true) := by
        rw [or_iff_right (by omega), hin]
      exact (decAnd e6).symm

theorem take_good {t : Int} {b : Nat} (h : GoodW t b) {n : Int} (hn : 1 ≤ n) (hn2 : n ≤ 100000) : GoodW (takeW t b n).1.1 (takeW t b n).1.2 := by
  by_cases hc : (takeW t b n).2 = 0
  · have hm : n ∉ RL 16 b t := fun e => by
      have := goodW_code h n
      rw [hc] at this
      unfold codeL at this
      rw [if_pos e] at this
      cases this
    rw [take_bits h hn hc]
    refine ⟨by have := h.1; show 0 ≤ max t n; omega, by have := h.2.1; show max t n ≤ _; omega, WB_lt 16 _ _, ?_, ?_⟩
    · show _ ↔ 0 < max t n
      have e : (WB 16 (max t n) (insL ltI n (RL 16 b t))).testBit 0 = true := by
        rw [WB_bit]
        simp only [Bool.and_eq_true, decide_eq_true_eq]
        refine ⟨by omega, ?_⟩
        have h1 := ins_top h hn hm
        have h2 : insL ltI n (RL 16 b t) ≠ [] := fun e => by have := insL_length (lt := ltI) n (RL 16 b t); rw [e] at this; simp at this
        have h3 := topL_mem h2
        rw [h1] at h3
        simpa using h3
      rw [Nat.testBit_zero] at e
      simp only [decide_eq_true_eq] at e
      exact ⟨fun _ => by omega, fun _ => e⟩
    · intro k hk hkb
      show 1 ≤ max t n - (k : Int)
      rw [WB_bit] at hkb
      simp only [Bool.and_eq_true, decide_eq_true_eq] at hkb
      rcases (insL_mem (lt := ltI) n _ _).1 hkb.2 with e | e
      · omega
      · have := (goodW_pos h e).1; omega
  · have he : (takeW t b n).1 = (t, b) := by
      unfold takeW at hc ⊢
      by_cases h1 : 16 ≤ t - n
      · rw [if_pos h1]
      rw [if_neg h1] at hc ⊢
      by_cases h2 : 0 ≤ t - n ∧ b.testBit (t - n).toNat = true
      · rw [if_pos h2]
      rw [if_neg h2] at hc ⊢
      by_cases h3 : 0 ≤ t - n
      · rw [if_pos h3] at hc; exact absurd rfl hc
      rw [if_neg h3] at hc
      split at hc <;> exact absurd rfl hc
    rw [he]
    exact h

end Go.Proofs.YtjpegbodhpnflaaDoor
