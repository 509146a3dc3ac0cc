/- Chapter 16, plain facts of the two laws that draw: what the few bits tell and what one who remembers all would; windows that are joined. -/
import Derived.Test.YtjpegbodhpnflaaDoorJD16
import Derived.Test.YtjpegbodhpnflaaDoorPN16
namespace Go.Proofs.YtjpegbodhpnflaaDoor
set_option linter.unusedVariables false
set_option maxRecDepth 1000000
set_option linter.unusedSimpArgs false

/-- A window beside what one who remembers all has taken. -/
def RelM (s : List Int) (t : Int) (b : Nat) : Prop := GoodW t b ∧ topL s = t ∧ Ris ltI s ∧ (∀ x ∈ s, 1 ≤ x ∧ x ≤ 100000) ∧ ∀ x, t - x < 16 → (x ∈ RL 16 b t ↔ x ∈ s)

theorem rel_code {s : List Int} {t : Int} {b : Nat} (h : RelM s t b) (n : Int) : (takeW t b n).2 = if 16 ≤ t - n then 2 else codeL s n := by
  obtain ⟨hg, ht, _, _, hm⟩ := h
  rw [← goodW_code hg n]
  unfold codeL
  rw [goodW_top hg, ht]
  by_cases h1 : 16 ≤ t - n
  · have : n ∉ RL 16 b t := fun e => by have := RL_le e; omega
    rw [if_neg this, if_pos h1, if_pos h1]
  · rw [if_neg h1, if_neg h1]
    by_cases h2 : n ∈ s
    · rw [if_pos ((hm n (by omega)).2 h2), if_pos h2]
    · rw [if_neg (fun e => h2 ((hm n (by omega)).1 e)), if_neg h2]

theorem top_ins {s : List Int} (hR : Ris ltI s) (h0 : ∀ x ∈ s, 1 ≤ x ∧ x ≤ 100000) {n : Int} (hn : 1 ≤ n) (hm : n ∉ s) : topL (insL ltI n s) = max (topL s) n := by
  refine topL_of (insL_ris ordI n hR hm) ?_ ?_
  · rw [insL_mem]
    by_cases c3 : topL s ≤ n
    · left; omega
    · right
      rw [show max (topL s) n = topL s by omega]
      refine topL_mem (fun e => ?_)
      rw [e, topL_nil] at c3
      omega
  · intro x hx
    rcases (insL_mem (lt := ltI) n x _).1 hx with rfl | hx
    · omega
    · have := le_topL hR hx; omega

theorem rel_step {s : List Int} {t : Int} {b : Nat} (h : RelM s t b) {n : Int} (hn : 1 ≤ n ∧ n ≤ 100000) : RelM (if codeL s n = 0 then insL ltI n s else s) (takeW t b n).1.1 (takeW t b n).1.2 := by
  have hc := rel_code h n
  obtain ⟨hg, ht, hR, hB, hm⟩ := id h
  by_cases h1 : 16 ≤ t - n
  · rw [if_pos h1] at hc
    rw [takeW_same (by rw [hc]; decide)]
    have : codeL s n ≠ 0 := by
      unfold codeL
      rw [ht]
      split
      · decide
      · first | decide | (rw [if_pos h1]; decide)
    rw [if_neg this]
    exact h
  · rw [if_neg h1] at hc
    by_cases h2 : codeL s n = 0
    · rw [if_pos h2]
      rw [h2] at hc
      have hns : n ∉ s := code_zero h2
      have hG := take_good hg hn.1 hn.2
      rw [take_bits hg hn.1 hc] at hG ⊢
      refine ⟨hG, by rw [top_ins hR hB hn.1 hns, ht], insL_ris ordI n hR hns, fun x hx => ?_, fun x hx => ?_⟩
      · rcases (insL_mem (lt := ltI) n x _).1 hx with rfl | hx
        · exact hn
        · exact hB x hx
      · show x ∈ RL 16 (WB 16 (max t n) (insL ltI n (RL 16 b t))) (max t n) ↔ _
        have hx' : max t n - x < 16 := hx
        rw [insL_mem, RL_mem]
        constructor
        · rintro ⟨k, hk, hb, rfl⟩
          rw [WB_bit] at hb
          simp only [Bool.and_eq_true, decide_eq_true_eq] at hb
          rcases (insL_mem (lt := ltI) n _ _).1 hb.2 with e | e
          · exact Or.inl e
          · exact Or.inr ((hm _ (by omega)).1 e)
        · intro e
          have hle : x ≤ max t n := by
            rcases e with e | e
            · omega
            · have := le_topL hR e; omega
          refine ⟨(max t n - x).toNat, by omega, ?_, by omega⟩
          rw [WB_bit]
          simp only [Bool.and_eq_true, decide_eq_true_eq]
          refine ⟨by omega, ?_⟩
          rw [show max t n - (((max t n - x).toNat : Nat) : Int) = x by omega, insL_mem]
          rcases e with e | e
          · exact Or.inl e
          · exact Or.inr ((hm x (by omega)).2 e)
    · rw [if_neg h2]
      rw [takeW_same (by rw [hc]; exact h2)]
      exact h

theorem fold_code {α : Type} (f : α × List Int → Int → α × List Int) (g : α → Int → α) (hh : α → Int → Int) (hf : ∀ s n, f s n = (g s.1 n, s.2 ++ [hh s.1 n])) (a : α) (l : List Int) : ∀ k, k ≤ l.length → ((l.take k).foldl f (a, [])).2.length = k ∧ ∀ i, i < k → ((l.take k).foldl f (a, [])).2.getD i 0 = hh ((l.take i).foldl f (a, [])).1 (l.getD i 0)
  | 0, _ => ⟨by simp, fun i hi => by omega⟩
  | k + 1, hk => by
    obtain ⟨h1, h2⟩ := fold_code f g hh hf a l k (by omega)
    rw [fold_take f _ (by omega), hf]
    refine ⟨by show (_ ++ [_]).length = _; rw [List.length_append, h1]; rfl, fun i hi => ?_⟩
    show (((l.take k).foldl f (a, [])).2 ++ [_]).getD i 0 = _
    by_cases he : i < k
    · rw [← h2 i he]
      simp only [List.getD]
      rw [List.getElem?_append_left (by omega)]
    · obtain rfl : i = k := by omega
      simp only [List.getD]
      rw [List.getElem?_append_right (by omega), h1]
      simp

theorem rel_fold {l : List Int} (hl : ∀ x ∈ l, 1 ≤ x ∧ x ≤ 100000) : ∀ k, k ≤ l.length → RelM ((l.take k).foldl stepA ([], [])).1 ((l.take k).foldl stepN ((0, 0), [])).1.1 ((l.take k).foldl stepN ((0, 0), [])).1.2
  | 0, _ => ⟨good_zero, rfl, List.Pairwise.nil, fun x h => absurd h (by simp), fun x _ => by
      show x ∈ RL 16 0 0 ↔ x ∈ ([] : List Int)
      rw [RL_zero]⟩
  | k + 1, hk => by
    have h := rel_fold hl k (by omega)
    rw [fold_take stepA _ (by omega), fold_take stepN _ (by omega)]
    exact rel_step h (hl _ (mem_getD 0 (by omega)))

theorem stepA_1 (s : List Int × List Int) (n : Int) : (stepA s n).1 = if codeL s.1 n = 0 then insL ltI n s.1 else s.1 := rfl
theorem taken_mono (l : List Int) (x : Int) : ∀ (d k : Nat), k + d ≤ l.length → x ∈ ((l.take k).foldl stepA ([], [])).1 → x ∈ ((l.take (k + d)).foldl stepA ([], [])).1
  | 0, k, _, h => h
  | d + 1, k, hk, h => by
    have h2 := taken_mono l x d k (by omega) h
    rw [show k + (d + 1) = (k + d) + 1 by omega, fold_take stepA _ (by omega), stepA_1]
    split
    · exact (insL_mem (lt := ltI) _ _ _).2 (Or.inr h2)
    · exact h2

/-- What the codes of both tell, place by place. -/
theorem codes_told {l : List Int} (hok : playOk l = true) : (codesV l).length = l.length ∧ (allV l).length = l.length ∧ (∀ i, i < l.length → (codesV l).getD i 0 = (allV l).getD i 0 ∨ ((allV l).getD i 0 = 1 ∧ (codesV l).getD i 0 = 2)) ∧ ∀ i k, k < i → i < l.length → l.getD k 0 = l.getD i 0 → (codesV l).getD k 0 = 0 → (codesV l).getD i 0 ≠ 0 := by
  obtain ⟨_, hl⟩ := playOk_all hok
  have eC : codesV l = (l.foldl stepN ((0, 0), [])).2 := by unfold codesV; rw [if_pos hok]
  have eA : allV l = (l.foldl stepA ([], [])).2 := by unfold allV; rw [if_pos hok]
  obtain ⟨c1, c2⟩ := fold_code stepN (fun s n => (takeW s.1 s.2 n).1) (fun s n => (takeW s.1 s.2 n).2) (fun s n => rfl) (0, 0) l l.length (Nat.le_refl _)
  obtain ⟨a1, a2⟩ := fold_code stepA (fun s n => if codeL s n = 0 then insL ltI n s else s) codeL (fun s n => rfl) [] l l.length (Nat.le_refl _)
  rw [List.take_length] at c1 c2 a1 a2
  rw [eC, eA]
  refine ⟨c1, a1, fun i hi => ?_, fun i k hki hi he hz => ?_⟩
  · rw [c2 i hi, a2 i hi, rel_code (rel_fold hl i (by omega))]
    have hr := rel_fold hl i (by omega)
    by_cases h1 : 16 ≤ ((l.take i).foldl stepN ((0, 0), [])).1.1 - l.getD i 0
    · rw [if_pos h1]
      have : codeL ((l.take i).foldl stepA ([], [])).1 (l.getD i 0) = 1 ∨ codeL ((l.take i).foldl stepA ([], [])).1 (l.getD i 0) = 2 := by
        unfold codeL
        rw [hr.2.1]
        split
        · exact Or.inl rfl
        · first | exact Or.inr rfl | (rw [if_pos h1]; exact Or.inr rfl)
      rcases this with e | e
      · exact Or.inr ⟨e, rfl⟩
      · exact Or.inl e.symm
    · rw [if_neg h1]
      exact Or.inl rfl
  · rw [c2 k (by omega), rel_code (rel_fold hl k (by omega))] at hz
    rw [c2 i hi, rel_code (rel_fold hl i (by omega))]
    split at hz
    · cases hz
    · have hin : l.getD k 0 ∈ ((l.take (k + 1)).foldl stepA ([], [])).1 := by
        rw [fold_take stepA _ (by omega), stepA_1, if_pos hz]
        exact (insL_mem (lt := ltI) _ _ _).2 (Or.inl rfl)
      have hin2 := taken_mono l _ (i - (k + 1)) (k + 1) (by omega) hin
      rw [show k + 1 + (i - (k + 1)) = i by omega, he] at hin2
      split
      · decide
      · unfold codeL
        rw [if_pos hin2]
        decide

/-- A number taken and taken again. -/
theorem take_twice {t x n : Int} (hok : takeOk t x n = true) : goodWn (takeT t x n).1.1 (takeT t x n).1.2 = true ∧ takeOk (takeT t x n).1.1 (takeT t x n).1.2 n = true ∧ 0 < (takeT (takeT t x n).1.1 (takeT t x n).1.2 n).2 ∧ (takeT (takeT t x n).1.1 (takeT t x n).1.2 n).1 = (takeT t x n).1 ∧ t ≤ (takeT t x n).1.1 := by
  unfold takeOk at hok
  rw [Bool.and_eq_true] at hok
  obtain ⟨hg, hp⟩ := hok
  obtain ⟨hx0, hG⟩ := goodWn_of hg
  obtain ⟨b, rfl⟩ : ∃ b : Nat, x = b := ⟨x.toNat, by omega⟩
  rw [Int.toNat_natCast] at hG
  have hn := playB_bd hp
  have hG2 := take_good hG hn.1 hn.2
  obtain ⟨e1, e2⟩ := takeT_good hG hp
  obtain ⟨f1, f2⟩ := takeT_good hG2 hp
  rw [e1]
  show goodWn (takeW t b n).1.1 ((takeW t b n).1.2 : Nat) = true ∧ takeOk (takeW t b n).1.1 ((takeW t b n).1.2 : Nat) n = true ∧ 0 < (takeT (takeW t b n).1.1 ((takeW t b n).1.2 : Nat) n).2 ∧ (takeT (takeW t b n).1.1 ((takeW t b n).1.2 : Nat) n).1 = _ ∧ t ≤ (takeW t b n).1.1
  rw [f1]
  have hcode : (takeW (takeW t b n).1.1 (takeW t b n).1.2 n).2 ≠ 0 := by
    by_cases hc : (takeW t b n).2 = 0
    · have hm : n ∉ RL 16 b t := by
        have h9 := goodW_code hG n
        rw [hc] at h9
        exact code_zero h9
      rw [← goodW_code hG2 n]
      unfold codeL
      rw [take_bits hG hn.1 hc]
      split
      · decide
      · rename_i h9
        by_cases h8 : 16 ≤ topL (RL 16 (WB 16 (max t n) (insL ltI n (RL 16 b t))) (max t n)) - n
        · rw [if_pos h8]; decide
        · exfalso
          rw [take_bits hG hn.1 hc] at hG2
          have ht := goodW_top hG2
          simp only at ht h9
          rw [ht] at h8
          apply h9
          rw [RL_mem]
          refine ⟨(max t n - n).toNat, by omega, ?_, by omega⟩
          rw [WB_bit]
          simp only [Bool.and_eq_true, decide_eq_true_eq]
          refine ⟨by omega, ?_⟩
          rw [show max t n - (((max t n - n).toNat : Nat) : Int) = n by omega]
          exact (insL_mem (lt := ltI) _ _ _).2 (Or.inl rfl)
    · rw [takeW_same hc]
      exact hc
  have hpos : 0 ≤ (takeW (takeW t b n).1.1 (takeW t b n).1.2 n).2 := by
    unfold takeW
    repeat' split
    all_goals simp
  refine ⟨goodWn_at hG2, f2, ?_, ?_, ?_⟩
  · show 0 < (takeW (takeW t b n).1.1 (takeW t b n).1.2 n).2
    omega
  · show ((takeW (takeW t b n).1.1 (takeW t b n).1.2 n).1.1, (((takeW (takeW t b n).1.1 (takeW t b n).1.2 n).1.2 : Nat) : Int)) = _
    rw [takeW_same hcode]
  · by_cases hc : (takeW t b n).2 = 0
    · rw [take_bits hG hn.1 hc]
      show t ≤ max t n
      omega
    · rw [takeW_same hc]
      exact Int.le_refl _

theorem join_good {t u : Int} {b d : Nat} (h1 : GoodW t b) (h2 : GoodW u d) : GoodW (max t u) (WB 16 (max t u) (joinL (RL 16 b t) (RL 16 d u))) := by
  have hmem := (joinL_facts (RL 16 b t) (RL 16 d u)).2
  have := h1.1
  have := h1.2.1
  have := h2.1
  have := h2.2.1
  refine ⟨by omega, by omega, WB_lt 16 _ _, ?_, ?_⟩
  · constructor
    · intro e
      have hb : (WB 16 (max t u) (joinL (RL 16 b t) (RL 16 d u))).testBit 0 = true := by rw [Nat.testBit_zero]; simpa using e
      rw [WB_bit] at hb
      simp only [Bool.and_eq_true, decide_eq_true_eq] at hb
      rcases (hmem _).1 hb.2 with e | e
      · have := goodW_pos h1 e; omega
      · have := goodW_pos h2 e; omega
    · intro e
      have hb : (WB 16 (max t u) (joinL (RL 16 b t) (RL 16 d u))).testBit 0 = true := by
        rw [WB_bit]
        simp only [Bool.and_eq_true, decide_eq_true_eq]
        refine ⟨by omega, ?_⟩
        rw [hmem]
        by_cases c : u ≤ t
        · left
          rw [show max t u - ((0 : Nat) : Int) = t by omega]
          exact goodW_self h1 (by omega)
        · right
          rw [show max t u - ((0 : Nat) : Int) = u by omega]
          exact goodW_self h2 (by omega)
      rw [Nat.testBit_zero] at hb
      simpa using hb
  · intro k hk hb
    rw [WB_bit] at hb
    simp only [Bool.and_eq_true, decide_eq_true_eq] at hb
    rcases (hmem _).1 hb.2 with e | e
    · have := goodW_pos h1 e; omega
    · have := goodW_pos h2 e; omega

/-- What is told of two windows that were joined. -/
theorem join_told {t x u y : Int} (hok : joinOk t x u y = true) : goodWn (joinT t x u y).1 (joinT t x u y).2 = true ∧ joinOk u y t x = true ∧ joinT u y t x = joinT t x u y ∧ joinOk (joinT t x u y).1 (joinT t x u y).2 t x = true ∧ joinT (joinT t x u y).1 (joinT t x u y).2 t x = joinT t x u y ∧ (∀ n ∈ seenV (joinT t x u y).1 (joinT t x u y).2, (n ∈ seenV t x ∨ n ∈ seenV u y) ∧ lowV (joinT t x u y).1 (joinT t x u y).2 ≤ n) ∧ ∀ n ∈ seenV t x ++ seenV u y, lowV (joinT t x u y).1 (joinT t x u y).2 ≤ n → n ∈ seenV (joinT t x u y).1 (joinT t x u y).2 := by
  have hok' := hok
  unfold joinOk at hok'
  rw [Bool.and_eq_true] at hok'
  obtain ⟨h1, h2⟩ := hok'
  obtain ⟨hx0, hG1⟩ := goodWn_of h1
  obtain ⟨hy0, hG2⟩ := goodWn_of h2
  obtain ⟨b, rfl⟩ : ∃ b : Nat, x = b := ⟨x.toNat, by omega⟩
  obtain ⟨d, rfl⟩ : ∃ d : Nat, y = d := ⟨y.toNat, by omega⟩
  rw [Int.toNat_natCast] at hG1 hG2
  have hJ := join_good hG1 hG2
  have hmem := (joinL_facts (RL 16 b t) (RL 16 d u)).2
  have eJ : joinT t b u d = (max t u, ((WB 16 (max t u) (joinL (RL 16 b t) (RL 16 d u)) : Nat) : Int)) := by
    unfold joinT
    rw [if_pos hok, Int.toNat_natCast, Int.toNat_natCast]
  rw [eJ]
  have hle : ∀ n : Int, n ∈ RL 16 b t ∨ n ∈ RL 16 d u → n ≤ max t u := fun n e => by
    rcases e with e | e
    · have := goodW_le hG1 e; omega
    · have := goodW_le hG2 e; omega
  have hbit := fun k => WB_bit 16 k (max t u) (joinL (RL 16 b t) (RL 16 d u))
  have hsw : WB 16 (max u t) (joinL (RL 16 d u) (RL 16 b t)) = WB 16 (max t u) (joinL (RL 16 b t) (RL 16 d u)) := by
    rw [show max u t = max t u by omega]
    refine WB_congr (fun n => ?_) 16 (max t u)
    rw [hmem, (joinL_facts _ _).2, or_comm]
  have hTu : max u t = max t u := by omega
  have hTt : max (max t u) t = max t u := by omega
  generalize WB 16 (max t u) (joinL (RL 16 b t) (RL 16 d u)) = J at *
  generalize max t u = T at *
  have gJ := goodWn_at hJ
  have o2 : joinOk u d t b = true := by unfold joinOk; rw [h1, h2]; rfl
  have o3 : joinOk T (J : Int) t b = true := by unfold joinOk; rw [gJ, h1]; rfl
  have hin : ∀ n : Int, n ∈ RL 16 J T ↔ (n ∈ RL 16 b t ∨ n ∈ RL 16 d u) ∧ T - n < 16 := by
    intro n
    rw [RL_mem]
    constructor
    · rintro ⟨k, hk, hb, rfl⟩
      rw [hbit] at hb
      simp only [Bool.and_eq_true, decide_eq_true_eq] at hb
      exact ⟨(hmem _).1 hb.2, by omega⟩
    · rintro ⟨e, hlt⟩
      have h9 := hle n e
      refine ⟨(T - n).toNat, by omega, ?_, by omega⟩
      rw [hbit]
      simp only [Bool.and_eq_true, decide_eq_true_eq]
      refine ⟨by omega, ?_⟩
      rw [show T - (((T - n).toNat : Nat) : Int) = n by omega]
      exact (hmem n).2 e
  have e5 : WB 16 T (joinL (RL 16 J T) (RL 16 b t)) = J := by
    refine Nat.eq_of_testBit_eq fun k => ?_
    rw [WB_bit, hbit]
    by_cases hk : k < 16
    · have e : (T - (k : Int) ∈ joinL (RL 16 J T) (RL 16 b t)) ↔ T - (k : Int) ∈ joinL (RL 16 b t) (RL 16 d u) := by
        rw [(joinL_facts _ _).2, hmem, hin]
        constructor
        · rintro (⟨e, _⟩ | e)
          · exact e
          · exact Or.inl e
        · intro e
          exact Or.inl ⟨e, by omega⟩
      rw [decide_eq_decide.2 e]
    · rw [decide_eq_false hk, Bool.false_and, Bool.false_and]
  show goodWn T (J : Int) = true ∧ _
  refine ⟨gJ, o2, ?_, o3, ?_, ?_, ?_⟩
  · unfold joinT
    rw [if_pos o2, Int.toNat_natCast, Int.toNat_natCast, hsw, hTu]
  · show joinT T (J : Int) t b = _
    unfold joinT
    rw [if_pos o3, Int.toNat_natCast, Int.toNat_natCast, hTt, e5]
  all_goals
    show ∀ n ∈ _, _
    unfold seenV lowV
    rw [h1, h2, gJ, if_pos rfl, if_pos rfl, if_pos rfl, if_pos rfl, Int.toNat_natCast, Int.toNat_natCast, Int.toNat_natCast]
    intro n hn
  · have h9 := (hin n).1 hn
    refine ⟨h9.1, ?_⟩
    split
    · have := goodW_pos hJ hn; omega
    · omega
  · intro hlow
    rw [hin]
    refine ⟨List.mem_append.1 hn, ?_⟩
    split at hlow
    · have hp : 1 ≤ n := by
        rcases List.mem_append.1 hn with e | e
        · exact (goodW_pos hG1 e).1
        · exact (goodW_pos hG2 e).1
      omega
    · omega

end Go.Proofs.YtjpegbodhpnflaaDoor
