/- Chapter 14: plain facts: tallies, scores, ranks, ways, debits. -/
import Derived.Test.YtleddlfojogdiaaGreatCP12
import Derived.Sort.LotA
namespace Go.Proofs.YtleddlfojogdiaaGreat
set_option linter.unusedVariables false
set_option maxRecDepth 1000000
set_option linter.unusedSimpArgs false

abbrev Ta := Int × Int × Int

def taAt (t : Ta) (i : Int) : Bool := decide (t.1 = i) && (inB t.2.1 0 100 && inB t.2.2 0 100)

def taB (t : Ta) : Bool := inB t.1 0 11 && (inB t.2.1 0 100 && inB t.2.2 0 100)

def tasAt (l : List Ta) : Bool := (List.range l.length).all fun i => taAt (l.getD i (0, 0, 0)) i

def tasB (l : List Ta) : Bool := tasAt l && inB l.length 1 12

theorem tasAt_of {l : List Ta} (h : ∀ j, j < l.length → taAt (l.getD j (0, 0, 0)) j = true) : tasAt l = true := by
  unfold tasAt
  rw [List.all_eq_true]
  intro x hx
  exact h x (by simpa using hx)

theorem tasAt_at {l : List Ta} (h : tasAt l = true) {j : Nat} (hj : j < l.length) : taAt (l.getD j (0, 0, 0)) j = true := by
  unfold tasAt at h
  rw [List.all_eq_true] at h
  exact h j (by simpa using hj)

theorem tasAt_no {l : List Ta} {j : Nat} (hj : j < l.length) (h : taAt (l.getD j (0, 0, 0)) j = false) : tasAt l = false := by
  rw [Bool.eq_false_iff]
  intro g
  rw [tasAt_at g hj] at h
  cases h

theorem taAt_iff {t : Ta} {i : Int} : taAt t i = true ↔ t.1 = i ∧ 0 ≤ t.2.1 ∧ t.2.1 ≤ 100 ∧ 0 ≤ t.2.2 ∧ t.2.2 ≤ 100 := by
  unfold taAt inB
  simp only [Bool.and_eq_true, decide_eq_true_eq]
  omega

/-- The score of a tally. -/
def scoreT (t : Ta) : Int := Int.tdiv (100 * (t.2.1 + 1)) (t.2.1 + t.2.2 + 2)

/-- The score of a hand. -/
def scH (l : List Ta) (h : Int) : Int := scoreT (l.getD h.toNat (0, 0, 0))

/-- Hand a stands ahead of hand b. -/
def ltH (l : List Ta) (a b : Int) : Prop := scH l b < scH l a ∨ (scH l a = scH l b ∧ a < b)

theorem ltH_irrefl (l : List Ta) (a : Int) : ¬ ltH l a a := by unfold ltH; omega

theorem ltH_trans {l : List Ta} {a b c : Int} (h : ltH l a b) (k : ltH l b c) : ltH l a c := by unfold ltH at *; omega

/-- Two rows of the same hands in this order are one. -/
theorem ltH_ext {l : List Ta} {p q : List Int} (hp : p.Pairwise (ltH l)) (hq : q.Pairwise (ltH l)) (h : ∀ x, x ∈ p ↔ x ∈ q) : p = q := by
  have np : p.Nodup := List.Pairwise.imp (fun {a b} hab e => by rw [e] at hab; exact ltH_irrefl _ _ hab) hp
  have nq : q.Nodup := List.Pairwise.imp (fun {a b} hab e => by rw [e] at hab; exact ltH_irrefl _ _ hab) hq
  exact List.Perm.eq_of_pairwise (le := ltH l) (fun a b _ _ h1 h2 => absurd (ltH_trans h1 h2) (ltH_irrefl _ _)) hp hq ((List.perm_ext_iff_of_nodup np nq).2 h)

/-- The first place at which a hand has a lesser score than h. -/
def posR (l : List Ta) (out : List Int) (h : Int) : Nat := (out.takeWhile (fun k => decide (scH l k ≥ scH l h))).length

def insR (l : List Ta) (out : List Int) (h : Int) : List Int := out.take (posR l out h) ++ [h] ++ out.drop (posR l out h)

theorem posR_le (l : List Ta) (out : List Int) (h : Int) : posR l out h ≤ out.length := by
  unfold posR
  exact (List.takeWhile_sublist _).length_le

theorem posR_lt {l : List Ta} {h : Int} : ∀ {out : List Int} {k : Nat}, k < posR l out h → scH l (out.getD k 0) ≥ scH l h := by
  intro out
  induction out with
  | nil => intro k g; simp [posR] at g
  | cons x r ih =>
    intro k g
    unfold posR at g
    rw [List.takeWhile_cons] at g
    split at g
    · rename_i hx
      cases k with
      | zero => exact of_decide_eq_true hx
      | succ k =>
        have : k < posR l r h := by unfold posR; simpa using g
        simpa using ih this
    · simp at g

theorem posR_at {l : List Ta} {h : Int} : ∀ {out : List Int}, posR l out h < out.length → scH l (out.getD (posR l out h) 0) < scH l h := by
  intro out
  induction out with
  | nil => intro g; simp at g
  | cons x r ih =>
    intro g
    by_cases hx : decide (scH l x ≥ scH l h) = true
    · have e : posR l (x :: r) h = posR l r h + 1 := by unfold posR; rw [List.takeWhile_cons, if_pos hx]; rfl
      rw [e] at g ⊢
      have := ih (by simpa using g)
      simpa using this
    · have e : posR l (x :: r) h = 0 := by unfold posR; rw [List.takeWhile_cons, if_neg hx]; rfl
      rw [e]
      simp only [decide_eq_true_eq] at hx
      simpa using hx

/-- The ranks of the first m hands, one put in behind the other. -/
def rankTo (l : List Ta) (m : Nat) : List Int := (List.range m).foldl (fun out h => insR l out (h : Nat)) []

def rankL (l : List Ta) : List Int := rankTo l l.length

theorem rankTo_succ (l : List Ta) (m : Nat) : rankTo l (m + 1) = insR l (rankTo l m) (m : Nat) := by
  unfold rankTo
  rw [List.range_succ, List.foldl_append]
  rfl

theorem rankTo_all (l : List Ta) : ∀ m, (rankTo l m).Pairwise (ltH l) ∧ (∀ x, x ∈ rankTo l m ↔ 0 ≤ x ∧ x < m) ∧ (rankTo l m).length = m := by
  intro m
  induction m with
  | zero => exact ⟨List.Pairwise.nil, fun x => by simp [rankTo], by simp [rankTo]⟩
  | succ m ih =>
    obtain ⟨hp, hm, hl⟩ := ih
    rw [rankTo_succ]
    unfold insR
    generalize hP : posR l (rankTo l m) (m : Nat) = p
    have hple : p ≤ (rankTo l m).length := by rw [← hP]; exact posR_le _ _ _
    refine ⟨?_, fun x => ?_, ?_⟩
    · have hb : ∀ x ∈ (rankTo l m).take p, ltH l x (m : Nat) := by
        intro x hx
        have hxm := (hm x).1 (List.mem_of_mem_take hx)
        obtain ⟨k, hk, rfl⟩ := List.getElem_of_mem hx
        have hk' := hk
        rw [List.length_take] at hk'
        have := posR_lt (l := l) (out := rankTo l m) (h := (m : Nat)) (k := k) (by omega)
        rw [List.getD, List.getElem?_eq_getElem (by omega), Option.getD_some] at this
        simp only [List.getElem_take] at hxm ⊢
        unfold ltH
        omega
      have ha : ∀ x ∈ (rankTo l m).drop p, ltH l (m : Nat) x := by
        intro x hx
        obtain ⟨k, hk, rfl⟩ := List.getElem_of_mem hx
        rw [List.length_drop] at hk
        have hpl : posR l (rankTo l m) (m : Nat) < (rankTo l m).length := by omega
        have h0 := posR_at hpl
        rw [List.getD, List.getElem?_eq_getElem hpl, Option.getD_some] at h0
        simp only [hP] at h0
        rw [List.getElem_drop]
        cases k with
        | zero => unfold ltH; left; simpa using h0
        | succ k =>
          have := (List.pairwise_iff_getElem.1 hp) p (p + (k + 1)) (by omega) (by omega) (by omega)
          unfold ltH at *
          omega
      show List.Pairwise _ _
      rw [List.append_assoc, List.pairwise_append]
      refine ⟨List.Pairwise.sublist (List.take_sublist _ _) hp, ?_, fun a hA b hB => ?_⟩
      · rw [List.singleton_append, List.pairwise_cons]
        exact ⟨ha, List.Pairwise.sublist (List.drop_sublist _ _) hp⟩
      · rw [List.singleton_append, List.mem_cons] at hB
        rcases hB with rfl | hB
        · exact hb a hA
        · exact ltH_trans (hb a hA) (ha b hB)
    · have : x ∈ rankTo l m ↔ x ∈ (rankTo l m).take p ∨ x ∈ (rankTo l m).drop p := by
        rw [← List.mem_append, List.take_append_drop]
      rw [List.append_assoc, List.mem_append, List.singleton_append, List.mem_cons]
      have h2 := hm x
      rw [this] at h2
      constructor
      · rintro (h | rfl | h)
        · have := h2.1 (Or.inl h); omega
        · omega
        · have := h2.1 (Or.inr h); omega
      · intro h
        by_cases e : x = (m : Nat)
        · exact Or.inr (Or.inl e)
        · rcases h2.2 (by omega) with h | h
          · exact Or.inl h
          · exact Or.inr (Or.inr h)
    · simp only [List.length_append, List.length_take, List.length_drop, List.length_cons, List.length_nil]
      omega

theorem rankL_length (l : List Ta) : (rankL l).length = l.length := (rankTo_all l l.length).2.2

theorem rankL_mem (l : List Ta) (x : Int) : x ∈ rankL l ↔ 0 ≤ x ∧ x < l.length := (rankTo_all l l.length).2.1 x

theorem rankL_ord (l : List Ta) : (rankL l).Pairwise (ltH l) := (rankTo_all l l.length).1

/-- Both orders of tallies: by scores alone, and by scores and then by hands. -/
def ltS (x y : Ta) : Bool := decide (scoreT y < scoreT x)
def ltP (x y : Ta) : Bool := decide (scoreT y < scoreT x) || (decide (scoreT x = scoreT y) && decide (x.1 < y.1))

theorem ltP_iff {x y : Ta} : ltP x y = true ↔ scoreT y < scoreT x ∨ (scoreT x = scoreT y ∧ x.1 < y.1) := by
  unfold ltP
  simp only [Bool.or_eq_true, Bool.and_eq_true, decide_eq_true_eq]

theorem ltP_no {x y : Ta} : ltP x y = false ↔ ¬ (scoreT y < scoreT x ∨ (scoreT x = scoreT y ∧ x.1 < y.1)) := by
  rw [Bool.eq_false_iff, Ne, ltP_iff]

theorem ltP_of {x y : Ta} (h : y.1 ≤ x.1) : ltS x y = ltP x y := by
  unfold ltS ltP
  have : decide (x.1 < y.1) = false := by simpa using h
  rw [this]
  simp

theorem ltP_swo : Go.Sort.SWO ltP where
  irrefl x := by rw [ltP_no]; omega
  trans x y z h1 h2 := by rw [ltP_iff] at *; omega
  ntrans x y z h1 h2 := by rw [ltP_no] at *; omega

theorem insInner_eq : ∀ (j : Nat) (d : Array Ta), j < d.size → (∀ m, m < j → (d[m]!).1 ≤ (d[j]!).1) → Go.Sort.insInner ltS 0 j d = Go.Sort.insInner ltP 0 j d
  | 0, d, _, _ => by unfold Go.Sort.insInner; rfl
  | j + 1, d, hj, h => by
    unfold Go.Sort.insInner
    rw [ltP_of (h j (by omega))]
    split
    · refine insInner_eq j _ (by rw [Go.Sort.swp_size]; omega) (fun m hm => ?_)
      rw [Go.Sort.swp_other _ _ _ _ (by omega) (by omega), Go.Sort.swp_right _ _ _ (by omega)]
      exact h m (by omega)
    · rfl

theorem insInner_keep (lt : Ta → Ta → Bool) (c : Int) : ∀ (j : Nat) (d : Array Ta), j < d.size → (Go.Sort.insInner lt 0 j d).size = d.size ∧ (∀ m, j < m → (Go.Sort.insInner lt 0 j d)[m]! = d[m]!) ∧ ((∀ m, m ≤ j → (d[m]!).1 < c) → ∀ m, m ≤ j → ((Go.Sort.insInner lt 0 j d)[m]!).1 < c)
  | 0, d, _ => by unfold Go.Sort.insInner; exact ⟨rfl, fun _ _ => rfl, fun h => h⟩
  | j + 1, d, hj => by
    unfold Go.Sort.insInner
    split
    · obtain ⟨h1, h2, h3⟩ := insInner_keep lt c j (Go.Sort.swp d (j + 1) j) (by rw [Go.Sort.swp_size]; omega)
      refine ⟨by rw [h1, Go.Sort.swp_size], fun m hm => ?_, fun h m hm => ?_⟩
      · rw [h2 m (by omega), Go.Sort.swp_other _ _ _ _ (by omega) (by omega)]
      · by_cases e : m = j + 1
        · subst e
          rw [h2 _ (by omega), Go.Sort.swp_left _ _ _ hj (by omega)]
          exact h j (by omega)
        · refine h3 (fun m hm => ?_) m (by omega)
          by_cases e2 : m = j
          · subst e2
            rw [Go.Sort.swp_right _ _ _ (by omega)]
            exact h _ (by omega)
          · rw [Go.Sort.swp_other _ _ _ _ (by omega) e2]
            exact h m (by omega)
    · exact ⟨rfl, fun _ _ => rfl, fun h => h⟩

theorem insOuter_eq (b : Nat) : ∀ (n i : Nat) (d : Array Ta), b - i = n → b ≤ d.size → (∀ m, m < i → (d[m]!).1 < i) → (∀ m, i ≤ m → m < b → (d[m]!).1 = m) → Go.Sort.insOuter ltS 0 b i d = Go.Sort.insOuter ltP 0 b i d
  | 0, i, d, hn, _, _, _ => by
    rw [Go.Sort.insOuter, if_neg (by omega)]
    rw [Go.Sort.insOuter, if_neg (by omega)]
  | n + 1, i, d, hn, hb, h1, h2 => by
    have hlt : i < b := by omega
    rw [Go.Sort.insOuter, if_pos hlt]
    conv => rhs; rw [Go.Sort.insOuter, if_pos hlt]
    rw [insInner_eq i d (by omega) (fun m hm => by have := h1 m hm; have := h2 i (Nat.le_refl _) hlt; omega)]
    obtain ⟨k1, k2, k3⟩ := insInner_keep ltP ((i : Int) + 1) i d (by omega)
    refine insOuter_eq b n (i + 1) _ (by omega) (by rw [k1]; exact hb) (fun m hm => ?_) (fun m hm hm2 => ?_)
    · have := k3 (fun q hq => by
        by_cases e : q = i
        · subst e; have := h2 q (Nat.le_refl _) hlt; omega
        · have := h1 q (by omega); omega) m (by omega)
      omega
    · rw [k2 m (by omega)]
      exact h2 m (by omega) hm2

/-- Tallies in order, sorted by scores, stably: their hands are the ranks. -/
theorem rank_sorted (l : List Ta) (hg : tasAt l = true) : (Go.Sort.insertionSort ltS l.toArray 0 l.length).toList.map (fun t => t.1) = rankL l := by
  have hat : ∀ m, m < l.length → (l.toArray[m]!) = l.getD m (0, 0, 0) := fun m hm => by
    simp [List.getD, hm]
  have h1 : ∀ m, m < l.length → (l.getD m (0, 0, 0)).1 = m := fun m hm => (taAt_iff.1 (tasAt_at hg hm)).1
  have e : Go.Sort.insertionSort ltS l.toArray 0 l.length = Go.Sort.insertionSort ltP l.toArray 0 l.length := by
    unfold Go.Sort.insertionSort
    by_cases h0 : l.length = 0
    · rw [Go.Sort.insOuter, if_neg (by omega)]
      rw [Go.Sort.insOuter, if_neg (by omega)]
    · refine insOuter_eq l.length _ 1 l.toArray rfl (by simp) (fun m hm => ?_) (fun m hm hm2 => ?_)
      · obtain rfl : m = 0 := by omega
        rw [hat 0 (by omega), h1 0 (by omega)]
        decide
      · rw [hat m hm2, h1 m hm2]
  rw [e]
  obtain ⟨⟨hs, _, hp⟩, ho⟩ := Go.Sort.insertionSort_holds (lt := ltP) ltP_swo l.toArray 0 l.length (Nat.zero_le _) (by simp)
  generalize Go.Sort.insertionSort ltP l.toArray 0 l.length = d at *
  have hsz : d.size = l.length := by simpa using hs
  have hperm : d.toList.Perm l := by
    have e1 : d.extract 0 l.length = d := by rw [← hsz]; simp
    rw [e1] at hp
    simpa using hp
  have hmem : ∀ t ∈ d.toList, scH l t.1 = scoreT t := by
    intro t ht
    obtain ⟨m, hm, rfl⟩ := List.getElem_of_mem (hperm.mem_iff.1 ht)
    have h2 := h1 m hm
    have h3 : l.getD m (0, 0, 0) = l[m] := by simp [List.getD, hm]
    rw [h3] at h2
    unfold scH
    rw [h2]
    simp only [Int.toNat_natCast]
    rw [h3]
  have hnd : (d.toList.map (fun t => t.1)).Nodup := by
    rw [(hperm.map (fun t => t.1)).nodup_iff]
    rw [List.nodup_iff_pairwise_ne, List.pairwise_iff_getElem]
    intro i j hi hj hij
    simp only [List.length_map] at hi hj
    have hi2 := h1 i hi
    have hj2 := h1 j hj
    simp only [List.getD, List.getElem?_eq_getElem hi, List.getElem?_eq_getElem hj, Option.getD_some] at hi2 hj2
    rw [List.getElem_map, List.getElem_map, hi2, hj2]
    omega
  refine ltH_ext (l := l) ?_ (rankL_ord l) (fun x => ?_)
  · rw [List.pairwise_iff_getElem]
    intro i j hi hj hij
    simp only [List.length_map] at hi hj
    rw [List.getElem_map, List.getElem_map]
    have hne := List.pairwise_iff_getElem.1 (List.nodup_iff_pairwise_ne.1 hnd) i j (by simpa using hi) (by simpa using hj) hij
    rw [List.getElem_map, List.getElem_map] at hne
    have ha := hmem _ (List.getElem_mem hi)
    have hb := hmem _ (List.getElem_mem hj)
    have hij2 := ho i j (Nat.zero_le _) hij (by simpa [hsz] using hj)
    have g1 : d[i]! = d.toList[i] := by simp at hi; simp [hi]
    have g2 : d[j]! = d.toList[j] := by simp at hj; simp [hj]
    rw [g1, g2, ltP_no] at hij2
    unfold ltH
    rw [ha, hb]
    omega
  · rw [rankL_mem, (hperm.map (fun t => t.1)).mem_iff, List.mem_map]
    constructor
    · rintro ⟨t, ht, rfl⟩
      obtain ⟨m, hm, rfl⟩ := List.getElem_of_mem ht
      have h2 := h1 m hm
      simp only [List.getD, List.getElem?_eq_getElem hm, Option.getD_some] at h2
      omega
    · rintro ⟨h2, h3⟩
      have hm : x.toNat < l.length := by omega
      refine ⟨l[x.toNat], List.getElem_mem hm, ?_⟩
      have h4 := h1 x.toNat hm
      simp only [List.getD, List.getElem?_eq_getElem hm, Option.getD_some] at h4
      omega

end Go.Proofs.YtleddlfojogdiaaGreat
