/- Chapter 14: plain facts: a sort of good tallies, as a sort of what bears its bounds. -/
import Derived.Test.YtleddlfojogdiaaP14
import Derived.Shelf.GgSortFunc.RowK
import Derived.Shelf.SlSortCmp.Insertion
namespace Go.Proofs.Ytleddlfojogdiaa
set_option linter.unusedVariables false
set_option maxRecDepth 1000000
set_option linter.unusedSimpArgs false
open Go.Sort

theorem swp_map {α β : Type} [Inhabited α] [Inhabited β] (f : α → β) (d : Array α) (i j : Nat) (hi : i < d.size) (hj : j < d.size) : (swp d i j).map f = swp (d.map f) i j := by
  unfold swp
  have e1 : (d.map f)[j]! = f d[j]! := by simp [hj]
  have e2 : (d.map f)[i]! = f d[i]! := by simp [hi]
  rw [e1, e2]
  apply Array.ext
  · simp
  · intro k h1 h2
    simp [Array.getElem_setIfInBounds]
    try (split <;> first | rfl | (split <;> rfl))

theorem insInner_map {α β : Type} [Inhabited α] [Inhabited β] (f : α → β) (lt : β → β → Bool) (a : Nat) : ∀ (j : Nat) (d : Array α), j < d.size → (insInner (fun x y => lt (f x) (f y)) a j d).map f = insInner lt a j (d.map f)
  | 0, d, _ => by unfold insInner; rfl
  | j + 1, d, hj => by
    unfold insInner
    have e1 : (d.map f)[j + 1]! = f d[j + 1]! := by simp [hj]
    have e2 : (d.map f)[j]! = f d[j]! := by simp [show j < d.size by omega]
    rw [e1, e2]
    split
    · rw [insInner_map f lt a j _ (by rw [swp_size]; omega), swp_map f d _ _ hj (by omega)]
    · rfl

theorem insInner_size {α : Type} [Inhabited α] (lt : α → α → Bool) (a : Nat) : ∀ (j : Nat) (d : Array α), (insInner lt a j d).size = d.size
  | 0, d => by unfold insInner; rfl
  | j + 1, d => by
    unfold insInner
    split
    · rw [insInner_size lt a j, swp_size]
    · rfl

theorem insOuter_map {α β : Type} [Inhabited α] [Inhabited β] (f : α → β) (lt : β → β → Bool) (a b : Nat) : ∀ (n i : Nat) (d : Array α), b - i = n → b ≤ d.size → (insOuter (fun x y => lt (f x) (f y)) a b i d).map f = insOuter lt a b i (d.map f)
  | 0, i, d, hn, _ => by
    rw [insOuter, if_neg (by omega)]
    conv => rhs; rw [insOuter, if_neg (by omega)]
  | n + 1, i, d, hn, hb => by
    rw [insOuter, if_pos (by omega)]
    conv => rhs; rw [insOuter, if_pos (by omega)]
    rw [insOuter_map f lt a b n (i + 1) _ (by omega) (by rw [insInner_size]; exact hb), insInner_map f lt a i d (by omega)]

theorem insSort_map {α β : Type} [Inhabited α] [Inhabited β] (f : α → β) (lt : β → β → Bool) (d : Array α) (a b : Nat) (hb : b ≤ d.size) : (insertionSort (fun x y => lt (f x) (f y)) d a b).map f = insertionSort lt (d.map f) a b := by
  unfold insertionSort
  exact insOuter_map f lt a b _ _ d rfl hb

theorem insOuter_size {α : Type} [Inhabited α] (lt : α → α → Bool) (a b : Nat) : ∀ (n i : Nat) (d : Array α), b - i = n → (insOuter lt a b i d).size = d.size
  | 0, i, d, hn => by rw [insOuter, if_neg (by omega)]
  | n + 1, i, d, hn => by rw [insOuter, if_pos (by omega), insOuter_size lt a b n (i + 1) _ (by omega), insInner_size]

/-- A good tally, with its bounds in its type. -/
abbrev Tg := Fin 12 × Fin 101 × Fin 101

def vT (x : Tg) : Ta := ((x.1.val : Int), (x.2.1.val : Int), (x.2.2.val : Int))

def tgOf (t : Ta) : Tg := (Fin.ofNat 12 t.1.toNat, Fin.ofNat 101 t.2.1.toNat, Fin.ofNat 101 t.2.2.toNat)

theorem vT_tgOf {t : Ta} (h : taB t = true) : vT (tgOf t) = t := by
  unfold taB inB at h
  simp only [Bool.and_eq_true, decide_eq_true_eq] at h
  obtain ⟨a, b, c⟩ := t
  simp only [vT, tgOf, Fin.ofNat] at *
  refine Prod.ext ?_ (Prod.ext ?_ ?_) <;> simp <;> omega

theorem vT_bounds (x : Tg) : (0 ≤ (vT x).2.1 ∧ (vT x).2.1 ≤ 100) ∧ 0 ≤ (vT x).2.2 ∧ (vT x).2.2 ≤ 100 := by
  have h1 := x.2.1.isLt
  have h2 := x.2.2.isLt
  simp only [vT]
  omega

theorem map_tgOf {l : List Ta} (h : ∀ t ∈ l, taB t = true) : (l.map tgOf).map vT = l := by
  rw [List.map_map]
  conv => rhs; rw [← List.map_id l]
  refine List.map_congr_left (fun t ht => ?_)
  exact vT_tgOf (h t ht)

/-- What the program's sort asks of its comparison. -/
def cmpT (x y : Tg) : Int := Lib.compareInt (scoreT (vT y)) (scoreT (vT x))

theorem ltOf_cmpT : ltOf cmpT = fun x y => ltS (vT x) (vT y) := by
  funext x y
  unfold ltOf cmpT Lib.compareInt ltS
  by_cases h1 : scoreT (vT y) < scoreT (vT x)
  · simp [h1]
  · by_cases h2 : scoreT (vT y) > scoreT (vT x)
    · simp [h1, h2]
    · simp [h1, h2]

/-- Good tallies in order, sorted: their hands are the ranks. -/
theorem rank_tg (l : List Ta) (hg : tasAt l = true) (ha : ∀ t ∈ l, taB t = true) :
    ((insertionSort (ltOf cmpT) (l.map tgOf).toArray 0 l.length).toList.map vT).map (fun t => t.1) = rankL l ∧ (insertionSort (ltOf cmpT) (l.map tgOf).toArray 0 l.length).size = l.length := by
  constructor
  · rw [ltOf_cmpT]
    have h := insSort_map vT ltS (l.map tgOf).toArray 0 l.length (by simp)
    have h2 : (l.map tgOf).toArray.map vT = l.toArray := by
      have := map_tgOf ha
      apply Array.toList_inj.1
      simpa using this
    rw [h2] at h
    have h3 := congrArg Array.toList h
    rw [Array.toList_map] at h3
    rw [h3]
    exact rank_sorted l hg
  · unfold insertionSort
    rw [insOuter_size _ _ _ _ _ _ rfl]
    simp

end Go.Proofs.Ytleddlfojogdiaa
