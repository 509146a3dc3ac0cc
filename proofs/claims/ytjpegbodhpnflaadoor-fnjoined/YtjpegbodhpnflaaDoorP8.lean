/- Chapter 8: plain facts: lists in order, sets that are rising, texts by bytes, tags, mixes. -/
import Derived.Test.YtjpegbodhpnflaaDoorBS
namespace Go.Proofs.YtjpegbodhpnflaaDoor
set_option linter.unusedVariables false
set_option maxRecDepth 1000000
set_option linter.unusedSimpArgs false

/-- An order that is told by a Bool. -/
structure OrdB {α : Type} (lt : α → α → Bool) : Prop where
  irr : ∀ x, lt x x = false
  trans : ∀ {x y z}, lt x y = true → lt y z = true → lt x z = true
  tot : ∀ {x y}, lt x y = false → lt y x = false → x = y

theorem OrdB.asym {α : Type} {lt : α → α → Bool} (O : OrdB lt) {x y : α} (h : lt x y = true) : lt y x = false := by
  cases h2 : lt y x with
  | false => rfl
  | true => have := O.trans h h2; rw [O.irr] at this; cases this
theorem OrdB.le_lt {α : Type} {lt : α → α → Bool} (O : OrdB lt) {x y z : α} (h : lt y x = false) (h2 : lt y z = true) : lt x z = true := by
  cases h3 : lt x y with
  | true => exact O.trans h3 h2
  | false => rw [O.tot h3 h]; exact h2
theorem OrdB.lt_le {α : Type} {lt : α → α → Bool} (O : OrdB lt) {x y z : α} (h : lt x y = true) (h2 : lt z y = false) : lt x z = true := by
  cases h3 : lt y z with
  | true => exact O.trans h h3
  | false => rw [← O.tot h3 h2]; exact h
theorem OrdB.le_le {α : Type} {lt : α → α → Bool} (O : OrdB lt) {x y z : α} (h : lt y x = false) (h2 : lt z y = false) : lt z x = false := by
  cases h3 : lt z x with
  | false => rfl
  | true => have := O.lt_le h3 h; rw [h2] at this; cases this

variable {α : Type} (lt : α → α → Bool)

/-- How many from the front on are below x. -/
def posL (x : α) : List α → Nat
  | [] => 0
  | a :: r => if lt a x = true then posL x r + 1 else 0
/-- x at its place. -/
def insL (x : α) (l : List α) : List α := l.take (posL lt x l) ++ x :: l.drop (posL lt x l)
/-- Rising. -/
def Ris (l : List α) : Prop := l.Pairwise (fun a b => lt a b = true)
/-- Rising, told neighbour by neighbour. -/
def risB : List α → Bool
  | a :: b :: r => lt a b && risB (b :: r)
  | _ => true

variable {lt}

theorem posL_le (x : α) : ∀ l, posL lt x l ≤ l.length
  | [] => Nat.le_refl _
  | a :: r => by
    unfold posL
    split
    · have := posL_le x r; simp; omega
    · simp
theorem pos_lt (x d : α) : ∀ (l : List α) (k : Nat), k < posL lt x l → lt (l.getD k d) x = true
  | [], k, h => by simp [posL] at h
  | a :: r, k, h => by
    unfold posL at h
    split at h
    · rename_i ha
      cases k with
      | zero => simpa using ha
      | succ k => simpa using pos_lt x d r k (by omega)
    · omega
theorem pos_at (x d : α) : ∀ (l : List α), posL lt x l < l.length → lt (l.getD (posL lt x l) d) x = false
  | [], h => by simp [posL] at h
  | a :: r, h => by
    unfold posL at h ⊢
    by_cases ha : lt a x = true
    · rw [if_pos ha] at h ⊢
      simpa using pos_at x d r (by simp at h; omega)
    · rw [if_neg ha] at h ⊢
      simpa using ha
theorem ris_getD {l : List α} (h : Ris lt l) (d : α) {i j : Nat} (hij : i < j) (hj : j < l.length) : lt (l.getD i d) (l.getD j d) = true := by
  have := List.pairwise_iff_getElem.1 h i j (by omega) hj hij
  simpa [List.getD, show i < l.length by omega, hj] using this
theorem pos_ge (O : OrdB lt) {l : List α} (h : Ris lt l) (x d : α) {k : Nat} (hk : posL lt x l ≤ k) (hl : k < l.length) : lt (l.getD k d) x = false := by
  have h0 := pos_at (lt := lt) x d l (by omega)
  by_cases e : k = posL lt x l
  · rw [e]; exact h0
  · have h1 := ris_getD h d (show posL lt x l < k by omega) hl
    cases h2 : lt (l.getD k d) x with
    | false => rfl
    | true => rw [O.trans h1 h2] at h0; cases h0
theorem pos_mem (O : OrdB lt) {l : List α} (h : Ris lt l) (x d : α) : x ∈ l ↔ posL lt x l < l.length ∧ l.getD (posL lt x l) d = x := by
  constructor
  · intro hx
    obtain ⟨i, hi, e⟩ := List.getElem_of_mem hx
    have e' : l.getD i d = x := by simpa [List.getD, hi] using e
    have h1 : ¬ i < posL lt x l := fun hlt => by
      have := pos_lt x d l i hlt
      rw [e', O.irr] at this; cases this
    have h2 : ¬ posL lt x l < i := fun hlt => by
      have h0 := pos_at (lt := lt) x d l (by omega)
      have := ris_getD h d hlt hi
      rw [e', h0] at this; cases this
    have : i = posL lt x l := by omega
    subst this
    exact ⟨hi, e'⟩
  · rintro ⟨h1, h2⟩
    rw [← h2]
    simp only [List.getD, List.getElem?_eq_getElem h1, Option.getD_some]
    exact List.getElem_mem _
theorem insL_length (x : α) (l : List α) : (insL lt x l).length = l.length + 1 := by
  have := posL_le (lt := lt) x l
  simp [insL]; omega
theorem insL_mem (x y : α) (l : List α) : y ∈ insL lt x l ↔ y = x ∨ y ∈ l := by
  unfold insL
  have e : l = l.take (posL lt x l) ++ l.drop (posL lt x l) := (List.take_append_drop _ _).symm
  constructor
  · intro h
    rcases List.mem_append.1 h with h | h
    · exact Or.inr (List.mem_of_mem_take h)
    · rcases List.mem_cons.1 h with h | h
      · exact Or.inl h
      · exact Or.inr (List.mem_of_mem_drop h)
  · rintro (h | h)
    · exact List.mem_append.2 (Or.inr (List.mem_cons.2 (Or.inl h)))
    · rw [e] at h
      rcases List.mem_append.1 h with h | h
      · exact List.mem_append.2 (Or.inl h)
      · exact List.mem_append.2 (Or.inr (List.mem_cons.2 (Or.inr h)))
theorem insL_nil (x : α) : insL lt x [] = [x] := rfl
theorem insL_cons (x a : α) (r : List α) : insL lt x (a :: r) = if lt a x = true then a :: insL lt x r else x :: a :: r := by
  unfold insL
  by_cases h : lt a x = true
  · rw [if_pos h]; simp [posL, h]
  · rw [if_neg h]; simp [posL, h]
theorem insL_ris (O : OrdB lt) (x : α) : ∀ {l : List α}, Ris lt l → x ∉ l → Ris lt (insL lt x l)
  | [], _, _ => by simp [insL, posL, Ris]
  | a :: r, h, hx => by
    rw [insL_cons]
    obtain ⟨h1, h2⟩ := List.pairwise_cons.1 h
    by_cases ha : lt a x = true
    · rw [if_pos ha]
      refine List.pairwise_cons.2 ⟨fun y hy => ?_, insL_ris O x h2 (fun e => hx (List.mem_cons.2 (Or.inr e)))⟩
      rcases (insL_mem x y r).1 hy with e | e
      · rw [e]; exact ha
      · exact h1 y e
    · rw [if_neg ha]
      have hxa : lt x a = true := by
        cases e : lt x a with
        | true => rfl
        | false => exact absurd (O.tot e (by simpa using ha)) (fun e => hx (by rw [e]; simp))
      refine List.pairwise_cons.2 ⟨fun y hy => ?_, h⟩
      rcases List.mem_cons.1 hy with e | e
      · rw [e]; exact hxa
      · exact O.trans hxa (h1 y e)
theorem ris_ext (O : OrdB lt) : ∀ {l m : List α}, Ris lt l → Ris lt m → (∀ x, x ∈ l ↔ x ∈ m) → l = m
  | [], [], _, _, _ => rfl
  | [], b :: m, _, _, h => by have := (h b).2 (by simp); simp at this
  | a :: l, [], _, _, h => by have := (h a).1 (by simp); simp at this
  | a :: l, b :: m, hl, hm, h => by
    obtain ⟨l1, l2⟩ := List.pairwise_cons.1 hl
    obtain ⟨m1, m2⟩ := List.pairwise_cons.1 hm
    have e : a = b := by
      rcases List.mem_cons.1 ((h a).1 (by simp)) with e | e
      · exact e
      · rcases List.mem_cons.1 ((h b).2 (by simp)) with e2 | e2
        · exact e2.symm
        · have := O.trans (m1 a e) (l1 b e2); rw [O.irr] at this; cases this
    subst e
    congr 1
    refine ris_ext O l2 m2 fun x => ⟨fun hx => ?_, fun hx => ?_⟩
    · rcases List.mem_cons.1 ((h x).1 (by simp [hx])) with e | e
      · subst e; have := l1 x hx; rw [O.irr] at this; cases this
      · exact e
    · rcases List.mem_cons.1 ((h x).2 (by simp [hx])) with e | e
      · subst e; have := m1 x hx; rw [O.irr] at this; cases this
      · exact e
theorem risB_ris (O : OrdB lt) : ∀ {l : List α}, risB lt l = true ↔ Ris lt l
  | [] => by simp [risB, Ris]
  | [a] => by simp [risB, Ris]
  | a :: b :: r => by
    have ih := risB_ris O (l := b :: r)
    rw [risB, Bool.and_eq_true, ih]
    constructor
    · rintro ⟨h1, h2⟩
      refine List.pairwise_cons.2 ⟨fun y hy => ?_, h2⟩
      rcases List.mem_cons.1 hy with e | e
      · rw [e]; exact h1
      · exact O.trans h1 ((List.pairwise_cons.1 h2).1 y e)
    · intro h
      obtain ⟨h1, h2⟩ := List.pairwise_cons.1 h
      exact ⟨h1 b (by simp), h2⟩
theorem risB_at (d : α) : ∀ {l : List α}, risB lt l = true ↔ ∀ i, i + 1 < l.length → lt (l.getD i d) (l.getD (i + 1) d) = true
  | [] => by simp [risB]
  | [a] => by simp [risB]
  | a :: b :: r => by
    have ih := risB_at d (l := b :: r)
    rw [risB, Bool.and_eq_true, ih]
    constructor
    · rintro ⟨h1, h2⟩ i hi
      cases i with
      | zero => simpa using h1
      | succ i => simpa using h2 i (by simpa using hi)
    · intro h
      exact ⟨by simpa using h 0 (by simp), fun i hi => by simpa using h (i + 1) (by simpa using hi)⟩

/-- By numbers. -/
def ltI (a b : Int) : Bool := decide (a < b)
theorem ordI : OrdB ltI where
  irr x := by simp [ltI]
  trans h1 h2 := by simp [ltI] at *; omega
  tot h1 h2 := by simp [ltI] at *; omega

/-- By bytes. -/
def ltS (a b : ByteArray) : Bool := Op.bytesLess a.toList b.toList
theorem bytesLess_irr : ∀ x : List UInt8, Op.bytesLess x x = false
  | [] => rfl
  | a :: x => by simp [Op.bytesLess, bytesLess_irr x]
theorem bytesLess_trans : ∀ {x y z : List UInt8}, Op.bytesLess x y = true → Op.bytesLess y z = true → Op.bytesLess x z = true
  | _, _, [], _, h => by simp [Op.bytesLess] at h
  | _, [], _ :: _, h, _ => by simp [Op.bytesLess] at h
  | [], _ :: _, _ :: _, _, _ => rfl
  | a :: x, b :: y, c :: z, h1, h2 => by
    simp only [Op.bytesLess, Bool.or_eq_true, decide_eq_true_eq, Bool.and_eq_true, beq_iff_eq] at *
    rcases h1 with h1 | ⟨rfl, h1⟩
    · rcases h2 with h2 | ⟨rfl, h2⟩
      · exact Or.inl (UInt8.lt_trans h1 h2)
      · exact Or.inl h1
    · rcases h2 with h2 | ⟨rfl, h2⟩
      · exact Or.inl h2
      · exact Or.inr ⟨rfl, bytesLess_trans h1 h2⟩
theorem bytesLess_tot : ∀ {x y : List UInt8}, Op.bytesLess x y = false → Op.bytesLess y x = false → x = y
  | [], [], _, _ => rfl
  | [], _ :: _, h, _ => by simp [Op.bytesLess] at h
  | _ :: _, [], _, h => by simp [Op.bytesLess] at h
  | a :: x, b :: y, h1, h2 => by
    simp only [Op.bytesLess, Bool.or_eq_false_iff, decide_eq_false_iff_not, Bool.and_eq_false_iff, beq_eq_false_iff_ne] at h1 h2
    have e : a = b := by
      have l1 := h1.1; have l2 := h2.1
      exact UInt8.toNat.inj (by rw [UInt8.lt_iff_toNat_lt] at l1 l2; omega)
    subst e
    have e1 : Op.bytesLess x y = false := by rcases h1.2 with h | h; exact absurd rfl h; exact h
    have e2 : Op.bytesLess y x = false := by rcases h2.2 with h | h; exact absurd rfl h; exact h
    rw [bytesLess_tot e1 e2]
theorem ordS : OrdB ltS where
  irr x := bytesLess_irr _
  trans h1 h2 := bytesLess_trans h1 h2
  tot h1 h2 := tl_inj (bytesLess_tot h1 h2)

/-- Tags. -/
def tagStep (n : Int) (b : UInt8) : Int := (257 * n + (b.toNat : Int) + 1) % 4093
def tagN (s : ByteArray) : Int := s.toList.foldl tagStep 0
theorem tagStep_bd (n : Int) (b : UInt8) : 0 ≤ tagStep n b ∧ tagStep n b < 4093 := by unfold tagStep; omega
theorem foldl_tag_bd : ∀ (l : List UInt8) (n : Int), 0 ≤ n → n < 4093 → 0 ≤ l.foldl tagStep n ∧ l.foldl tagStep n < 4093
  | [], n, h0, h1 => ⟨h0, h1⟩
  | b :: l, n, _, _ => foldl_tag_bd l _ (tagStep_bd n b).1 (tagStep_bd n b).2
theorem tagN_bd (s : ByteArray) : 0 ≤ tagN s ∧ tagN s < 4093 := foldl_tag_bd _ 0 (by omega) (by omega)

def shortB (s : ByteArray) : Bool := decide (s.size ≤ 24)
def tagB (n : Int) : Bool := decide (0 ≤ n ∧ n < 4093)

/-- A mix. -/
structure MixV where
  pool : List ByteArray
  least : Int
  wait : Int
  old : Int
  seen : List Int
def MixV.zero : MixV := ⟨[], 0, 0, 0, []⟩

def newB (a b : Int) : Bool := decide ((1 ≤ a ∧ a ≤ 12) ∧ 1 ≤ b ∧ b ≤ 10)
def newM (a b : Int) : MixV := if newB a b = true then ⟨[], a, b, 0, []⟩ else MixV.zero
def ageB (o : Int) (n : Nat) : Bool := if n = 0 then decide (o = 0) else decide (0 ≤ o ∧ o ≤ 10)
def poolB (l : List ByteArray) : Bool := decide (l.length ≤ 12) && l.all shortB
def tagsB (l : List Int) : Bool := decide (l.length ≤ 100) && l.all tagB
/-- All tags seen, no two alike; what has been met: acc. -/
def taggedB (seen : List Int) : List Int → List ByteArray → Bool
  | _, [] => true
  | acc, s :: r => if tagN s ∈ acc ∨ tagN s ∉ seen then false else taggedB seen (insL ltI (tagN s) acc) r
def goodB (m : MixV) : Bool :=
  (newB m.least m.wait && ageB m.old m.pool.length) && ((poolB m.pool && tagsB m.seen) && (risB ltS m.pool && (risB ltI m.seen && taggedB m.seen [] m.pool)))

theorem taggedB_iff (seen : List Int) : ∀ (l : List ByteArray) (acc : List Int), taggedB seen acc l = true ↔ (∀ s ∈ l, tagN s ∈ seen ∧ tagN s ∉ acc) ∧ (l.map tagN).Nodup
  | [], acc => by simp [taggedB]
  | s :: r, acc => by
    rw [taggedB]
    by_cases h : tagN s ∈ acc ∨ tagN s ∉ seen
    · rw [if_pos h]
      refine ⟨fun e => (by cases e), fun e => ?_⟩
      have := e.1 s (by simp)
      rcases h with h | h
      · exact absurd h this.2
      · exact absurd this.1 h
    · rw [if_neg h, taggedB_iff seen r]
      have h1 : tagN s ∉ acc := fun e => h (Or.inl e)
      have h2 : tagN s ∈ seen := Classical.byContradiction fun e => h (Or.inr e)
      rw [List.map_cons, List.nodup_cons]
      constructor
      · rintro ⟨a, b⟩
        refine ⟨fun t ht => ?_, ?_, b⟩
        · rcases List.mem_cons.1 ht with e | e
          · rw [e]; exact ⟨h2, h1⟩
          · exact ⟨(a t e).1, fun hh => (a t e).2 ((insL_mem _ _ _).2 (Or.inr hh))⟩
        · intro hh
          obtain ⟨t, ht, et⟩ := List.mem_map.1 hh
          exact (a t ht).2 ((insL_mem _ _ _).2 (Or.inl et))
      · rintro ⟨a, b, c⟩
        refine ⟨fun t ht => ⟨(a t (by simp [ht])).1, fun hh => ?_⟩, c⟩
        rcases (insL_mem _ _ _).1 hh with e | e
        · exact b (List.mem_map.2 ⟨t, ht, e⟩)
        · exact (a t (by simp [ht])).2 e

structure GoodV (m : MixV) : Prop where
  least : 1 ≤ m.least ∧ m.least ≤ 12
  wait : 1 ≤ m.wait ∧ m.wait ≤ 10
  old : 0 ≤ m.old ∧ m.old ≤ 10
  none : m.pool = [] → m.old = 0
  many : m.pool.length ≤ 12
  short : ∀ s ∈ m.pool, s.size ≤ 24
  seens : m.seen.length ≤ 100
  tags : ∀ n ∈ m.seen, 0 ≤ n ∧ n < 4093
  rising : Ris ltS m.pool
  risen : Ris ltI m.seen
  tagged : ∀ s ∈ m.pool, tagN s ∈ m.seen
  apart : (m.pool.map tagN).Nodup

theorem goodB_iff (m : MixV) : goodB m = true ↔ GoodV m := by
  unfold goodB newB ageB poolB tagsB
  simp only [Bool.and_eq_true, decide_eq_true_eq, List.all_eq_true, risB_ris ordS, risB_ris ordI, taggedB_iff]
  constructor
  · rintro ⟨⟨⟨h1, h2⟩, h3⟩, ⟨⟨h4, h5⟩, h6, h7⟩, h8, h9, h10, h11⟩
    have hlen : m.pool.length = 0 ↔ m.pool = [] := List.length_eq_zero_iff
    refine ⟨h1, h2, ?_, ?_, h4, fun s hs => by simpa [shortB] using h5 s hs, h6, fun n hn => by simpa [tagB] using h7 n hn, h8, h9, fun s hs => (h10 s hs).1, h11⟩
    · split at h3 <;> simp at h3 <;> omega
    · intro e
      rw [if_pos (hlen.2 e)] at h3
      simpa using h3
  · intro h
    refine ⟨⟨⟨h.least, h.wait⟩, ?_⟩, ⟨⟨h.many, fun s hs => by simpa [shortB] using h.short s hs⟩, h.seens, fun n hn => by simpa [tagB] using h.tags n hn⟩, h.rising, h.risen, fun s hs => ⟨h.tagged s hs, by simp⟩, h.apart⟩
    split
    · rename_i e
      simpa using h.none (List.length_eq_zero_iff.1 e)
    · simpa using h.old

/-- A text put in. -/
def putM (m : MixV) (s : ByteArray) : MixV × Int :=
  if tagN s ∈ m.seen then (m, 1)
  else if m.pool.length = 12 ∨ m.seen.length = 100 then (m, 2)
  else ({ m with pool := insL ltS s m.pool, seen := insL ltI (tagN s) m.seen }, 0)
/-- A tick. -/
def goesB (m : MixV) : Bool := decide (m.pool ≠ [] ∧ ¬ ((m.pool.length : Int) < m.least ∧ min 10 (m.old + 1) < m.wait))
def tickM (m : MixV) : MixV × List ByteArray :=
  if m.pool = [] then (m, [])
  else if (m.pool.length : Int) < m.least ∧ min 10 (m.old + 1) < m.wait then ({ m with old := min 10 (m.old + 1) }, [])
  else ({ m with pool := [], old := 0 }, m.pool)

theorem good_new {a b : Int} (h : newB a b = true) : GoodV ⟨[], a, b, 0, []⟩ := by
  simp only [newB, decide_eq_true_eq] at h
  exact ⟨h.1, h.2, ⟨by simp, by simp⟩, fun _ => rfl, by simp, by simp, by simp, by simp, List.Pairwise.nil, List.Pairwise.nil, by simp, by simp⟩
theorem put_notin {m : MixV} (g : GoodV m) {s : ByteArray} (h : tagN s ∉ m.seen) : s ∉ m.pool := fun e => h (g.tagged s e)
theorem good_put {m : MixV} (g : GoodV m) {s : ByteArray} (hs : s.size ≤ 24) : GoodV (putM m s).1 := by
  unfold putM
  split
  · exact g
  · split
    · exact g
    · rename_i h1 h2
      refine ⟨g.least, g.wait, g.old, fun e => ?_, ?_, fun t ht => ?_, ?_, fun n hn => ?_, insL_ris ordS s g.rising (put_notin g h1), insL_ris ordI _ g.risen h1, fun t ht => ?_, ?_⟩
      · have : (insL ltS s m.pool).length = 0 := by rw [show insL ltS s m.pool = [] from e]; rfl
        rw [insL_length] at this; omega
      · show (insL ltS s m.pool).length ≤ 12
        rw [insL_length]; have := g.many; omega
      · rcases (insL_mem _ _ _).1 ht with e | e
        · rw [e]; exact hs
        · exact g.short t e
      · show (insL ltI (tagN s) m.seen).length ≤ 100
        rw [insL_length]; have := g.seens; omega
      · rcases (insL_mem _ _ _).1 hn with e | e
        · rw [e]; exact tagN_bd s
        · exact g.tags n e
      · refine (insL_mem _ _ _).2 ?_
        rcases (insL_mem _ _ _).1 ht with e | e
        · rw [e]; exact Or.inl rfl
        · exact Or.inr (g.tagged t e)
      · show ((insL ltS s m.pool).map tagN).Nodup
        unfold insL
        have hap := g.apart
        rw [← List.take_append_drop (posL ltS s m.pool) m.pool, List.map_append] at hap
        have hnin : ∀ t ∈ m.pool, tagN t ≠ tagN s := fun t ht e => h1 (by rw [← e]; exact g.tagged t ht)
        rw [List.map_append, List.map_cons]
        rw [List.nodup_append] at hap ⊢
        refine ⟨hap.1, List.nodup_cons.2 ⟨fun hh => ?_, hap.2.1⟩, fun a ha b hb => ?_⟩
        · obtain ⟨t, ht, et⟩ := List.mem_map.1 hh
          exact hnin t (List.mem_of_mem_drop ht) et
        · rcases List.mem_cons.1 hb with e | e
          · obtain ⟨t, ht, et⟩ := List.mem_map.1 ha
            rw [e, ← et]; exact hnin t (List.mem_of_mem_take ht)
          · exact hap.2.2 a ha b e
theorem good_tick {m : MixV} (g : GoodV m) : GoodV (tickM m).1 := by
  unfold tickM
  split
  · exact g
  · rename_i hne
    split
    · have := g.old
      exact ⟨g.least, g.wait, ⟨by show 0 ≤ min 10 (m.old + 1); omega, by show min 10 (m.old + 1) ≤ 10; omega⟩, fun e => absurd e hne, g.many, g.short, g.seens, g.tags, g.rising, g.risen, g.tagged, g.apart⟩
    · exact ⟨g.least, g.wait, ⟨by simp, by simp⟩, fun _ => rfl, by simp, by simp, g.seens, g.tags, List.Pairwise.nil, g.risen, by simp, by simp⟩

/-- Rounds played. -/
def putsM (m : MixV) (l : List ByteArray) : MixV := l.foldl (fun m s => (putM m s).1) m
def playM (m : MixV) : List (List ByteArray) → Option (List (List ByteArray))
  | [] => some []
  | l :: r => if poolB l = true then (playM (tickM (putsM m l)).1 r).map ((tickM (putsM m l)).2 :: ·) else none
def playF (a b : Int) (rs : List (List ByteArray)) : List (List ByteArray) × Bool :=
  if newB a b = true ∧ rs.length ≤ 20 then match playM ⟨[], a, b, 0, []⟩ rs with
    | none => ([], false)
    | some o => (o, true)
  else ([], false)
theorem good_puts : ∀ (l : List ByteArray) {m : MixV}, GoodV m → (∀ s ∈ l, s.size ≤ 24) → GoodV (putsM m l)
  | [], _, g, _ => g
  | s :: r, m, g, h => good_puts r (good_put g (h s (by simp))) (fun t ht => h t (by simp [ht]))

end Go.Proofs.YtjpegbodhpnflaaDoor
