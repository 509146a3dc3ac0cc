/- Chapter 10: plain facts of clients, steps, plays. -/
import Derived.Test.YteopaocomfepfaaX10
namespace Go.Proofs.Yteopaocomfepfaa
set_option linter.unusedVariables false
set_option maxRecDepth 1000000
set_option linter.unusedSimpArgs false

def sayB (s : ByteArray) : Bool := decide (s.size ≤ 15)
def queueB (q : List ByteArray) : Bool := decide (q.length ≤ 5) && q.all sayB
def waysB (y : Int) : Bool := decide (1 ≤ y ∧ y ≤ 4)
def goodC (q : List ByteArray) (t y : Int) : Bool := queueB q && (decide (0 ≤ t ∧ t ≤ 1000) && waysB y)
def sayOk (q : List ByteArray) (k : Int) (s : ByteArray) : Bool := decide (k = 1) && (sayB s && decide (q.length < 5))
def tickB (k : Int) (s : ByteArray) : Bool := decide (k = 2) && decide (s = ByteArray.empty)
def tickOk (t k : Int) (s : ByteArray) : Bool := tickB k s && decide (t < 1000)

/-- What a step comes to. -/
structure StV where
  q : List ByteArray
  t : Int
  y : Int
  e0 : Int
  e1 : Int
  e2 : Int
  s : ByteArray
  ok : Bool
def zeroSt : StV := ⟨[], 0, 0, 0, 0, 0, ByteArray.empty, false⟩
def sayV (q : List ByteArray) (t y : Int) (s : ByteArray) : StV := ⟨q ++ [s], t, y, 0, 0, 0, ByteArray.empty, true⟩
def tickV (q : List ByteArray) (t y : Int) : StV := ⟨q.tail, t + 1, y, t, t % y, 24, q.headD ByteArray.empty, true⟩
def stepV (q : List ByteArray) (t y k : Int) (s : ByteArray) : StV :=
  if sayOk q k s = true then sayV q t y s else if tickOk t k s = true then tickV q t y else zeroSt
def stepF (q : List ByteArray) (t y k : Int) (s : ByteArray) : StV := if goodC q t y = true then stepV q t y k s else zeroSt

theorem queueB_iff {q : List ByteArray} : queueB q = true ↔ q.length ≤ 5 ∧ ∀ s ∈ q, s.size ≤ 15 := by
  simp [queueB, sayB, List.all_eq_true]
theorem goodC_iff {q : List ByteArray} {t y : Int} : goodC q t y = true ↔ queueB q = true ∧ (0 ≤ t ∧ t ≤ 1000) ∧ 1 ≤ y ∧ y ≤ 4 := by
  unfold goodC waysB; rw [Bool.and_eq_true, Bool.and_eq_true, decide_eq_true_iff, decide_eq_true_iff]
theorem sayOk_iff {q : List ByteArray} {k : Int} {s : ByteArray} : sayOk q k s = true ↔ k = 1 ∧ s.size ≤ 15 ∧ q.length < 5 := by
  simp [sayOk, sayB]
theorem tickOk_iff {t k : Int} {s : ByteArray} : tickOk t k s = true ↔ (k = 2 ∧ s = ByteArray.empty) ∧ t < 1000 := by
  simp [tickOk, tickB]
theorem step_good {q : List ByteArray} {t y k : Int} {s : ByteArray} (h : goodC q t y = true) (ho : (stepV q t y k s).ok = true) : goodC (stepV q t y k s).q (stepV q t y k s).t (stepV q t y k s).y = true := by
  obtain ⟨h1, h2, h3⟩ := goodC_iff.1 h
  obtain ⟨h4, h5⟩ := queueB_iff.1 h1
  unfold stepV at ho ⊢
  by_cases a : sayOk q k s = true
  · rw [if_pos a]
    obtain ⟨_, a2, a3⟩ := sayOk_iff.1 a
    refine goodC_iff.2 ⟨queueB_iff.2 ⟨by simp [sayV]; omega, fun x hx => ?_⟩, h2, h3⟩
    simp [sayV] at hx
    rcases hx with hx | rfl
    · exact h5 x hx
    · exact a2
  · rw [if_neg a] at ho ⊢
    by_cases b : tickOk t k s = true
    · rw [if_pos b]
      obtain ⟨_, b2⟩ := tickOk_iff.1 b
      refine goodC_iff.2 ⟨queueB_iff.2 ⟨by simp [tickV]; omega, fun x hx => h5 x (List.mem_of_mem_tail hx)⟩, ⟨by simp [tickV]; omega, by simp [tickV]; omega⟩, h3⟩
    · rw [if_neg b] at ho
      cases ho

/-- A play's state: what has gone out, the texts in it, what was done. -/
structure PlV where
  q : List ByteArray
  t : Int
  em : List (Int × Int × Int)
  tx : List ByteArray
  did : List Bool
def plStep (y : Int) (p : PlV) (x : Int × ByteArray) : PlV :=
  if (stepV p.q p.t y x.1 x.2).ok = true then
    (if x.1 = 2 then ⟨(stepV p.q p.t y x.1 x.2).q, (stepV p.q p.t y x.1 x.2).t, p.em ++ [((stepV p.q p.t y x.1 x.2).e0, (stepV p.q p.t y x.1 x.2).e1, (stepV p.q p.t y x.1 x.2).e2)], p.tx ++ [(stepV p.q p.t y x.1 x.2).s], p.did ++ [true]⟩
     else ⟨(stepV p.q p.t y x.1 x.2).q, (stepV p.q p.t y x.1 x.2).t, p.em, p.tx, p.did ++ [true]⟩)
  else ⟨p.q, p.t, p.em, p.tx, p.did ++ [false]⟩
def plNil : PlV := ⟨[], 0, [], [], []⟩
def playV (y : Int) (l : List (Int × ByteArray)) : PlV := l.foldl (plStep y) plNil
def playF (y : Int) (l : List (Int × ByteArray)) : List (Int × Int × Int) × List ByteArray × List Bool × Bool :=
  if waysB y = true ∧ l.length ≤ 80 then ((playV y l).em, (playV y l).tx, (playV y l).did, true) else ([], [], [], false)

theorem stepV_say {q : List ByteArray} {t y k : Int} {s : ByteArray} (h : sayOk q k s = true) : stepV q t y k s = sayV q t y s := by unfold stepV; rw [if_pos h]
theorem stepV_tick {q : List ByteArray} {t y k : Int} {s : ByteArray} (h : ¬ sayOk q k s = true) (h2 : tickOk t k s = true) : stepV q t y k s = tickV q t y := by unfold stepV; rw [if_neg h, if_pos h2]
theorem stepV_no {q : List ByteArray} {t y k : Int} {s : ByteArray} (h : ¬ sayOk q k s = true) (h2 : ¬ tickOk t k s = true) : stepV q t y k s = zeroSt := by unfold stepV; rw [if_neg h, if_neg h2]
theorem stepV_cases {q : List ByteArray} {t y k : Int} {s : ByteArray} (ho : (stepV q t y k s).ok = true) : (sayOk q k s = true ∧ stepV q t y k s = sayV q t y s) ∨ (tickOk t k s = true ∧ stepV q t y k s = tickV q t y) := by
  by_cases h : sayOk q k s = true
  · exact Or.inl ⟨h, stepV_say h⟩
  · by_cases h2 : tickOk t k s = true
    · exact Or.inr ⟨h2, stepV_tick h h2⟩
    · rw [stepV_no h h2] at ho; cases ho
theorem stepV_y {q : List ByteArray} {t y k : Int} {s : ByteArray} (ho : (stepV q t y k s).ok = true) : (stepV q t y k s).y = y := by
  rcases stepV_cases ho with ⟨_, e⟩ | ⟨_, e⟩ <;> rw [e] <;> rfl
theorem stepV_t {q : List ByteArray} {t y k : Int} {s : ByteArray} (ho : (stepV q t y k s).ok = true) : t ≤ (stepV q t y k s).t ∧ (stepV q t y k s).t ≤ t + 1 := by
  rcases stepV_cases ho with ⟨_, e⟩ | ⟨_, e⟩ <;> rw [e]
  · exact ⟨Int.le_refl _, by show t ≤ t + 1; omega⟩
  · exact ⟨by show t ≤ t + 1; omega, Int.le_refl _⟩

/-- What holds of a play's state behind k steps. -/
structure PlOk (y : Int) (k : Nat) (p : PlV) : Prop where
  good : goodC p.q p.t y = true
  tk : p.t ≤ k
  em : p.em.length ≤ k
  tx : p.tx.length = p.em.length
  did : p.did.length = k
  sz : ∀ s ∈ p.tx, s.size ≤ 15

theorem pl_nil {y : Int} (hy : waysB y = true) : PlOk y 0 plNil :=
  ⟨by unfold goodC; rw [hy]; rfl, Int.le_refl _, Nat.le_refl _, rfl, rfl, fun s h => by simp [plNil] at h⟩
theorem stepV_s {q : List ByteArray} {t y k : Int} {s : ByteArray} (h : queueB q = true) : (stepV q t y k s).s.size ≤ 15 := by
  obtain ⟨_, h5⟩ := queueB_iff.1 h
  unfold stepV
  split
  · simp [sayV]
  · split
    · cases q with
      | nil => simp [tickV]
      | cons a l => simpa [tickV] using h5 a (by simp)
    · simp [zeroSt]
theorem pl_step {y : Int} {k : Nat} {p : PlV} (h : PlOk y k p) (x : Int × ByteArray) : PlOk y (k + 1) (plStep y p x) := by
  unfold plStep
  by_cases ho : (stepV p.q p.t y x.1 x.2).ok = true
  · rw [if_pos ho]
    have hg := step_good h.good ho
    rw [stepV_y ho] at hg
    have ht := stepV_t ho
    have := h.tk
    by_cases h2 : x.1 = 2
    · rw [if_pos h2]
      refine ⟨hg, by show (stepV p.q p.t y x.1 x.2).t ≤ ((k + 1 : Nat) : Int); omega, by simpa using h.em, by simpa using h.tx, by simp [h.did], fun s hs => ?_⟩
      simp at hs
      rcases hs with hs | rfl
      · exact h.sz s hs
      · exact stepV_s (goodC_iff.1 h.good).1
    · rw [if_neg h2]
      exact ⟨hg, by show (stepV p.q p.t y x.1 x.2).t ≤ ((k + 1 : Nat) : Int); omega, Nat.le_succ_of_le h.em, h.tx, by simp [h.did], h.sz⟩
  · rw [if_neg ho]
    exact ⟨h.good, by have := h.tk; show p.t ≤ ((k + 1 : Nat) : Int); omega, Nat.le_succ_of_le h.em, h.tx, by simp [h.did], h.sz⟩
theorem pl_take {y : Int} (hy : waysB y = true) (l : List (Int × ByteArray)) : ∀ k, k ≤ l.length → PlOk y k (playV y (l.take k)) := by
  intro k
  induction k with
  | zero => intro _; rw [List.take_zero]; exact pl_nil hy
  | succ k ih =>
    intro hk
    have h : k < l.length := by omega
    have := pl_step (ih (by omega)) (l.getD k (0, ByteArray.empty))
    unfold playV at this ⊢
    rw [take_snoc (0, ByteArray.empty) h, List.foldl_append]
    exact this
theorem play_succ {y : Int} {l : List (Int × ByteArray)} {k : Nat} (h : k < l.length) : playV y (l.take (k + 1)) = plStep y (playV y (l.take k)) (l.getD k (0, ByteArray.empty)) := by
  unfold playV
  rw [take_snoc (0, ByteArray.empty) h, List.foldl_append]
  rfl

/-- What goes out at so many ticks. -/
def traceL (y : Int) (n : Nat) : List (Int × Int × Int) := (List.range n).map fun j : Nat => ((j : Int), (j : Int) % y, 24)
theorem traceL_length (y : Int) (n : Nat) : (traceL y n).length = n := by simp [traceL]
theorem traceL_succ (y : Int) (n : Nat) : traceL y (n + 1) = traceL y n ++ [((n : Int), (n : Int) % y, 24)] := by simp [traceL, List.range_succ]
def traceF (y k : Int) : List (Int × Int × Int) × Bool := if waysB y = true ∧ 0 ≤ k ∧ k ≤ 80 then (traceL y k.toNat, true) else ([], false)
/-- The plain ticks. -/
def ticksL (l : List (Int × ByteArray)) : List (Int × ByteArray) := l.filter fun x => tickB x.1 x.2
def eraseF (l : List (Int × ByteArray)) : List (Int × ByteArray) × Bool := if l.length ≤ 80 then (ticksL l, true) else ([], false)
theorem ticksL_succ {l : List (Int × ByteArray)} {k : Nat} (h : k < l.length) : ticksL (l.take (k + 1)) = if tickB (l.getD k (0, ByteArray.empty)).1 (l.getD k (0, ByteArray.empty)).2 = true then ticksL (l.take k) ++ [l.getD k (0, ByteArray.empty)] else ticksL (l.take k) := by
  unfold ticksL
  rw [take_snoc (0, ByteArray.empty) h, List.filter_append]
  by_cases ht : tickB (l.getD k (0, ByteArray.empty)).1 (l.getD k (0, ByteArray.empty)).2 = true
  · rw [if_pos ht, List.filter_cons_of_pos (by simpa using ht)]; rfl
  · rw [if_neg ht, List.filter_cons_of_neg (by simpa using ht)]; simp
theorem tickB_val {k : Int} {s : ByteArray} (h : tickB k s = true) : k = 2 ∧ s = ByteArray.empty := by simpa [tickB] using h

/-- Where a text is first. -/
def waitL (s : ByteArray) : List ByteArray → Nat
  | [] => 0
  | x :: l => if x = s then 0 else waitL s l + 1
def waitF (q : List ByteArray) (t y : Int) (s : ByteArray) : Int × Bool := if goodC q t y = true ∧ waitL s q < q.length then ((waitL s q : Int) + 1, true) else (0, false)
theorem waitL_none {s : ByteArray} : ∀ {l : List ByteArray}, (∀ j, j < l.length → l.getD j ByteArray.empty ≠ s) → waitL s l = l.length
  | [], _ => rfl
  | x :: l, h => by
    have h0 := h 0 (by simp)
    simp [List.getD] at h0
    unfold waitL
    rw [if_neg h0, waitL_none (l := l) (fun j hj => by simpa [List.getD] using h (j + 1) (by simpa using hj))]
    rfl
theorem waitL_at {s : ByteArray} : ∀ {l : List ByteArray} {k : Nat}, k < l.length → l.getD k ByteArray.empty = s → (∀ j, j < k → l.getD j ByteArray.empty ≠ s) → waitL s l = k
  | [], k, h, _, _ => by simp at h
  | x :: l, 0, _, e, _ => by simp [List.getD] at e; unfold waitL; rw [if_pos e]
  | x :: l, k + 1, h, e, hn => by
    have h0 := hn 0 (by omega)
    simp [List.getD] at h0
    unfold waitL
    rw [if_neg h0, waitL_at (l := l) (k := k) (by simpa using h) (by simpa [List.getD] using e) (fun j hj => by simpa [List.getD] using hn (j + 1) (by omega))]

end Go.Proofs.Yteopaocomfepfaa
