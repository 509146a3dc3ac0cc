/- Chapter 10: plain facts of plays: what goes out is told by the ticks alone; the queue goes out in order. -/
import Derived.Test.YteopaocomfepfaaP10
namespace Go.Proofs.Yteopaocomfepfaa
set_option linter.unusedVariables false
set_option maxRecDepth 1000000
set_option linter.unusedSimpArgs false

theorem stepV_isTick {q : List ByteArray} {t y k : Int} {s : ByteArray} (h : tickB k s = true) (ht : t < 1000) : stepV q t y k s = tickV q t y := by
  obtain ⟨hk, hs⟩ := tickB_val h
  refine stepV_tick (fun hh => ?_) (tickOk_iff.2 ⟨⟨hk, hs⟩, ht⟩)
  have := (sayOk_iff.1 hh).1
  omega
theorem stepV_notTick {q : List ByteArray} {t y k : Int} {s : ByteArray} (h : ¬ tickB k s = true) (ho : (stepV q t y k s).ok = true) : sayOk q k s = true ∧ stepV q t y k s = sayV q t y s := by
  rcases stepV_cases ho with hh | ⟨h2, _⟩
  · exact hh
  · unfold tickOk at h2
    rw [Bool.and_eq_true] at h2
    exact absurd h2.1 h
theorem plStep_tick {y : Int} {p : PlV} {x : Int × ByteArray} (h : tickB x.1 x.2 = true) (ht : p.t < 1000) : plStep y p x = ⟨p.q.tail, p.t + 1, p.em ++ [(p.t, p.t % y, 24)], p.tx ++ [p.q.headD ByteArray.empty], p.did ++ [true]⟩ := by
  unfold plStep
  rw [stepV_isTick h ht, if_pos (show (tickV p.q p.t y).ok = true from rfl), if_pos (tickB_val h).1]
  rfl
theorem plStep_other {y : Int} {p : PlV} {x : Int × ByteArray} (h : ¬ tickB x.1 x.2 = true) : (plStep y p x).t = p.t ∧ (plStep y p x).em = p.em ∧ (plStep y p x).tx = p.tx := by
  unfold plStep
  by_cases ho : (stepV p.q p.t y x.1 x.2).ok = true
  · obtain ⟨h1, h2⟩ := stepV_notTick h ho
    have hk := (sayOk_iff.1 h1).1
    rw [if_pos ho, if_neg (by omega), h2]
    exact ⟨rfl, rfl, rfl⟩
  · rw [if_neg ho]
    exact ⟨rfl, rfl, rfl⟩
theorem plStep_said {y : Int} {p : PlV} {x : Int × ByteArray} (h : ¬ tickB x.1 x.2 = true) : (sayOk p.q x.1 x.2 = true ∧ (plStep y p x).q = p.q ++ [x.2] ∧ (plStep y p x).did = p.did ++ [true]) ∨ (¬ sayOk p.q x.1 x.2 = true ∧ (plStep y p x).q = p.q ∧ (plStep y p x).did = p.did ++ [false]) := by
  unfold plStep
  by_cases hs : sayOk p.q x.1 x.2 = true
  · have hk := (sayOk_iff.1 hs).1
    rw [stepV_say hs, if_pos (show (sayV p.q p.t y x.2).ok = true from rfl), if_neg (by omega)]
    exact Or.inl ⟨hs, rfl, rfl⟩
  · have ho : ¬ (stepV p.q p.t y x.1 x.2).ok = true := fun ho => hs (stepV_notTick h ho).1
    rw [if_neg ho]
    exact Or.inr ⟨hs, rfl, rfl⟩

/-- What goes out is told by the number of the ticks alone. -/
theorem play_told (y : Int) (l : List (Int × ByteArray)) (h8 : l.length ≤ 1000) : ∀ k, k ≤ l.length → (playV y (l.take k)).t = ((ticksL (l.take k)).length : Int) ∧ (playV y (l.take k)).em = traceL y (ticksL (l.take k)).length ∧ (ticksL (l.take k)).length ≤ k := by
  intro k
  induction k with
  | zero => intro _; rw [List.take_zero]; exact ⟨rfl, rfl, Nat.le_refl _⟩
  | succ k ih =>
    intro hk
    have h : k < l.length := by omega
    obtain ⟨i1, i2, i3⟩ := ih (by omega)
    rw [play_succ h, ticksL_succ h]
    by_cases ht : tickB (l.getD k (0, ByteArray.empty)).1 (l.getD k (0, ByteArray.empty)).2 = true
    · rw [if_pos ht, plStep_tick ht (by omega), List.length_append, List.length_singleton, traceL_succ]
      refine ⟨?_, ?_, by omega⟩
      · show (playV y (l.take k)).t + 1 = _
        rw [i1]; push_cast; rfl
      · show (playV y (l.take k)).em ++ [((playV y (l.take k)).t, (playV y (l.take k)).t % y, 24)] = _
        rw [i1, i2]
    · rw [if_neg ht]
      obtain ⟨e1, e2, _⟩ := plStep_other (y := y) (p := playV y (l.take k)) ht
      exact ⟨e1.trans i1, e2.trans i2, by omega⟩
theorem play_em {y : Int} {l : List (Int × ByteArray)} (h8 : l.length ≤ 80) : (playV y l).em = traceL y (ticksL l).length := by
  have := (play_told y l (by omega) l.length (Nat.le_refl _)).2.1
  rwa [List.take_length] at this
theorem ticksL_le (l : List (Int × ByteArray)) : (ticksL l).length ≤ l.length := List.length_filter_le _ _
theorem ticksL_twice (l : List (Int × ByteArray)) : ticksL (ticksL l) = ticksL l := by
  unfold ticksL
  rw [List.filter_filter]
  congr 1
  funext x
  exact Bool.and_self _
theorem play_erased {y : Int} {l : List (Int × ByteArray)} (h8 : l.length ≤ 80) : (playV y (ticksL l)).em = (playV y l).em := by
  have := ticksL_le l
  rw [play_em (by omega), play_em h8, ticksL_twice]

/-- What was said and done, in order. -/
def saidL (l : List (Int × ByteArray)) (d : List Bool) : List ByteArray := ((l.zip d).filter fun x => x.2 && decide (x.1.1 = 1)).map fun x => x.1.2
/-- Whether 'tx' is a list with empty texts put between: what a queue lets out. -/
inductive Out : List ByteArray → List ByteArray → Prop
  | nil : Out [] []
  | gone {a tx : List ByteArray} (s : ByteArray) : Out a tx → Out (a ++ [s]) (tx ++ [s])
  | none {a tx : List ByteArray} : Out a tx → Out a (tx ++ [ByteArray.empty])
/-- What was said is what has gone out and then the queue. -/
theorem play_out (y : Int) (l : List (Int × ByteArray)) (hy : waysB y = true) (h8 : l.length ≤ 1000) : ∀ k, k ≤ l.length → ∃ a, Out a (playV y (l.take k)).tx ∧ saidL (l.take k) (playV y (l.take k)).did = a ++ (playV y (l.take k)).q := by
  intro k
  induction k with
  | zero => intro _; rw [List.take_zero]; exact ⟨[], Out.nil, rfl⟩
  | succ k ih =>
    intro hk
    have h : k < l.length := by omega
    obtain ⟨a, i1, i2⟩ := ih (by omega)
    obtain ⟨t1, _, t3⟩ := play_told y l h8 k (by omega)
    have hd := (pl_take hy l k (by omega)).did
    have hl : (l.take k).length = (playV y (l.take k)).did.length := by rw [hd, List.length_take]; omega
    have snoc : ∀ b : Bool, saidL (l.take (k + 1)) ((playV y (l.take k)).did ++ [b]) = saidL (l.take k) (playV y (l.take k)).did ++ (if (b && decide ((l.getD k (0, ByteArray.empty)).1 = 1)) = true then [(l.getD k (0, ByteArray.empty)).2] else []) := by
      intro b
      unfold saidL
      rw [take_snoc (0, ByteArray.empty) h, List.zip_append hl, List.filter_append, List.map_append]
      congr 1
      by_cases hb : (b && decide ((l.getD k (0, ByteArray.empty)).1 = 1)) = true
      · rw [if_pos hb, List.zip_cons_cons, List.filter_cons_of_pos (by exact hb)]; rfl
      · rw [if_neg hb, List.zip_cons_cons, List.filter_cons_of_neg (by exact hb)]; rfl
    rw [play_succ h]
    by_cases ht : tickB (l.getD k (0, ByteArray.empty)).1 (l.getD k (0, ByteArray.empty)).2 = true
    · have hk2 := (tickB_val ht).1
      rw [plStep_tick ht (by omega)]
      show ∃ a, Out a ((playV y (l.take k)).tx ++ [(playV y (l.take k)).q.headD ByteArray.empty]) ∧ saidL (l.take (k + 1)) ((playV y (l.take k)).did ++ [true]) = a ++ (playV y (l.take k)).q.tail
      rw [snoc, if_neg (by rw [hk2]; decide), List.append_nil, i2]
      generalize (playV y (l.take k)).q = q
      cases q with
      | nil => exact ⟨a, Out.none i1, rfl⟩
      | cons s r => exact ⟨a ++ [s], Out.gone s i1, by simp⟩
    · obtain ⟨_, _, e3⟩ := plStep_other (y := y) (p := playV y (l.take k)) ht
      rw [e3]
      rcases plStep_said (y := y) (p := playV y (l.take k)) ht with ⟨hs, q1, d1⟩ | ⟨_, q1, d1⟩
      · have hk1 := (sayOk_iff.1 hs).1
        rw [q1, d1, snoc, if_pos (by rw [hk1]; decide), i2]
        exact ⟨a, i1, by simp⟩
      · rw [q1, d1, snoc, if_neg (by simp), i2]
        exact ⟨a, i1, by simp⟩

/-- The queue of a client behind n ticks, and the text that goes out at one. -/
theorem tick_drop (q : List ByteArray) (n : Nat) : (q.drop n).tail = q.drop (n + 1) := by rw [List.tail_drop]
theorem tick_head (q : List ByteArray) (n : Nat) : (q.drop n).headD ByteArray.empty = q.getD n ByteArray.empty := by
  induction q generalizing n with
  | nil => simp
  | cons a l ih =>
    cases n with
    | zero => rfl
    | succ n => simp
theorem waitL_le (s : ByteArray) : ∀ l : List ByteArray, waitL s l ≤ l.length
  | [] => Nat.le_refl _
  | x :: l => by
    unfold waitL
    split
    · exact Nat.zero_le _
    · exact Nat.succ_le_succ (waitL_le s l)
theorem waitL_is {s : ByteArray} : ∀ {l : List ByteArray}, waitL s l < l.length → l.getD (waitL s l) ByteArray.empty = s
  | [], h => by simp at h
  | x :: l, h => by
    unfold waitL at h ⊢
    by_cases e : x = s
    · rw [if_pos e]; simpa using e
    · rw [if_neg e] at h ⊢
      simpa using waitL_is (l := l) (by simpa using h)
theorem waitL_not {s : ByteArray} : ∀ {l : List ByteArray} {j : Nat}, j < waitL s l → l.getD j ByteArray.empty ≠ s
  | [], j, h => by simp [waitL] at h
  | x :: l, j, h => by
    unfold waitL at h
    by_cases e : x = s
    · rw [if_pos e] at h; omega
    · rw [if_neg e] at h
      cases j with
      | zero => simpa using e
      | succ j => simpa using waitL_not (l := l) (j := j) (by omega)

end Go.Proofs.Yteopaocomfepfaa
