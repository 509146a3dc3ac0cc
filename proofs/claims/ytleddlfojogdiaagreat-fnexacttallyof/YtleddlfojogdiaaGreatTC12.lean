/- Chapter 12: plain facts: how often each witness says of a claim that the hand refused, and that it took the letter. -/
import Derived.Test.YtleddlfojogdiaaGreatM12
namespace Go.Proofs.YtleddlfojogdiaaGreat
set_option linter.unusedVariables false
set_option maxRecDepth 1000000
set_option linter.unusedSimpArgs false
open Go.RowKit Go.Maps

def rfB (c : Cl) (x : Int) (s : St) : Bool := decide (s.1 = x) && decide (whatS s = c) && s.2.2.2.2

def tkB (c : Cl) (x : Int) (s : St) : Bool := decide (s.1 = x) && decide (whatS s = c) && !s.2.2.2.2

def rfN (l : List St) (c : Cl) (x : Int) : Nat := l.countP (rfB c x)

def tkN (l : List St) (c : Cl) (x : Int) : Nat := l.countP (tkB c x)

def gOf (l : List St) (c : Cl) : Te := fun x => if rfN l c x + tkN l c x = 0 then none else some ((rfN l c x : Int), (tkN l c x : Int))

theorem gOf_nil (c : Cl) : gOf [] c = fun _ => none := by funext x; simp [gOf, rfN, tkN]

theorem gOf_getD (l : List St) (c : Cl) (x : Int) : (gOf l c x).getD (0, 0) = ((rfN l c x : Int), (tkN l c x : Int)) := by
  unfold gOf
  split
  · rename_i h
    have h1 : rfN l c x = 0 := by omega
    have h2 : tkN l c x = 0 := by omega
    rw [h1, h2]; rfl
  · rfl

theorem rfN_snoc (l : List St) (s : St) (c : Cl) (x : Int) : rfN (l ++ [s]) c x = rfN l c x + (if rfB c x s then 1 else 0) := by
  simp [rfN, List.countP_append, List.countP_singleton]

theorem tkN_snoc (l : List St) (s : St) (c : Cl) (x : Int) : tkN (l ++ [s]) c x = tkN l c x + (if tkB c x s then 1 else 0) := by
  simp [tkN, List.countP_append, List.countP_singleton]

theorem rfN_le (l : List St) (c : Cl) (x : Int) : rfN l c x ≤ l.length := List.countP_le_length

theorem tkN_le (l : List St) (c : Cl) (x : Int) : tkN l c x ≤ l.length := List.countP_le_length

theorem gOf_no {l : List St} {s : St} {c : Cl} (h : whatS s ≠ c) : gOf (l ++ [s]) c = gOf l c := by
  funext x
  have h1 : rfB c x s = false := by simp [rfB, h]
  have h2 : tkB c x s = false := by simp [tkB, h]
  simp [gOf, rfN_snoc, tkN_snoc, h1, h2]

theorem gOf_yes {l : List St} {s : St} {c : Cl} (h : whatS s = c) : gOf (l ++ [s]) c = fun y => if y = s.1 then some (if s.2.2.2.2 then (rfN l c s.1 : Int) + 1 else (rfN l c s.1 : Int), if s.2.2.2.2 then (tkN l c s.1 : Int) else (tkN l c s.1 : Int) + 1) else gOf l c y := by
  funext y
  by_cases e : y = s.1
  · subst e
    cases hr : s.2.2.2.2
    · have h1 : rfB c s.1 s = false := by simp [rfB, hr]
      have h2 : tkB c s.1 s = true := by simp [tkB, hr, h]
      simp [gOf, rfN_snoc, tkN_snoc, h1, h2]
    · have h1 : rfB c s.1 s = true := by simp [rfB, hr, h]
      have h2 : tkB c s.1 s = false := by simp [tkB, hr]
      simp [gOf, rfN_snoc, tkN_snoc, h1, h2]
  · have e' : ¬ s.1 = y := fun q => e q.symm
    have h1 : rfB c y s = false := by simp [rfB, e']
    have h2 : tkB c y s = false := by simp [tkB, e']
    simp [gOf, rfN_snoc, tkN_snoc, h1, h2, e]

theorem gOf_keys {l : List St} {c : Cl} (h : l.all stB = true) : keysOk (gOf l c) := by
  intro x hx
  have hne : ¬ (rfN l c x + tkN l c x = 0) := by
    intro h0
    simp [gOf, h0] at hx
  rw [List.all_eq_true] at h
  have : ∃ s ∈ l, s.1 = x := by
    by_cases h1 : rfN l c x = 0
    · have h2 : 0 < tkN l c x := by omega
      obtain ⟨s, hs, hb⟩ := List.countP_pos_iff.1 h2
      simp [tkB] at hb
      exact ⟨s, hs, hb.1.1⟩
    · have h2 : 0 < rfN l c x := by omega
      obtain ⟨s, hs, hb⟩ := List.countP_pos_iff.1 h2
      simp [rfB] at hb
      exact ⟨s, hs, hb.1.1⟩
  obtain ⟨s, hs, rfl⟩ := this
  have := h s hs
  simp [stB, inB] at this
  exact ⟨this.1.1, this.1.2⟩

theorem keysOk_clean {g : Te} (h : keysOk g) : keysOk (cleanT g) := by
  intro x hx
  refine h x ?_
  cases hg : g x
  · simp [cleanT, hg] at hx
  · rfl

theorem saysY_is (l : List St) (c : Cl) (x : Int) : saysY l c x = decide (0 < rfN l c x) := by
  unfold saysY rfN
  rw [Bool.eq_iff_iff, List.any_eq_true, decide_eq_true_eq, List.countP_pos_iff]
  simp [rfB, and_assoc]

theorem saysN_is (l : List St) (c : Cl) (x : Int) : saysN l c x = decide (0 < tkN l c x) := by
  unfold saysN tkN
  rw [Bool.eq_iff_iff, List.any_eq_true, decide_eq_true_eq, List.countP_pos_iff]
  simp [tkB, and_assoc]

theorem refL_is (l : List St) (c : Cl) : refL l c = ([0, 1, 2, 3, 4, 5, 6] : List Int).filter (refB l c) := by
  have h : ([0, 1, 2, 3, 4, 5, 6] : List Int) = (List.range 7).map (fun i : Nat => (i : Int)) := by decide
  rw [h, List.filter_map]
  rfl

def saysB (g : Te) (x : Int) : Bool := decide (0 < ((g x).getD (0, 0)).1)

theorem ref_clean (l : List St) (c : Cl) : (([0, 1, 2, 3, 4, 5, 6] : List Int).filter fun x => (cleanT (gOf l c) x).isSome).filter (saysB (cleanT (gOf l c))) = refL l c := by
  rw [List.filter_filter, refL_is]
  refine List.filter_congr (fun x _ => ?_)
  unfold saysB cleanT gOf refB
  rw [saysY_is, saysN_is]
  by_cases h1 : rfN l c x = 0
  · by_cases h2 : tkN l c x = 0
    · simp [h1, h2]
    · simp [h1, h2]
  · by_cases h2 : tkN l c x = 0
    · have : 0 < rfN l c x := by omega
      simp [h1, h2, this]
    · have h3 : 0 < rfN l c x := by omega
      have h4 : 0 < tkN l c x := by omega
      simp [h1, h2, h3, h4]

theorem tells_start {D : DataW Unit} {g : Te} (h : Tells D g) : Tells D (fun x => if has D (.int .i64 x) = true then g x else cleanT g x) := by
  have : (fun x => if has D (.int .i64 x) = true then g x else cleanT g x) = g := by
    funext x
    rw [(h.2 x).2]
    cases hg : g x <;> simp [cleanT, hg]
  rw [this]
  exact h

theorem tells_end {D : DataW Unit} {g : Te} {left : Lit → Bool} (h : Tells D (fun x => if left (.int .i64 x) = true then g x else cleanT g x)) (hl : ∀ kl, left kl = false) : Tells D (cleanT g) := by
  have : (fun x => if left (.int .i64 x) = true then g x else cleanT g x) = cleanT g := by funext x; simp [hl]
  rw [this] at h
  exact h

theorem tells_at {D : DataW Unit} {g : Te} {left : Lit → Bool} {x : Int} {p : Int × Int} (h : Tells D (fun x => if left (.int .i64 x) = true then g x else cleanT g x)) (hl : left (.int .i64 x) = true) (hat : ∀ zd, D.atKey (.int .i64 x) zd = tD p) : g x = some p := by
  have h1 := (h.2 x).1
  simp only [hl, if_true] at h1
  cases hg : g x with
  | none =>
    have := (h1 .nil).symm.trans (hat .nil)
    rw [hg] at this
    simp [tD] at this
  | some q =>
    have := (h1 .nil).symm.trans (hat .nil)
    rw [hg] at this
    rw [tD_inj this]

theorem strike_self (x : Int) : (Lit.int .i64 x).sameKey (.int .i64 x) = true := WideAt.sameKey_self (show WideAt.IsKeyLit (Lit.int .i64 x) from trivial)

theorem strike_ne {x y : Int} (h : y ≠ x) : (Lit.int .i64 y).sameKey (.int .i64 x) = false := Maps.sameKey_ne (fun q => by injection q with _ q; exact h q)

theorem tells_struck {D : DataW Unit} {g : Te} {left : Lit → Bool} {x : Int} {p : Int × Int} (h : Tells D (fun x => if left (.int .i64 x) = true then g x else cleanT g x)) (hg : g x = some p) (h1 : 0 < p.1) (h2 : 0 < p.2) :
    Tells (D.del (.int .i64 x)) (fun y => if (left (.int .i64 y) && !(Lit.int .i64 y).sameKey (.int .i64 x)) = true then g y else cleanT g y) := by
  have := tells_del h x
  refine cast (congrArg (Tells _) ?_) this
  funext y
  by_cases e : y = x
  · subst e
    simp [strike_self, cleanT, hg, h1, h2]
  · simp [strike_ne e, e]

theorem tells_stays {D : DataW Unit} {g : Te} {left : Lit → Bool} {x : Int} {p : Int × Int} (h : Tells D (fun x => if left (.int .i64 x) = true then g x else cleanT g x)) (hl : left (.int .i64 x) = true) (hg : g x = some p) (hn : ¬ (0 < p.1 ∧ 0 < p.2)) :
    Tells D (fun y => if (left (.int .i64 y) && !(Lit.int .i64 y).sameKey (.int .i64 x)) = true then g y else cleanT g y) := by
  refine cast (congrArg (Tells _) ?_) h
  funext y
  by_cases e : y = x
  · subst e
    simp only [strike_self, hl, if_true, Bool.not_true, Bool.and_false, Bool.false_eq_true, if_false, cleanT, hg, if_neg hn]
  · simp [strike_ne e]

def iv12 : Value → Nat | .int _ q => q.toNat | _ => 0

theorem Rd.get {w : World} {ao : Option Addr} {xs : List Int} {k : Nat} (h : Rd w ao xs) (hk : k < xs.length) : ∃ b off, ao = some ⟨b, off, none⟩ ∧ w.cell? ⟨b, off + k, none⟩ = some (.int .i64 (xs.getD k 0)) := by
  rcases h with rfl | ⟨b, o, rfl, hc⟩
  · simp at hk
  · exact ⟨b, o, rfl, hc k hk⟩

end Go.Proofs.YtleddlfojogdiaaGreat
