/- Chapter 13: plain facts: boards, who has signed what, quorums. -/
import Derived.Test.YtaokmjbhgkfnfaaJ13s
namespace Go.Proofs.Ytaokmjbhgkfnfaa
set_option linter.unusedVariables false
set_option maxRecDepth 1000000
set_option linter.unusedSimpArgs false

/-- A board. -/
structure BdV where
  f : Int
  e : Int
  sg : List (List Int)
  li : List Int
  ls : List Int

def inB (x lo hi : Int) : Bool := decide (lo ≤ x ∧ x ≤ hi)
theorem inB_iff {x lo hi : Int} : inB x lo hi = true ↔ lo ≤ x ∧ x ≤ hi := by simp [inB]
def memB (f x : Int) : Bool := inB x 0 (3 * f)
def sigB (f : Int) (s : List Int) : Bool := decide (s.length = 3) && (inB (s.getD 0 0) 0 20 && (memB f (s.getD 1 0) && inB (s.getD 2 0) 0 9))
def couB (f : Int) (li : List Int) : Bool := inB f 0 2 && ((decide ((li.length : Int) ≤ f) && li.all (memB f)) && risB ltI li)
def lstB (ls : List Int) : Bool := (decide (ls.length ≤ 10) && ls.all (fun x => inB x 0 9)) && risB ltI ls
def sgsB (f : Int) (sg : List (List Int)) : Bool := decide (sg.length ≤ 200) && sg.all (sigB f)
/-- Two signatures of one member in one epoch for two lists, and it is no liar. -/
def clash (li : List Int) (x s : List Int) : Prop := x.getD 0 0 = s.getD 0 0 ∧ x.getD 1 0 = s.getD 1 0 ∧ x.getD 2 0 ≠ s.getD 2 0 ∧ s.getD 1 0 ∉ li
instance (li x s) : Decidable (clash li x s) := by unfold clash; infer_instance
def keptB (li : List Int) (sg : List (List Int)) : Bool := decide (∀ s ∈ sg, ∀ x ∈ sg, ¬ clash li x s)
def goodBd (b : BdV) : Bool := couB b.f b.li && (inB b.e 0 20 && (lstB b.ls && (sgsB b.f b.sg && keptB b.li b.sg)))

/-- What a member has signed in an epoch, of so many signatures: rising. -/
def sitM (ep m : Int) : List (List Int) → List Int → List Int
  | [], acc => acc
  | s :: r, acc => sitM ep m r (if s.getD 0 0 = ep ∧ s.getD 1 0 = m ∧ s.getD 2 0 ∉ acc then insL ltI (s.getD 2 0) acc else acc)
theorem sitM_append (ep m : Int) : ∀ (a b : List (List Int)) (acc : List Int), sitM ep m (a ++ b) acc = sitM ep m b (sitM ep m a acc)
  | [], _, _ => rfl
  | s :: a, b, acc => by simp only [List.cons_append, sitM]; exact sitM_append ep m a b _
theorem sitM_ris (ep m : Int) : ∀ (l : List (List Int)) {acc : List Int}, Ris ltI acc → Ris ltI (sitM ep m l acc)
  | [], _, h => h
  | s :: r, acc, h => by
    simp only [sitM]
    refine sitM_ris ep m r ?_
    split
    · rename_i g; exact insL_ris ordI _ h g.2.2
    · exact h
theorem sitM_mem (ep m x : Int) : ∀ (l : List (List Int)) (acc : List Int), x ∈ sitM ep m l acc ↔ x ∈ acc ∨ ∃ s ∈ l, s.getD 0 0 = ep ∧ s.getD 1 0 = m ∧ s.getD 2 0 = x
  | [], acc => by simp [sitM]
  | s :: r, acc => by
    simp only [sitM]
    rw [sitM_mem ep m x r]
    constructor
    · rintro (h | ⟨t, ht, h⟩)
      · split at h
        · rename_i g
          rcases (insL_mem _ _ _).1 h with e | e
          · exact Or.inr ⟨s, List.mem_cons_self, g.1, g.2.1, e.symm⟩
          · exact Or.inl e
        · exact Or.inl h
      · exact Or.inr ⟨t, List.mem_cons_of_mem _ ht, h⟩
    · rintro (h | ⟨t, ht, h⟩)
      · left
        split
        · exact (insL_mem _ _ _).2 (Or.inr h)
        · exact h
      · rcases List.mem_cons.1 ht with e | e
        · subst e
          left
          by_cases g : t.getD 2 0 ∈ acc
          · rw [if_neg (fun k => k.2.2 g), ← h.2.2]; exact g
          · rw [if_pos ⟨h.1, h.2.1, g⟩]; exact (insL_mem _ _ _).2 (Or.inl h.2.2.symm)
        · exact Or.inr ⟨t, e, h⟩
/-- What each of n members has signed in an epoch. -/
def sitL (n : Nat) (ep : Int) (sg : List (List Int)) : List (List Int) := (List.range n).map fun m => sitM ep (m : Nat) sg []
theorem sitL_length (n : Nat) (ep : Int) (sg : List (List Int)) : (sitL n ep sg).length = n := by simp [sitL]
theorem sitL_getD {n : Nat} (ep : Int) (sg : List (List Int)) {m : Nat} (h : m < n) : (sitL n ep sg).getD m [] = sitM ep (m : Nat) sg [] := by simp [sitL, List.getD, h]
theorem sitL_ris (n : Nat) (ep : Int) (sg : List (List Int)) : ∀ l ∈ sitL n ep sg, Ris ltI l := by
  intro l hl
  obtain ⟨m, _, rfl⟩ := List.mem_map.1 hl
  exact sitM_ris _ _ _ List.Pairwise.nil

theorem ris_len : ∀ {l : List Int} {a b : Int}, Ris ltI l → a ≤ b → (∀ x ∈ l, a ≤ x ∧ x < b) → (l.length : Int) ≤ b - a
  | [], a, b, _, h, _ => by simp; omega
  | x :: r, a, b, h, hab, hb => by
    obtain ⟨h1, h2⟩ := List.pairwise_cons.1 h
    have hx := hb x List.mem_cons_self
    have := ris_len (l := r) (a := x + 1) (b := b) h2 (by omega) (fun y hy => by
      have e := h1 y hy
      simp [ltI] at e
      exact ⟨by omega, (hb y (List.mem_cons_of_mem _ hy)).2⟩)
    simp only [List.length_cons]
    omega

theorem sigB_mem {f : Int} {s : List Int} (h : sigB f s = true) : s.length = 3 ∧ (0 ≤ s.getD 0 0 ∧ s.getD 0 0 ≤ 20) ∧ (0 ≤ s.getD 1 0 ∧ s.getD 1 0 ≤ 3 * f) ∧ (0 ≤ s.getD 2 0 ∧ s.getD 2 0 ≤ 9) := by
  simp only [sigB, memB, Bool.and_eq_true, decide_eq_true_eq, inB_iff] at h
  exact ⟨h.1, h.2.1, h.2.2.1, h.2.2.2⟩
theorem sgsB_all {f : Int} {sg : List (List Int)} (h : sgsB f sg = true) : sg.length ≤ 200 ∧ ∀ s ∈ sg, sigB f s = true := by
  simp only [sgsB, Bool.and_eq_true, decide_eq_true_eq, List.all_eq_true] at h
  exact h
theorem ris_two {l : List Int} (h : Ris ltI l) (hl : 1 < l.length) : ∃ x ∈ l, ∃ y ∈ l, x ≠ y := by
  match l, hl with
  | a :: b :: r, _ =>
    obtain ⟨h1, _⟩ := List.pairwise_cons.1 h
    have := h1 b List.mem_cons_self
    simp [ltI] at this
    exact ⟨a, List.mem_cons_self, b, List.mem_cons_of_mem _ List.mem_cons_self, by omega⟩
theorem ris_one {l : List Int} {x y : Int} (hx : x ∈ l) (hy : y ∈ l) (hne : x ≠ y) : 1 < l.length := by
  match l with
  | [] => simp at hx
  | [a] => simp at hx hy; omega
  | a :: b :: r => simp
/-- An epoch is kept by the honest. -/
def keptAt (n : Nat) (li : List Int) (ep : Int) (sg : List (List Int)) : Bool := (List.range n).all fun m => !(decide (1 < (sitM ep (m : Nat) sg []).length) && !decide (((m : Nat) : Int) ∈ li))
theorem kept_iff {f : Int} {n : Nat} {li : List Int} {sg : List (List Int)} (hf : 3 * f + 1 = n) (h : sgsB f sg = true) : keptB li sg = (List.range 21).all fun ep => keptAt n li (ep : Nat) sg := by
  rw [Bool.eq_iff_iff]
  simp only [keptB, keptAt, decide_eq_true_eq, List.all_eq_true, List.mem_range, Bool.not_eq_true', Bool.and_eq_false_iff, decide_eq_false_iff_not, Bool.not_eq_false', Nat.not_lt]
  constructor
  · intro hk ep hep m hm
    by_cases h1 : (sitM (ep : Nat) (m : Nat) sg []).length ≤ 1
    · exact Or.inl h1
    · right
      obtain ⟨x, hx, y, hy, hne⟩ := ris_two (l := sitM (ep : Nat) (m : Nat) sg []) (sitM_ris _ _ _ List.Pairwise.nil) (by omega)
      rw [sitM_mem] at hx hy
      simp only [List.not_mem_nil, false_or] at hx hy
      obtain ⟨s, hs, s1, s2, s3⟩ := hx
      obtain ⟨t, ht, t1, t2, t3⟩ := hy
      have := hk s hs t ht
      unfold clash at this
      refine Classical.byContradiction fun hn => this ⟨t1.trans s1.symm, t2.trans s2.symm, fun e => hne (by rw [← s3, ← t3, e]), ?_⟩
      rw [s2]; simpa using hn
  · intro hk s hs x hx hc
    obtain ⟨c1, c2, c3, c4⟩ := hc
    have b := sigB_mem ((sgsB_all h).2 s hs)
    have := hk (s.getD 0 0).toNat (by omega) (s.getD 1 0).toNat (by omega)
    have e0 : (((s.getD 0 0).toNat : Nat) : Int) = s.getD 0 0 := by omega
    have e1 : (((s.getD 1 0).toNat : Nat) : Int) = s.getD 1 0 := by omega
    rw [e0, e1] at this
    rcases this with h1 | h1
    · have := ris_one (l := sitM (s.getD 0 0) (s.getD 1 0) sg []) (x := s.getD 2 0) (y := x.getD 2 0) ((sitM_mem _ _ _ _ _).2 (Or.inr ⟨s, hs, rfl, rfl, rfl⟩)) ((sitM_mem _ _ _ _ _).2 (Or.inr ⟨x, hx, c1, c2, rfl⟩)) (fun e => c3 e.symm)
      omega
    · exact c4 (by simpa using h1)

/-- What both sides ask of a list of liars, of lists. -/
theorem ris_within {l : List Int} {a b : Int} : (∀ k, k < l.length → (a ≤ l.getD k 0 ∧ l.getD k 0 ≤ b) ∧ ¬ (0 < k ∧ l.getD k 0 ≤ l.getD (k - 1) 0)) ↔ ((l.all fun x => inB x a b) && risB ltI l) = true := by
  rw [Bool.and_eq_true, risB_at 0, List.all_eq_true]
  constructor
  · intro h
    refine ⟨fun x hx => ?_, fun i hi => ?_⟩
    · obtain ⟨j, hj, rfl⟩ := of_mem_getD 0 hx
      exact inB_iff.2 (h j hj).1
    · have := (h (i + 1) hi).2
      rw [show i + 1 - 1 = i by omega] at this
      simp only [ltI, decide_eq_true_eq]; omega
  · rintro ⟨h1, h2⟩ k hk
    refine ⟨inB_iff.1 (h1 _ (mem_getD 0 hk)), fun hh => ?_⟩
    have := h2 (k - 1) (by omega)
    rw [show k - 1 + 1 = k by omega] at this
    simp only [ltI, decide_eq_true_eq] at this; omega
def risW (a b : Int) (l : List Int) : Bool := (l.all fun x => inB x a b) && risB ltI l
theorem lst_risW (ls : List Int) : lstB ls = risW 0 9 ls := by
  unfold lstB risW
  rw [Bool.eq_iff_iff]
  simp only [Bool.and_eq_true, decide_eq_true_eq]
  refine ⟨fun h => ⟨h.1.2, h.2⟩, fun h => ⟨⟨?_, h.1⟩, h.2⟩⟩
  have := ris_len (a := 0) (b := 10) ((risB_ris ordI).1 h.2) (by omega) (fun x hx => by have := inB_iff.1 (List.all_eq_true.1 h.1 x hx); omega)
  omega
theorem cou_risW (f : Int) (li : List Int) : couB f li = (inB f 0 2 && (risW 0 (3 * f) li && decide ((li.length : Int) ≤ f))) := by
  unfold couB risW memB
  cases inB f 0 2 <;> cases decide ((li.length : Int) ≤ f) <;> cases (li.all fun x => inB x 0 (3 * f)) <;> cases risB ltI li <;> simp_all

end Go.Proofs.Ytaokmjbhgkfnfaa
