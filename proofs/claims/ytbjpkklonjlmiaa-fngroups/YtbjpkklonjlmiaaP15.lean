/- Chapter 15: plain facts: tables, steps, what is said. -/
import Derived.Test.YtbjpkklonjlmiaaA15
namespace Go.Proofs.Ytbjpkklonjlmiaa
set_option linter.unusedVariables false
set_option maxRecDepth 1000000
set_option linter.unusedSimpArgs false

/-- A table. -/
structure TbV where
  s : Int
  ps : List (List Int)
  cs : List Int

/-- A step: from, to, the pair's number. -/
abbrev Stp := Int × Int × Int

def inB (x lo hi : Int) : Bool := decide (lo ≤ x ∧ x ≤ hi)
theorem inB_iff {x lo hi : Int} : inB x lo hi = true ↔ lo ≤ x ∧ x ≤ hi := by simp [inB]
def byB (x : Int) : Bool := inB x 0 255
theorem byB_iff {x : Int} : byB x = true ↔ 0 ≤ x ∧ x ≤ 255 := inB_iff

/-- Two numbers, bit for bit unlike. -/
def xr (x y : Int) : Int := ((x.toNat ^^^ y.toNat : Nat) : Int)
theorem xr_comm (x y : Int) : xr x y = xr y x := by unfold xr; rw [Nat.xor_comm]
theorem xr_assoc (x y z : Int) : xr (xr x y) z = xr x (xr y z) := by
  unfold xr
  rw [Int.toNat_natCast, Int.toNat_natCast, Nat.xor_assoc]
theorem xr_zero {x : Int} (h : 0 ≤ x) : xr x 0 = x := by
  unfold xr
  rw [show (0 : Int).toNat = 0 from rfl, Nat.xor_zero]
  omega
theorem zero_xr {x : Int} (h : 0 ≤ x) : xr 0 x = x := by rw [xr_comm, xr_zero h]
theorem xr_self (x : Int) : xr x x = 0 := by unfold xr; rw [Nat.xor_self]; rfl
theorem xr_nonneg (x y : Int) : 0 ≤ xr x y := by unfold xr; omega
theorem xr_by {x y : Int} (hx : byB x = true) (hy : byB y = true) : byB (xr x y) = true := by
  rw [byB_iff] at *
  have := Nat.xor_lt_two_pow (x := x.toNat) (y := y.toNat) (n := 8) (by omega) (by omega)
  refine ⟨xr_nonneg _ _, ?_⟩
  unfold xr
  omega

def pairB (s : Int) (p : List Int) : Bool := decide (p.length = 2) && (inB (p.getD 0 0) 0 (s - 1) && (inB (p.getD 1 0) 0 (s - 1) && decide (p.getD 0 0 < p.getD 1 0)))
/-- The pair at place i is unlike those ahead of it. -/
def newAt (ps : List (List Int)) (i : Nat) : Bool := decide (ps.getD i [] ∉ ps.take i)
def unlB (ps : List (List Int)) : Bool := (List.range ps.length).all (newAt ps)
def goodTb (t : TbV) : Bool := inB t.s 1 6 && (decide (t.cs.length = t.ps.length) && (decide (t.ps.length ≤ 15) && (t.ps.all (pairB t.s) && (unlB t.ps && t.cs.all byB))))

/-- What holds of a good table. -/
structure GoodT (t : TbV) : Prop where
  s1 : 1 ≤ t.s
  s6 : t.s ≤ 6
  cl : t.cs.length = t.ps.length
  pl : t.ps.length ≤ 15
  two : ∀ k, k < t.ps.length → (t.ps.getD k []).length = 2 ∧ 0 ≤ (t.ps.getD k []).getD 0 0 ∧ (t.ps.getD k []).getD 0 0 < (t.ps.getD k []).getD 1 0 ∧ (t.ps.getD k []).getD 1 0 < t.s
  unl : ∀ i j, i < j → j < t.ps.length → t.ps.getD i [] ≠ t.ps.getD j []
  by' : ∀ k, k < t.cs.length → byB (t.cs.getD k 0) = true
theorem goodTb_iff (t : TbV) : goodTb t = true → GoodT t := by
  intro h
  unfold goodTb at h
  simp only [Bool.and_eq_true, decide_eq_true_eq, inB_iff] at h
  obtain ⟨⟨h1, h2⟩, h3, h4, h5, h6, h7⟩ := h
  refine ⟨h1, h2, h3, h4, fun k hk => ?_, fun i j hij hj => ?_, fun k hk => ?_⟩
  · have := List.all_eq_true.1 h5 _ (mem_getD [] hk)
    unfold pairB at this
    simp only [Bool.and_eq_true, decide_eq_true_eq, inB_iff] at this
    obtain ⟨a, b, c, d⟩ := this
    exact ⟨a, b.1, d, by omega⟩
  · have := List.all_eq_true.1 h6 j (List.mem_range.2 hj)
    unfold newAt at this
    simp only [decide_eq_true_eq] at this
    intro e
    apply this
    rw [← e]
    have : i < (t.ps.take j).length := by rw [List.length_take]; omega
    have e2 : (t.ps.take j).getD i [] = t.ps.getD i [] := by simp [List.getD, List.getElem?_take, hij]
    rw [← e2]
    exact mem_getD [] this
  · exact List.all_eq_true.1 h7 _ (mem_getD 0 hk)

/-- The steps over the first m pairs. -/
def stT (ps : List (List Int)) : Nat → List Stp
  | 0 => []
  | m + 1 => stT ps m ++ [((ps.getD m []).getD 0 0, (ps.getD m []).getD 1 0, (m : Int)), ((ps.getD m []).getD 1 0, (ps.getD m []).getD 0 0, (m : Int))]
theorem stT_length (ps : List (List Int)) : ∀ m, (stT ps m).length = 2 * m
  | 0 => rfl
  | m + 1 => by simp only [stT, List.length_append, stT_length ps m, List.length_cons, List.length_nil]; omega
theorem stT_mem (ps : List (List Int)) (y : Stp) : ∀ m, y ∈ stT ps m ↔ ∃ k, k < m ∧ (y = ((ps.getD k []).getD 0 0, (ps.getD k []).getD 1 0, (k : Int)) ∨ y = ((ps.getD k []).getD 1 0, (ps.getD k []).getD 0 0, (k : Int)))
  | 0 => by simp [stT]
  | m + 1 => by
    simp only [stT, List.mem_append, stT_mem ps y m, List.mem_cons, List.not_mem_nil, or_false]
    constructor
    · rintro (⟨k, hk, h⟩ | h)
      · exact ⟨k, by omega, h⟩
      · exact ⟨m, by omega, h⟩
    · rintro ⟨k, hk, h⟩
      by_cases e : k = m
      · subst e; exact Or.inr h
      · exact Or.inl ⟨k, by omega, h⟩

/-- What holds of each step: seats below n, a pair below m. -/
def StB (n m : Nat) (l : List Stp) : Prop := ∀ y ∈ l, 0 ≤ y.1 ∧ y.1 < n ∧ 0 ≤ y.2.1 ∧ y.2.1 < n ∧ 0 ≤ y.2.2 ∧ y.2.2 < m
theorem StB.perm {n m : Nat} {l l' : List Stp} (h : StB n m l) (hp : l'.Perm l) : StB n m l' := fun y hy => h y (hp.mem_iff.1 hy)
theorem GoodT.stB {t : TbV} (h : GoodT t) {m : Nat} (hm : m ≤ t.ps.length) : StB t.s.toNat t.ps.length (stT t.ps m) := by
  intro y hy
  obtain ⟨k, hk, hy⟩ := (stT_mem _ _ _).1 hy
  have := h.two k (by omega)
  have h1 := h.s1
  rcases hy with rfl | rfl <;> (dsimp only; omega)

/-- The coins of the steps from a seat. -/
def cof (cs : List Int) (i : Int) : List Stp → Int
  | [] => 0
  | y :: r => if y.1 = i then xr (cs.getD y.2.2.toNat 0) (cof cs i r) else cof cs i r
theorem cof_nonneg (cs : List Int) (i : Int) : ∀ l, 0 ≤ cof cs i l
  | [] => Int.le_refl _
  | y :: r => by simp only [cof]; split; exact xr_nonneg _ _; exact cof_nonneg cs i r
theorem cof_append (cs : List Int) (i : Int) : ∀ a b, cof cs i (a ++ b) = xr (cof cs i a) (cof cs i b)
  | [], b => by simp only [List.nil_append, cof]; rw [zero_xr (cof_nonneg _ _ _)]
  | y :: r, b => by
    simp only [List.cons_append, cof, cof_append cs i r b]
    split
    · rw [xr_assoc]
    · rfl
theorem cof_perm (cs : List Int) (i : Int) {a b : List Stp} (h : a.Perm b) : cof cs i a = cof cs i b := by
  induction h with
  | nil => rfl
  | cons y _ ih => simp only [cof, ih]
  | swap x y l =>
    simp only [cof]
    by_cases h1 : x.1 = i <;> by_cases h2 : y.1 = i <;> simp only [h1, h2, if_true, if_false]
    rw [← xr_assoc, xr_comm (cs.getD y.2.2.toNat 0), xr_assoc]
  | trans _ _ h1 h2 => rw [h1, h2]

/-- The coins of a seat's pairs, of the first m. -/
def coP (cs : List Int) (ps : List (List Int)) (i : Int) : Nat → Int
  | 0 => 0
  | m + 1 => if (ps.getD m []).getD 0 0 = i ∨ (ps.getD m []).getD 1 0 = i then xr (coP cs ps i m) (cs.getD m 0) else coP cs ps i m
theorem coP_by {cs : List Int} {ps : List (List Int)} {i : Int} (h : ∀ k, k < cs.length → byB (cs.getD k 0) = true) : ∀ m, m ≤ cs.length → byB (coP cs ps i m) = true
  | 0, _ => rfl
  | m + 1, hm => by
    simp only [coP]
    split
    · exact xr_by (coP_by h m (by omega)) (h m (by omega))
    · exact coP_by h m (by omega)
theorem cof_stT {cs : List Int} {ps : List (List Int)} {i : Int} (hc : ∀ k, k < cs.length → byB (cs.getD k 0) = true) (h : ∀ k, k < ps.length → (ps.getD k []).getD 0 0 < (ps.getD k []).getD 1 0) (hl : cs.length = ps.length) : ∀ m, m ≤ ps.length → cof cs i (stT ps m) = coP cs ps i m
  | 0, _ => rfl
  | m + 1, hm => by
    have hlt := h m (by omega)
    have hb := byB_iff.1 (hc m (by omega))
    simp only [stT, coP, cof_append, cof_stT hc h hl m (by omega), cof, Int.toNat_natCast]
    by_cases h1 : (ps.getD m []).getD 0 0 = i
    · rw [if_pos h1, if_neg (by omega), if_pos (Or.inl h1), xr_zero hb.1]
    · rw [if_neg h1]
      by_cases h2 : (ps.getD m []).getD 1 0 = i
      · rw [if_pos h2, if_pos (Or.inr h2), xr_zero hb.1]
      · rw [if_neg h2, if_neg (by rintro (h | h) <;> contradiction), xr_zero]
        exact (byB_iff.1 (coP_by hc m (by omega))).1

/-- One step's coin is laid to what is said. -/
def hidS (cs : List Int) (l : List Int) (y : Stp) : List Int := l.set y.1.toNat (xr (l.getD y.1.toNat 0) (cs.getD y.2.2.toNat 0))
def hidL (cs : List Int) : List Stp → List Int → List Int
  | [], l => l
  | y :: r, l => hidL cs r (hidS cs l y)
theorem hidL_append (cs : List Int) : ∀ (a b : List Stp) (l : List Int), hidL cs (a ++ b) l = hidL cs b (hidL cs a l)
  | [], _, _ => rfl
  | y :: a, b, l => by simp only [List.cons_append, hidL]; exact hidL_append cs a b _
theorem hidL_length (cs : List Int) : ∀ (a : List Stp) (l : List Int), (hidL cs a l).length = l.length
  | [], _ => rfl
  | y :: a, l => by simp only [hidL]; rw [hidL_length]; simp [hidS]
theorem getD_set9 (l : List Int) (i j : Nat) (x : Int) (hj : j < l.length) : (l.set j x).getD i 0 = if i = j then x else l.getD i 0 := by
  by_cases h : i = j
  · subst h; simp [List.getD, hj]
  · rw [if_neg h]; simp [List.getD, List.getElem?_set, Ne.symm h]
theorem hidL_get (cs : List Int) (n m : Nat) (i : Nat) : ∀ (a : List Stp) (l : List Int), StB n m a → l.length = n → (∀ k, k < n → 0 ≤ l.getD k 0) → i < n → (hidL cs a l).getD i 0 = xr (l.getD i 0) (cof cs i a)
  | [], l, _, hl, h0, hi => by simp only [hidL, cof]; rw [xr_zero (h0 i hi)]
  | y :: a, l, hb, hl, h0, hi => by
    have hy := hb y List.mem_cons_self
    have hlen : (hidS cs l y).length = n := by simp [hidS, hl]
    have hg : ∀ k, (hidS cs l y).getD k 0 = if k = y.1.toNat then xr (l.getD y.1.toNat 0) (cs.getD y.2.2.toNat 0) else l.getD k 0 := fun k => getD_set9 _ _ _ _ (by omega)
    simp only [hidL]
    rw [hidL_get cs n m i a _ (fun z hz => hb z (List.mem_cons_of_mem _ hz)) hlen (fun k hk => by rw [hg]; split; exact xr_nonneg _ _; exact h0 k hk) hi, hg]
    simp only [cof]
    by_cases e : i = y.1.toNat
    · rw [if_pos e, if_pos (by omega), xr_assoc, e]
    · rw [if_neg e, if_neg (by omega)]

/-- What all say: of each seat its word and the coins of its pairs. -/
def sayL (t : TbV) (ws : List Int) : List Int := (List.range t.s.toNat).map fun (i : Nat) => xr (ws.getD i 0) (coP t.cs t.ps i t.ps.length)
theorem sayL_length (t : TbV) (ws : List Int) : (sayL t ws).length = t.s.toNat := by simp [sayL]
theorem sayL_get (t : TbV) (ws : List Int) {i : Nat} (h : i < t.s.toNat) : (sayL t ws).getD i 0 = xr (ws.getD i 0) (coP t.cs t.ps i t.ps.length) := by simp [sayL, List.getD, h]
theorem ext_getD {l m : List Int} (hl : l.length = m.length) (h : ∀ i, i < l.length → l.getD i 0 = m.getD i 0) : l = m := by
  refine List.ext_getElem hl (fun i h1 h2 => ?_)
  have := h i h1
  simpa [List.getD, h1, h2] using this
theorem hid_say {t : TbV} (g : GoodT t) {ws : List Int} {ys : List Stp} (hp : ys.Perm (stT t.ps t.ps.length)) (hw : ws.length = t.s.toNat) (h0 : ∀ k, k < ws.length → 0 ≤ ws.getD k 0) : hidL t.cs ys ws = sayL t ws := by
  refine ext_getD (by rw [hidL_length, sayL_length, hw]) (fun i hi => ?_)
  rw [hidL_length] at hi
  rw [hidL_get t.cs t.s.toNat t.ps.length i ys ws ((g.stB (Nat.le_refl _)).perm hp) hw (fun k hk => h0 k (by omega)) (by omega), sayL_get t ws (by omega), cof_perm _ _ hp, cof_stT g.by' (fun k hk => (g.two k hk).2.2.1) g.cl _ (Nat.le_refl _)]
theorem sayL_by {t : TbV} (g : GoodT t) {ws : List Int} (h : ∀ k, k < t.s.toNat → byB (ws.getD k 0) = true) : ∀ x ∈ sayL t ws, byB x = true := by
  intro x hx
  unfold sayL at hx
  obtain ⟨i, hi, rfl⟩ := List.mem_map.1 hx
  exact xr_by (h i (by simpa using hi)) (coP_by g.by' _ (by rw [g.cl]; exact Nat.le_refl _))

/-- All numbers, bit for bit unlike, together. -/
def sumX (l : List Int) : Int := l.foldl xr 0
theorem sumX_take {l : List Int} {k : Nat} (h : k < l.length) : sumX (l.take (k + 1)) = xr (sumX (l.take k)) (l.getD k 0) := by
  unfold sumX
  rw [take_snoc 0 h, List.foldl_append]; rfl
theorem foldl_xr_by : ∀ (l : List Int) (a : Int), byB a = true → (∀ x ∈ l, byB x = true) → byB (l.foldl xr a) = true
  | [], a, h, _ => h
  | x :: l, a, h, hl => by simp only [List.foldl_cons]; exact foldl_xr_by l _ (xr_by h (hl x List.mem_cons_self)) (fun y hy => hl y (List.mem_cons_of_mem _ hy))
theorem sumX_by {l : List Int} (h : ∀ x ∈ l, byB x = true) : byB (sumX l) = true := foldl_xr_by l 0 rfl h
def sumB (l : List Int) : Bool := decide (l.length ≤ 6) && l.all byB

end Go.Proofs.Ytbjpkklonjlmiaa
