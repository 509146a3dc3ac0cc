/- Chapter 15: plain facts: ways. -/
import Derived.Test.YtbjpkklonjlmiaaP15B
namespace Go.Proofs.Ytbjpkklonjlmiaa
set_option linter.unusedVariables false
set_option maxRecDepth 1000000
set_option linter.unusedSimpArgs false

/-- The pair of two seats. -/
def isPr (p : List Int) (a b : Int) : Bool := (decide (p.getD 0 0 = a) && decide (p.getD 1 0 = b)) || (decide (p.getD 0 0 = b) && decide (p.getD 1 0 = a))
theorem isPr_iff {p : List Int} {a b : Int} : isPr p a b = true ↔ (p.getD 0 0 = a ∧ p.getD 1 0 = b) ∨ (p.getD 0 0 = b ∧ p.getD 1 0 = a) := by
  unfold isPr
  simp only [Bool.or_eq_true, Bool.and_eq_true, decide_eq_true_eq]
/-- The number of the pair of two seats, -1 for none. -/
def prN (ps : List (List Int)) (a b : Int) : Int := match (List.range ps.length).find? (fun i => isPr (ps.getD i []) a b) with
  | some i => i
  | none => -1
theorem prN_at {ps : List (List Int)} {a b : Int} {k : Nat} (hk : k < ps.length) (h : isPr (ps.getD k []) a b = true) (h2 : ∀ j, j < k → isPr (ps.getD j []) a b = false) : prN ps a b = k := by
  have : (List.range ps.length).find? (fun i => isPr (ps.getD i []) a b) = some k := by
    rw [List.find?_range_eq_some]
    exact ⟨h, List.mem_range.2 hk, fun j hj => by rw [h2 j hj]; rfl⟩
  unfold prN
  rw [this]
theorem prN_none {ps : List (List Int)} {a b : Int} (h : ∀ j, j < ps.length → isPr (ps.getD j []) a b = false) : prN ps a b = -1 := by
  have : (List.range ps.length).find? (fun i => isPr (ps.getD i []) a b) = none := by
    rw [List.find?_range_eq_none]
    exact fun j hj => by rw [h j hj]; rfl
  unfold prN
  rw [this]
theorem prN_some {ps : List (List Int)} {a b : Int} (h : 0 ≤ prN ps a b) : ∃ k : Nat, k < ps.length ∧ prN ps a b = k ∧ isPr (ps.getD k []) a b = true := by
  cases hf : (List.range ps.length).find? (fun i => isPr (ps.getD i []) a b) with
  | none => unfold prN at h; rw [hf] at h; simp at h
  | some k =>
    have h2 := hf
    rw [List.find?_range_eq_some] at h2
    exact ⟨k, List.mem_range.1 h2.2.1, by unfold prN; rw [hf], h2.1⟩
theorem prN_lt {ps : List (List Int)} {a b : Int} (h : 0 ≤ prN ps a b) : prN ps a b < ps.length := by
  obtain ⟨k, hk, e, _⟩ := prN_some h
  omega

/-- A step's pair is the pair of its two seats. -/
theorem prN_step {t : TbV} (g : GoodT t) {y : Stp} (hy : y ∈ stT t.ps t.ps.length) : prN t.ps y.1 y.2.1 = y.2.2 := by
  obtain ⟨k, hk, hy⟩ := (stT_mem _ _ _).1 hy
  have hp : isPr (t.ps.getD k []) y.1 y.2.1 = true := by
    rw [isPr_iff]
    rcases hy with rfl | rfl
    · exact Or.inl ⟨rfl, rfl⟩
    · exact Or.inr ⟨rfl, rfl⟩
  have e : y.2.2 = (k : Int) := by rcases hy with rfl | rfl <;> rfl
  rw [e]
  refine prN_at hk hp (fun j hj => ?_)
  rw [← Bool.not_eq_true]
  intro hj2
  rw [isPr_iff] at hp hj2
  have a1 := g.two k hk
  have a2 := g.two j (by omega)
  refine g.unl j k hj hk (ext_getD (by rw [a1.1, a2.1]) (fun i hi => ?_))
  rw [a2.1] at hi
  have e0 : (t.ps.getD j []).getD 0 0 = (t.ps.getD k []).getD 0 0 := by omega
  have e1 : (t.ps.getD j []).getD 1 0 = (t.ps.getD k []).getD 1 0 := by omega
  have : i = 0 ∨ i = 1 := by omega
  rcases this with rfl | rfl
  · exact e0
  · exact e1
theorem prN_mem {t : TbV} {a b : Int} (h : 0 ≤ prN t.ps a b) : (a, b, prN t.ps a b) ∈ stT t.ps t.ps.length := by
  obtain ⟨k, hk, e, hp⟩ := prN_some h
  rw [e, stT_mem]
  refine ⟨k, hk, ?_⟩
  rw [isPr_iff] at hp
  rcases hp with ⟨h1, h2⟩ | ⟨h1, h2⟩
  · left; rw [h1, h2]
  · right; rw [h1, h2]

/-- Whether a way goes on to a seat. -/
def okS (ps : List (List Int)) (far : List Int) (a s : Nat) : Bool := decide (0 ≤ prN ps a s) && decide (far.getD s 0 = far.getD a 0 - 1)
theorem okS_iff {ps : List (List Int)} {far : List Int} {a s : Nat} : okS ps far a s = true ↔ 0 ≤ prN ps a s ∧ far.getD s 0 = far.getD a 0 - 1 := by
  unfold okS
  simp only [Bool.and_eq_true, decide_eq_true_eq]
def wayF (ps : List (List Int)) (far : List Int) (n : Nat) : Nat → Nat → List Int
  | 0, _ => []
  | f + 1, a => match (List.range n).find? (okS ps far a) with
    | some s => prN ps a s :: wayF ps far n f s
    | none => []
/-- The way from a seat on. -/
def wayL (ps : List (List Int)) (far : List Int) (n a : Nat) : List Int := wayF ps far n (far.getD a 0).toNat a
theorem wayL_end {ps : List (List Int)} {far : List Int} {n a : Nat} (h : far.getD a 0 ≤ 0) : wayL ps far n a = [] := by
  unfold wayL
  rw [show (far.getD a 0).toNat = 0 by omega]
  rfl
theorem wayL_step {ps : List (List Int)} {far : List Int} {n a s : Nat} (h : 0 < far.getD a 0) (hs : s < n) (h1 : okS ps far a s = true) (h2 : ∀ j, j < s → okS ps far a j = false) : wayL ps far n a = prN ps a s :: wayL ps far n s := by
  have e := (okS_iff.1 h1).2
  have hf : (List.range n).find? (okS ps far a) = some s := by
    rw [List.find?_range_eq_some]
    exact ⟨h1, List.mem_range.2 hs, fun j hj => by rw [h2 j hj]; rfl⟩
  unfold wayL
  obtain ⟨k, hk⟩ : ∃ k : Nat, (far.getD a 0).toNat = k + 1 := ⟨(far.getD a 0).toNat - 1, by omega⟩
  rw [hk, wayF, hf, show (far.getD s 0).toNat = k by omega]
theorem wayF_length (ps : List (List Int)) (far : List Int) (n : Nat) : ∀ f a, (wayF ps far n f a).length ≤ f
  | 0, _ => Nat.le_refl _
  | f + 1, a => by
    rw [wayF]
    split
    · rename_i s _
      have := wayF_length ps far n f s
      simp only [List.length_cons]; omega
    · simp
theorem wayF_mem (ps : List (List Int)) (far : List Int) (n : Nat) : ∀ f a, ∀ x ∈ wayF ps far n f a, 0 ≤ x ∧ x < ps.length
  | 0, _, x, h => by simp [wayF] at h
  | f + 1, a, x, h => by
    rw [wayF] at h
    split at h
    · rename_i s hs
      rw [List.find?_range_eq_some] at hs
      have hk := (okS_iff.1 hs.1).1
      rcases List.mem_cons.1 h with rfl | h
      · exact ⟨hk, prN_lt hk⟩
      · exact wayF_mem ps far n f s x h
    · simp at h

/-- The first step nearing the goal, of steps that rise by where they lead, leads to the least such seat. -/
theorem near_first {t : TbV} (g : GoodT t) {ys : List Stp} {far : List Int} {n a i : Nat} (hn : n = t.s.toNat) (hp : ys.Perm (stT t.ps t.ps.length)) (hr : ∀ i j, i ≤ j → j < ys.length → (ys.getD i (0, 0, 0)).2.1 ≤ (ys.getD j (0, 0, 0)).2.1)
    (hi : i < ys.length) (h1 : (ys.getD i (0, 0, 0)).1 = (a : Int)) (h2 : far.getD (ys.getD i (0, 0, 0)).2.1.toNat 0 = far.getD a 0 - 1)
    (h3 : ∀ j, j < i → ¬ ((ys.getD j (0, 0, 0)).1 = (a : Int) ∧ far.getD (ys.getD j (0, 0, 0)).2.1.toNat 0 = far.getD a 0 - 1)) :
    (ys.getD i (0, 0, 0)).2.1.toNat < n ∧ okS t.ps far a (ys.getD i (0, 0, 0)).2.1.toNat = true ∧ (∀ j, j < (ys.getD i (0, 0, 0)).2.1.toNat → okS t.ps far a j = false) ∧ prN t.ps a ((ys.getD i (0, 0, 0)).2.1.toNat : Nat) = (ys.getD i (0, 0, 0)).2.2 := by
  have hmem := hp.mem_iff.1 (mem_getD (0, 0, 0) hi)
  have hb := (g.stB (Nat.le_refl _)).perm hp _ (mem_getD (0, 0, 0) hi)
  have hpr := prN_step g hmem
  generalize hy : ys.getD i (0, 0, 0) = y at h1 h2 hmem hb hpr ⊢
  obtain ⟨s, hs⟩ : ∃ s : Nat, y.2.1 = (s : Int) := ⟨y.2.1.toNat, by omega⟩
  rw [hs] at h2 hpr ⊢
  rw [h1] at hpr
  rw [Int.toNat_natCast] at h2 ⊢
  refine ⟨by omega, okS_iff.2 ⟨by rw [hpr]; omega, h2⟩, fun j hj => ?_, hpr⟩
  rw [← Bool.not_eq_true]
  intro hok
  obtain ⟨k1, k2⟩ := okS_iff.1 hok
  have hm2 := hp.mem_iff.2 (prN_mem k1)
  obtain ⟨q, hq, e⟩ := of_mem_getD (0, 0, 0) hm2
  rcases Nat.lt_or_ge q i with hqi | hqi
  · apply h3 q hqi
    rw [e]
    exact ⟨rfl, by simpa using k2⟩
  · have := hr i q hqi hq
    rw [hy, e, hs] at this
    dsimp only at this
    omega

/-- Whether there is a way; the way. -/
def farT (t : TbV) (b : Nat) : List Int := farL (stT t.ps t.ps.length) t.s.toNat b
def twoB (t : TbV) (a b : Int) : Bool := goodTb t && (seatB' t.s a && seatB' t.s b)
  where seatB' (s n : Int) : Bool := decide (0 ≤ n ∧ n < s)
def wayB (t : TbV) (a b : Int) : Bool := twoB t a b && decide ((farT t b.toNat).getD a.toNat 0 ≠ -1)
def wayV (t : TbV) (a b : Int) : List Int := if wayB t a b = true then wayL t.ps (farT t b.toNat) t.s.toNat a.toNat else []
theorem wayV_short (t : TbV) (a b : Int) : (wayV t a b).length ≤ 1000 := by
  unfold wayV
  split
  · rename_i h
    unfold wayB twoB at h
    rw [Bool.and_eq_true, Bool.and_eq_true, Bool.and_eq_true] at h
    have g := goodTb_iff t h.1.1
    have ha := h.1.2.1
    have hb := h.1.2.2
    unfold twoB.seatB' at ha hb
    rw [decide_eq_true_eq] at ha hb
    have hok := farN_ok (g.stB (Nat.le_refl _)) (g := b.toNat) (by omega) t.s.toNat
    have := wayF_length t.ps (farT t b.toNat) t.s.toNat ((farT t b.toNat).getD a.toNat 0).toNat a.toNat
    have h2 := hok.hi a.toNat (by omega)
    have : (farT t b.toNat).getD a.toNat 0 ≤ (t.s.toNat : Int) := h2
    have h6 := g.s6
    unfold wayL
    omega
  · simp

end Go.Proofs.Ytbjpkklonjlmiaa
