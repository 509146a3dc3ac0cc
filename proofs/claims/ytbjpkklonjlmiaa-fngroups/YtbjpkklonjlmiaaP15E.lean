/- Chapter 15: plain facts: groups. -/
import Derived.Test.YtbjpkklonjlmiaaP15D
namespace Go.Proofs.Ytbjpkklonjlmiaa
set_option linter.unusedVariables false
set_option maxRecDepth 1000000
set_option linter.unusedSimpArgs false

theorem cnt_lt {P Q : Int → Bool} (h : ∀ x, P x = true → Q x = true) : ∀ {l : List Int}, (∃ x ∈ l, Q x = true ∧ P x = false) → l.countP P + 1 ≤ l.countP Q
  | [], hx => by obtain ⟨x, hx, _⟩ := hx; simp at hx
  | a :: r, hx => by
    have hm : ∀ l : List Int, l.countP P ≤ l.countP Q := fun l => List.countP_mono_left (fun x _ => h x)
    have hmr := hm r
    obtain ⟨x, hx, h1, h2⟩ := hx
    rw [List.countP_cons, List.countP_cons]
    rcases List.mem_cons.1 hx with rfl | hx
    · simp only [h1, h2, if_true]; simp; omega
    · have ih := cnt_lt h (l := r) ⟨x, hx, h1, h2⟩
      have : (if P a = true then 1 else 0) ≤ (if Q a = true then 1 else 0) := by
        cases hp : P a
        · simp
        · rw [h a hp]; simp
      omega

/-- Whether a number is at most u, and told. -/
def uptoB (u : Int) (x : Int) : Bool := decide (0 ≤ x ∧ x ≤ u)
theorem far_cnt {steps : List Stp} {n n' g : Nat} {far : List Int} (ho : FarOk steps n g n far) (hs : StB n n' steps) : ∀ (v i : Nat), i < n → far.getD i 0 = (v : Int) → v + 1 ≤ far.countP (uptoB v)
  | 0, i, hi, h => by
    have hm : (0 : Int) ∈ far := by rw [← show far.getD i 0 = 0 by omega]; exact mem_getD 0 (by rw [ho.len]; exact hi)
    have : 0 < far.countP (uptoB (0 : Nat)) := List.countP_pos_iff.2 ⟨0, hm, by simp [uptoB]⟩
    omega
  | v + 1, i, hi, h => by
    obtain ⟨y, hy, e1, e2⟩ := ho.near i hi (by omega)
    have hb := hs y hy
    have ih := far_cnt ho hs v y.2.1.toNat (by omega) (by rw [e2, h]; omega)
    have := cnt_lt (P := uptoB v) (Q := uptoB ((v + 1 : Nat) : Int)) (fun x hx => by
      unfold uptoB at hx ⊢
      rw [decide_eq_true_eq] at hx ⊢
      omega) (l := far) ⟨((v + 1 : Nat) : Int), by rw [← h]; exact mem_getD 0 (by rw [ho.len]; exact hi), by unfold uptoB; rw [decide_eq_true_eq]; omega, by unfold uptoB; rw [decide_eq_false_iff_not]; omega⟩
    omega
/-- No seat is n pairs away. -/
theorem far_lt {steps : List Stp} {n n' g : Nat} {far : List Int} (ho : FarOk steps n g n far) (hs : StB n n' steps) {i : Nat} (hi : i < n) : far.getD i 0 < n := by
  by_cases h0 : 0 ≤ far.getD i 0
  · have := far_cnt ho hs (far.getD i 0).toNat i hi (by omega)
    have h2 := List.countP_le_length (p := uptoB ((far.getD i 0).toNat : Nat)) (l := far)
    rw [ho.len] at h2
    omega
  · omega

/-- Whether steps lead from a seat to another. -/
inductive Con (steps : List Stp) : Nat → Nat → Prop
  | refl (a : Nat) : Con steps a a
  | step {a c : Nat} (y : Stp) (hy : y ∈ steps) (ha : y.1.toNat = a) (h : Con steps y.2.1.toNat c) : Con steps a c
theorem Con.trans {steps : List Stp} {a b c : Nat} (h : Con steps a b) (k : Con steps b c) : Con steps a c := by
  induction h with
  | refl a => exact k
  | step y hy ha _ ih => exact .step y hy ha (ih k)
theorem stT_flip {ps : List (List Int)} {m : Nat} {y : Stp} (hy : y ∈ stT ps m) : (y.2.1, y.1, y.2.2) ∈ stT ps m := by
  rw [stT_mem] at hy ⊢
  obtain ⟨k, hk, h⟩ := hy
  refine ⟨k, hk, ?_⟩
  rcases h with rfl | rfl
  · exact Or.inr rfl
  · exact Or.inl rfl
theorem Con.symm {ps : List (List Int)} {m a b : Nat} (h : Con (stT ps m) a b) : Con (stT ps m) b a := by
  induction h with
  | refl a => exact .refl a
  | step y hy ha _ ih => exact ih.trans (.step (y.2.1, y.1, y.2.2) (stT_flip hy) rfl (by show Con _ y.1.toNat _; rw [ha]; exact .refl _))

/-- Whether a seat is in the group around another. -/
def rch (t : TbV) (g i : Nat) : Bool := decide (0 ≤ (farT t g).getD i 0)
theorem rch_con {t : TbV} (hg : GoodT t) {n g i : Nat} (hn : n = t.s.toNat) (hgn : g < n) (hi : i < n) : rch t g i = true ↔ Con (stT t.ps t.ps.length) i g := by
  have hs := hg.stB (Nat.le_refl t.ps.length)
  rw [← hn] at hs
  have ho : FarOk (stT t.ps t.ps.length) n g n (farT t g) := by unfold farT farL; rw [← hn]; exact farN_ok hs hgn n
  unfold rch
  rw [decide_eq_true_eq]
  constructor
  · intro h
    have : ∀ (v i : Nat), i < n → (farT t g).getD i 0 = (v : Int) → Con (stT t.ps t.ps.length) i g := by
      intro v
      induction v with
      | zero => intro i hi h; have := (ho.z i hi).1 (by omega); rw [this]; exact .refl _
      | succ v ih =>
        intro i hi h
        obtain ⟨y, hy, e1, e2⟩ := ho.near i hi (by omega)
        have hb := hs y hy
        exact .step y hy e1 (ih _ (by omega) (by rw [e2, h]; omega))
    exact this _ i hi (show _ = (((farT t g).getD i 0).toNat : Int) by omega)
  · intro h
    have : ∀ {a c : Nat}, Con (stT t.ps t.ps.length) a c → c = g → a < n → 0 ≤ (farT t g).getD a 0 := by
      intro a c hc
      induction hc with
      | refl a => intro e ha; have := (ho.z a ha).2 e; omega
      | step y hy ha _ ih =>
        intro e h2
        have hb := hs y hy
        have h3 := ih e (by omega)
        have h4 := ho.back y hy h3 (far_lt ho hs (by omega))
        rw [ha] at h4
        exact h4
    exact this h rfl hi
theorem rch_refl {t : TbV} (hg : GoodT t) {n i : Nat} (hn : n = t.s.toNat) (hi : i < n) : rch t i i = true := (rch_con hg hn hi hi).2 (.refl i)
theorem rch_symm {t : TbV} (hg : GoodT t) {n i j : Nat} (hn : n = t.s.toNat) (hi : i < n) (hj : j < n) : rch t i j = rch t j i := by
  rw [Bool.eq_iff_iff, rch_con hg hn hi hj, rch_con hg hn hj hi]
  exact ⟨Con.symm, Con.symm⟩
theorem rch_trans {t : TbV} (hg : GoodT t) {n i j k : Nat} (hn : n = t.s.toNat) (hi : i < n) (hj : j < n) (hk : k < n) (h1 : rch t i j = true) (h2 : rch t j k = true) : rch t i k = true := by
  rw [rch_con hg hn hi hj] at h1
  rw [rch_con hg hn hj hk] at h2
  rw [rch_con hg hn hi hk]
  exact h2.trans h1

/-- The group around a seat. -/
def grpL (t : TbV) (n s : Nat) : List Int := ((List.range n).filter (rch t s)).map fun (k : Nat) => (k : Int)
/-- Whether a group has been told by one of the seats up to s. -/
def seenB (t : TbV) (s k : Nat) : Bool := (List.range s).any fun j => rch t j k
/-- The groups told by the seats up to s. -/
def grpsL (t : TbV) (n s : Nat) : List (List Int) := ((List.range s).filter fun j => !(seenB t j j)).map (grpL t n)
theorem grpL_length (t : TbV) (n s : Nat) : (grpL t n s).length ≤ n := by
  unfold grpL
  rw [List.length_map]
  have := List.length_filter_le (rch t s) (List.range n)
  rw [List.length_range] at this
  exact this
theorem grpsL_length (t : TbV) (n s : Nat) : (grpsL t n s).length ≤ s := by
  unfold grpsL
  rw [List.length_map]
  have := List.length_filter_le (fun j => !(seenB t j j)) (List.range s)
  rw [List.length_range] at this
  exact this
theorem grpsL_succ (t : TbV) (n s : Nat) : grpsL t n (s + 1) = if seenB t s s = true then grpsL t n s else grpsL t n s ++ [grpL t n s] := by
  unfold grpsL
  rw [List.range_succ, List.filter_append, List.map_append]
  cases h : seenB t s s <;> simp [h]
theorem seenB_iff {t : TbV} {s k : Nat} : seenB t s k = true ↔ ∃ j, j < s ∧ rch t j k = true := by
  unfold seenB
  rw [List.any_eq_true]
  simp only [List.mem_range]
theorem seenB_succ {t : TbV} (hg : GoodT t) {n s k : Nat} (hn : n = t.s.toNat) (hs : s < n) (hk : k < n) : seenB t (s + 1) k = if seenB t s s = true then seenB t s k else (seenB t s k || rch t s k) := by
  rw [Bool.eq_iff_iff, seenB_iff]
  split
  · rename_i h
    rw [seenB_iff] at h ⊢
    obtain ⟨j, hj, h1⟩ := h
    constructor
    · rintro ⟨i, hi, h2⟩
      by_cases e : i = s
      · subst e
        exact ⟨j, hj, rch_trans hg hn (by omega) hs hk h1 h2⟩
      · exact ⟨i, by omega, h2⟩
    · rintro ⟨i, hi, h2⟩
      exact ⟨i, by omega, h2⟩
  · rw [Bool.or_eq_true, seenB_iff]
    constructor
    · rintro ⟨i, hi, h2⟩
      by_cases e : i = s
      · subst e; exact Or.inr h2
      · exact Or.inl ⟨i, by omega, h2⟩
    · rintro (⟨i, hi, h2⟩ | h2)
      · exact ⟨i, by omega, h2⟩
      · exact ⟨s, by omega, h2⟩
/-- The program's question: the group's least seat is the seat itself. -/
theorem grp_head {t : TbV} (hg : GoodT t) {n s : Nat} (hn : n = t.s.toNat) (hs : s < n) : 0 < (grpL t n s).length ∧ ((grpL t n s).getD 0 0 = (s : Int) ↔ seenB t s s = false) := by
  have hmem : s ∈ (List.range n).filter (rch t s) := List.mem_filter.2 ⟨List.mem_range.2 hs, rch_refl hg hn hs⟩
  have hpw : ((List.range n).filter (rch t s)).Pairwise (· < ·) := List.Pairwise.filter _ (List.pairwise_lt_range)
  have hsub : ∀ x ∈ (List.range n).filter (rch t s), x < n ∧ rch t s x = true := fun x hx => by
    rw [List.mem_filter, List.mem_range] at hx; exact hx
  unfold grpL
  cases hl : (List.range n).filter (rch t s) with
  | nil => rw [hl] at hmem; simp at hmem
  | cons a r =>
    rw [hl] at hmem hpw hsub
    rw [List.pairwise_cons] at hpw
    refine ⟨by simp, ?_⟩
    show ((a : Nat) : Int) = (s : Int) ↔ _
    have ha := hsub a (List.mem_cons_self ..)
    rw [← Bool.not_eq_true, seenB_iff]
    constructor
    · rintro e ⟨j, hj, h⟩
      rw [rch_symm hg hn (by omega) hs] at h
      have : j ∈ (List.range n).filter (rch t s) := List.mem_filter.2 ⟨List.mem_range.2 (by omega), h⟩
      rw [hl] at this
      rcases List.mem_cons.1 this with h1 | h1
      · omega
      · have := hpw.1 j h1; omega
    · intro h
      rcases List.mem_cons.1 hmem with h1 | h1
      · omega
      · have h2 := hpw.1 s h1
        exact absurd ⟨a, h2, by rw [rch_symm hg hn ha.1 hs]; exact ha.2⟩ h

end Go.Proofs.Ytbjpkklonjlmiaa
