/- Chapter 15: plain facts: groups part the seats; ways lead within groups alone. -/
import Derived.Test.YtbjpkklonjlmiaaP15H
import Derived.Test.YtbjpkklonjlmiaaGI15
namespace Go.Proofs.Ytbjpkklonjlmiaa
set_option linter.unusedVariables false
set_option maxRecDepth 1000000
set_option linter.unusedSimpArgs false

theorem sum_tog {t : TbV} {ws : List Int} (h : togB t ws = true) : sumX (togV t ws) = sumX ws := by
  have h2 := h
  unfold togB at h2
  rw [Bool.and_eq_true, Bool.and_eq_true, decide_eq_true_eq] at h2
  have g := goodTb_iff t h2.1
  unfold togV
  rw [if_pos h]
  exact sum_say g (by omega) (List.all_eq_true.1 h2.2.2)
theorem way_less {t : TbV} {a b : Int} (h : wayB t a b = true) : ((wayV t a b).length : Int) < t.s := by
  have g := wayB_good h
  have h2 := h
  unfold wayB at h2
  rw [Bool.and_eq_true, twoB_eq, Bool.and_eq_true, Bool.and_eq_true] at h2
  have ha := h2.1.2.1
  have hb := h2.1.2.2
  unfold seatB at ha hb
  rw [decide_eq_true_eq] at ha hb
  have hs := g.stB (Nat.le_refl t.ps.length)
  have ho : FarOk (stT t.ps t.ps.length) t.s.toNat b.toNat t.s.toNat (farT t b.toNat) := by unfold farT farL; exact farN_ok hs (by omega) _
  have hl := far_lt ho hs (i := a.toNat) (by omega)
  have h3 := wayF_length t.ps (farT t b.toNat) t.s.toNat ((farT t b.toNat).getD a.toNat 0).toNat a.toNat
  have h1 := g.s1
  unfold wayV wayL
  rw [if_pos h]
  omega

theorem filter_or {p q : Nat → Bool} : ∀ {l : List Nat}, (∀ x ∈ l, p x = true → q x = false) → (l.filter fun x => p x || q x).length = (l.filter p).length + (l.filter q).length
  | [], _ => rfl
  | a :: r, h => by
    have ih := filter_or (l := r) (fun x hx => h x (List.mem_cons_of_mem _ hx))
    have ha := h a (List.mem_cons_self ..)
    simp only [List.filter_cons]
    cases hp : p a
    · cases hq : q a <;> simp [ih] <;> omega
    · rw [ha hp]; simp [ih]; omega
theorem grps_sum {t : TbV} (hg : GoodT t) {n : Nat} (hn : n = t.s.toNat) : ∀ s, s ≤ n → ((grpsL t n s).map List.length).sum = ((List.range n).filter (seenB t s)).length
  | 0, _ => by
    have : (List.range n).filter (seenB t 0) = [] := List.filter_eq_nil_iff.2 (fun a _ => by simp [seenB])
    rw [this]; rfl
  | s + 1, hs => by
    have ih := grps_sum hg hn s (by omega)
    rw [grpsL_succ]
    cases hse : seenB t s s
    · rw [if_neg (by simp), List.map_append, List.sum_append, ih]
      have e : (List.range n).filter (seenB t (s + 1)) = (List.range n).filter fun k => seenB t s k || rch t s k := by
        refine List.filter_congr (fun k hk => ?_)
        rw [seenB_succ hg hn (by omega) (List.mem_range.1 hk), if_neg (by rw [hse]; simp)]
      rw [e, filter_or (fun k hk h1 => ?_)]
      · simp [grpL]
      · have hkn := List.mem_range.1 hk
        rw [← Bool.not_eq_true]
        intro h2
        rw [seenB_iff] at h1
        obtain ⟨j, hj, h3⟩ := h1
        rw [rch_symm hg hn (by omega) hkn] at h2
        have h4 := rch_trans hg hn (by omega) hkn (by omega) h3 h2
        have : seenB t s s = true := seenB_iff.2 ⟨j, hj, h4⟩
        rw [hse] at this
        cases this
    · rw [if_pos rfl, ih]
      congr 1
      refine List.filter_congr (fun k hk => ?_)
      rw [seenB_succ hg hn (by omega) (List.mem_range.1 hk), if_pos hse]
/-- The groups part the seats. -/
theorem grps_all {t : TbV} (hg : GoodT t) {n : Nat} (hn : n = t.s.toNat) : ((grpsL t n n).map List.length).sum = n := by
  rw [grps_sum hg hn n (Nat.le_refl _)]
  have : (List.range n).filter (seenB t n) = List.range n := List.filter_eq_self.2 (fun k hk => seenB_iff.2 ⟨k, List.mem_range.1 hk, rch_refl hg hn (List.mem_range.1 hk)⟩)
  rw [this, List.length_range]
theorem grpL_mem {t : TbV} {n s k : Nat} : (k : Int) ∈ grpL t n s ↔ k < n ∧ rch t s k = true := by
  unfold grpL
  rw [List.mem_map]
  constructor
  · rintro ⟨j, hj, e⟩
    rw [List.mem_filter, List.mem_range] at hj
    rw [show k = j by omega]
    exact hj
  · rintro ⟨h1, h2⟩
    exact ⟨k, List.mem_filter.2 ⟨List.mem_range.2 h1, h2⟩, rfl⟩
/-- Of two seats, one in a group: the other is in it just where a way leads. -/
theorem grp_way {t : TbV} (h : goodTb t = true) {x : List Int} (hx : x ∈ grpsL t t.s.toNat t.s.toNat) {a b : Nat} (ha : (a : Int) ∈ x) (hb : b < t.s.toNat) : (b : Int) ∈ x ↔ wayB t a b = true := by
  have g := goodTb_iff t h
  unfold grpsL at hx
  obtain ⟨j, hj, e⟩ := List.mem_map.1 hx
  subst e
  have hjn : j < t.s.toNat := List.mem_range.1 (List.mem_filter.1 hj).1
  obtain ⟨han, hja⟩ := grpL_mem.1 ha
  have hw : wayB t a b = rch t b a := by
    have hs : seatB t.s a = true := by unfold seatB; rw [decide_eq_true_eq]; omega
    have hs2 : seatB t.s b = true := by unfold seatB; rw [decide_eq_true_eq]; omega
    have ho : FarOk (stT t.ps t.ps.length) t.s.toNat b t.s.toNat (farT t b) := by unfold farT farL; exact farN_ok (g.stB (Nat.le_refl _)) hb _
    have hlo := ho.lo a han
    unfold wayB rch
    rw [twoB_eq, h, hs, hs2, Bool.true_and, Bool.true_and, Bool.true_and, Int.toNat_natCast, Int.toNat_natCast, decide_eq_decide]
    omega
  rw [hw, grpL_mem]
  constructor
  · rintro ⟨_, h2⟩
    rw [rch_symm g rfl hjn hb] at h2
    exact rch_trans g rfl hb hjn han h2 hja
  · intro h2
    refine ⟨hb, ?_⟩
    rw [rch_symm g rfl hb han] at h2
    exact rch_trans g rfl hjn han hb hja h2

end Go.Proofs.Ytbjpkklonjlmiaa
