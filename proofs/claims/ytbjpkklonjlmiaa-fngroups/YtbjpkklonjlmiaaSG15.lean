/- Chapter 15: GoodTable of the specification. -/
import Derived.Test.YtbjpkklonjlmiaaS15
import Derived.Deep.RegionHeld3
namespace Go.Proofs.Ytbjpkklonjlmiaa
set_option linter.unusedVariables false
set_option maxRecDepth 1000000
set_option linter.unusedSimpArgs false
open Go.RowKit Go.Sort

set_option maxHeartbeats 2000000 in
theorem l1Same_c (ao bo : Option Addr) (n m c d : Nat) (xs ys : List Int) (w : World) (hx : xs.length = n) (hy : ys.length = m) (hn : n ≤ 17592186044416) (hm : m ≤ 17592186044416) (hr : Rd w ao xs) (hs : Rd w bo ys) :
    Calls Try.prog 44 #[.slice ao n c, .slice bo m d] w fun e w' => e = .returned (.bool (decide (xs = ys))) ∧ Below w.heap.size w w' := by
  by_cases hnm : n = m
  case neg =>
    rw [decide_eq_false (show ¬ xs = ys from fun e => hnm (by rw [← hx, ← hy, e]))]
    have hx : ((n : Int) != (m : Int)) = true := by rw [bne_iff_ne]; omega
    go_enter Try.func44, Try.ntmps44
    go_wp2
    go_ret
    exact ⟨rfl, Below.refl _ _⟩
  subst hnm
  have HX : Hid (xs.length = n) := hx
  have HY : Hid (ys.length = n) := hy
  have HR : Hid (Rd w ao xs) := hr
  have HS : Hid (Rd w bo ys) := hs
  clear hx hy hr hs
  have hnn : ((n : Int) != (n : Int)) = false := by simp
  have mixed : Try.prog.follows .mixedOrders = true := by kernel_rfl
  go_enter Try.func44, Try.ntmps44
  go_wp2
  go_loopw [13] (fun i wr => ∃ k : Nat, k ≤ n ∧ i = .int .i64 k ∧ Hid (xs.take k = ys.take k) ∧ Hid (Below w.heap.size w wr)) (fun i _ => n - (intOf i).toNat)
  case atStart => exact ⟨0, Nat.zero_le _, rfl, rfl, Below.refl _ _⟩
  case round =>
    obtain ⟨k, hk, rfl, HT, HB⟩ := hrel
    by_cases hlt : k < n
    · obtain ⟨b, o, rfl, g1⟩ := (HR.out.later HB.out).get (k := k) (by rw [HX.out]; exact hlt)
      obtain ⟨b2, o2, rfl, g2⟩ := (HS.out.later HB.out).get (k := k) (by rw [HY.out]; exact hlt)
      have h0 : (0 : Int) ≤ (k : Int) := by omega
      have hl : (k : Int) < (n : Int) := by omega
      generalize hx : xs.getD k 0 = x at g1
      generalize hy : ys.getD k 0 = y at g2
      have H1 : Hid (xs.getD k 0 = x) := hx
      have H2 : Hid (ys.getD k 0 = y) := hy
      clear hx hy
      by_cases hxy : x = y
      · subst hxy
        have ht : (x != x) = false := by simp
        have HT2 : Hid (xs.take (k + 1) = ys.take (k + 1)) := take_eq_succ9 (by rw [HX.out]; omega) (by rw [HY.out]; omega) HT.out (H1.out.trans H2.out.symm)
        go_wp2
        go_quiet (fail)
        go_wp2
        go_roundw
        case rel => exact ⟨k + 1, by omega, by go_num, HT2, below_drewN9 HB.out _⟩
        case measure => simp [intOf]; omega
      · have ht : (x != y) = true := by simpa using hxy
        have HN : Hid ((false : Bool) = decide (xs = ys)) := (decide_eq_false (fun e => hxy (by rw [← H1.out, ← H2.out, e]))).symm
        go_wp2
        go_quiet (fail)
        go_wp2
        go_ret
        exact ⟨ret_bool HN.out, below_drewN9 HB.out _⟩
    · obtain rfl : k = n := by omega
      have HE : Hid ((true : Bool) = decide (xs = ys)) := by
        have := HT.out
        rw [List.take_of_length_le (by rw [HX.out]; exact Nat.le_refl _), List.take_of_length_le (by rw [HY.out]; exact Nat.le_refl _)] at this
        exact (decide_eq_true this).symm
      go_wp2
      go_ret
      exact ⟨ret_bool HE.out, HB.out⟩

/-- What the specification asks of a pair: seats up to hi. -/
def pairH (hi : Int) (p : List Int) : Bool := decide (p.length = 2) && (inB (p.getD 0 0) 0 hi && (inB (p.getD 1 0) 0 hi && decide (p.getD 0 0 < p.getD 1 0)))
theorem pairH_eq (s : Int) (p : List Int) : pairH (s - 1) p = pairB s p := rfl

/-- The specification looks at each pair, and that it is new. -/
def okAt (hi : Int) (ps : List (List Int)) (k : Nat) : Bool := pairH hi (ps.getD k []) && newAt ps k

theorem goodTb_spec (t : TbV) (hi : Int) (h : inB t.s 1 6 = true → hi = t.s - 1) : goodTb t = ((List.range t.ps.length).all (okAt hi t.ps) && (inB t.s 1 6 && (decide (t.ps.length ≤ 15) && (decide (t.cs.length = t.ps.length) && t.cs.all byB)))) := by
  unfold goodTb unlB
  cases hs : inB t.s 1 6
  · simp
  rw [h hs]
  have e : (List.range t.ps.length).all (okAt (t.s - 1) t.ps) = (t.ps.all (pairB t.s) && (List.range t.ps.length).all (newAt t.ps)) := by
    rw [Bool.eq_iff_iff, Bool.and_eq_true, List.all_eq_true, List.all_eq_true, List.all_eq_true]
    constructor
    · intro h
      refine ⟨fun p hp => ?_, fun j hj => ?_⟩
      · obtain ⟨j, hj, e⟩ := of_mem_getD [] hp
        have := h j (List.mem_range.2 hj)
        unfold okAt at this
        rw [Bool.and_eq_true, pairH_eq, e] at this
        exact this.1
      · have := h j hj
        unfold okAt at this
        rw [Bool.and_eq_true] at this
        exact this.2
    · rintro ⟨h1, h2⟩ j hj
      unfold okAt
      rw [Bool.and_eq_true, pairH_eq]
      exact ⟨h1 _ (mem_getD [] (List.mem_range.1 hj)), h2 j hj⟩
  rw [e]
  cases decide (t.cs.length = t.ps.length) <;> cases decide (t.ps.length ≤ 15) <;> cases t.ps.all (pairB t.s) <;> cases (List.range t.ps.length).all (newAt t.ps) <;> cases t.cs.all byB <;> rfl

end Go.Proofs.Ytbjpkklonjlmiaa
