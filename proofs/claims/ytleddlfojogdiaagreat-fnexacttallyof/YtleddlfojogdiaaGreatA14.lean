/- Chapter 14: small functions, scores, GoodTallies of both sides. -/
import Derived.Test.YtleddlfojogdiaaGreatTA14
import Derived.Test.YtleddlfojogdiaaGreatP14B
import Derived.Test.YtleddlfojogdiaaGreatA12
import Derived.Test.YtleddlfojogdiaaGreatB12
namespace Go.Proofs.YtleddlfojogdiaaGreat
set_option linter.unusedVariables false
set_option maxRecDepth 1000000
set_option linter.unusedSimpArgs false
open Go.RowKit

theorem isCount_c (x : Int) (w : World) : Calls Tryz.prog 70 #[.int .i64 x] w fun e w' => e = .returned (.bool (inB x 0 100)) ∧ w' = w := by
  by_cases h1 : 0 ≤ x
  · by_cases h2 : x ≤ 100
    · rw [show inB x 0 100 = true from decide_eq_true ⟨h1, h2⟩]
      go_enter Tryz.func70, Tryz.ntmps70
      go_wp2
      go_ret
      exact ⟨rfl, rfl⟩
    · rw [show inB x 0 100 = false from decide_eq_false (by omega)]
      go_enter Tryz.func70, Tryz.ntmps70
      go_wp2
      go_ret
      exact ⟨rfl, rfl⟩
  · rw [show inB x 0 100 = false from decide_eq_false (by omega)]
    go_enter Tryz.func70, Tryz.ntmps70
    go_wp2
    go_ret
    exact ⟨rfl, rfl⟩

theorem isHandCount_c (x : Int) (w : World) : Calls Tryz.prog 31 #[.int .i64 x] w fun e w' => e = .returned (.bool (inB x 1 12)) ∧ w' = w := by
  by_cases h1 : 1 ≤ x
  · by_cases h2 : x ≤ 12
    · rw [show inB x 1 12 = true from decide_eq_true ⟨h1, h2⟩]
      go_enter Tryz.func31, Tryz.ntmps31
      go_wp2
      go_ret
      exact ⟨rfl, rfl⟩
    · rw [show inB x 1 12 = false from decide_eq_false (by omega)]
      go_enter Tryz.func31, Tryz.ntmps31
      go_wp2
      go_ret
      exact ⟨rfl, rfl⟩
  · rw [show inB x 1 12 = false from decide_eq_false (by omega)]
    go_enter Tryz.func31, Tryz.ntmps31
    go_wp2
    go_ret
    exact ⟨rfl, rfl⟩

theorem isTally_c (a b c : Int) (w : World) : Calls Tryz.prog 44 #[.agg #[.int .i64 a, .int .i64 b, .int .i64 c]] w fun e w' => e = .returned (.bool (taB (a, b, c))) ∧ Below w.heap.size w w' := by
  have q1 := fun wx => isCount_c b wx
  have q2 := fun wx => isCount_c c wx
  rw [show taB (a, b, c) = (inB a 0 11 && (inB b 0 100 && inB c 0 100)) from rfl]
  generalize inB b 0 100 = y at q1 ⊢
  generalize inB c 0 100 = z at q2 ⊢
  by_cases h1 : 0 ≤ a
  case neg =>
    rw [show inB a 0 11 = false from decide_eq_false (by omega)]
    go_enter Tryz.func44, Tryz.ntmps44
    go_wp2
    go_ret
    exact ⟨rfl, balloc w _⟩
  by_cases h2 : a < 12
  case neg =>
    rw [show inB a 0 11 = false from decide_eq_false (by omega)]
    go_enter Tryz.func44, Tryz.ntmps44
    go_wp2
    go_ret
    exact ⟨rfl, balloc w _⟩
  rw [show inB a 0 11 = true from decide_eq_true (by omega)]
  cases y
  · go_enter Tryz.func44, Tryz.ntmps44
    go_wp2_with fail
    refine (q1 _).mono ?_
    rintro e w' ⟨rfl, hw⟩
    subst w'
    go_wp2
    go_ret
    exact ⟨rfl, balloc w _⟩
  go_enter Tryz.func44, Tryz.ntmps44
  go_wp2_with fail
  refine (q1 _).mono ?_
  rintro e w' ⟨rfl, hw⟩
  subst w'
  go_wp2_with fail
  refine (q2 _).mono ?_
  rintro e w' ⟨rfl, hw⟩
  subst w'
  go_wp2
  go_ret
  exact ⟨rfl, balloc w _⟩

theorem l14Tally_c (a b c i : Int) (w : World) : Calls Tryz.prog 81 #[.agg #[.int .i64 a, .int .i64 b, .int .i64 c], .int .i64 i] w fun e w' => e = .returned (.bool (taAt (a, b, c) i)) ∧ Below w.heap.size w w' := by
  have q1 := fun wx => l1In_c b 0 100 wx
  have q2 := fun wx => l1In_c c 0 100 wx
  rw [show taAt (a, b, c) i = (decide (a = i) && (inB b 0 100 && inB c 0 100)) from rfl]
  generalize inB b 0 100 = y at q1 ⊢
  generalize inB c 0 100 = z at q2 ⊢
  by_cases h1 : a = i
  case neg =>
    have h2 : (a == i) = false := by simpa using h1
    rw [decide_eq_false h1]
    go_enter Tryz.func81, Tryz.ntmps81
    go_wp2
    go_ret
    exact ⟨rfl, balloc w _⟩
  subst h1
  have h2 : (a == a) = true := by simp
  rw [decide_eq_true rfl]
  cases y
  · go_enter Tryz.func81, Tryz.ntmps81
    go_wp2_with fail
    refine (q1 _).mono ?_
    rintro e w' ⟨rfl, hw⟩
    subst w'
    go_wp2
    go_ret
    exact ⟨rfl, balloc w _⟩
  go_enter Tryz.func81, Tryz.ntmps81
  go_wp2_with fail
  refine (q1 _).mono ?_
  rintro e w' ⟨rfl, hw⟩
  subst w'
  go_wp2_with fail
  refine (q2 _).mono ?_
  rintro e w' ⟨rfl, hw⟩
  subst w'
  go_wp2
  go_ret
  exact ⟨rfl, balloc w _⟩

def fewU (l : List Ta) : Bool := l.all taB && decide (l.length ≤ 12)

set_option maxHeartbeats 4000000 in
theorem areFewU_c (ao : Option Addr) (n c : Nat) (xs : List Ta) (w : World) (hx : xs.length = n) (hn : n ≤ 17592186044416) (hr : RdU w ao xs) :
    Calls Tryz.prog 69 #[.slice ao n c, .int .i64 12, .func (.func 44) #[] #[]] w fun e w' => e = .returned (.bool (fewU xs)) ∧ Below w.heap.size w w' := by
  have HX : Hid (xs.length = n) := hx
  have HR : Hid (RdU w ao xs) := hr
  unfold fewU
  rw [hx]
  clear hx hr
  by_cases h5 : 12 < n
  · have h5' : (12 : Int) < (n : Int) := by omega
    rw [decide_eq_false (show ¬ n ≤ 12 by omega), Bool.and_false]
    go_enter Tryz.func69, Tryz.ntmps69
    go_wp2
    go_ret
    exact ⟨rfl, Below.refl _ _⟩
  have h5' : ¬ (12 : Int) < (n : Int) := by omega
  rw [decide_eq_true (show n ≤ 12 by omega), Bool.and_true]
  clear h5
  have HF : Hid (∀ k, k < n → taB (xs.getD k (0, 0, 0)) = false → xs.all taB = false) := fun k hk h => all_out (d := (0, 0, 0)) (by rw [HX.out]; exact hk) h
  have HE : Hid ((∀ j, j < n → taB (xs.getD j (0, 0, 0)) = true) → xs.all taB = true) := fun h => all_end (d := (0, 0, 0)) (fun j hj => h j (by rw [HX.out] at hj; exact hj))
  generalize xs.all taB = zb at HF HE ⊢
  go_enter Tryz.func69, Tryz.ntmps69
  go_wp2
  go_loopw [15] (fun iv wr => ∃ (k : Nat), k ≤ n ∧ iv = .int .i64 k ∧ Hid (∀ j, j < k → taB (xs.getD j (0, 0, 0)) = true) ∧ Hid (Below w.heap.size w wr)) (fun iv _ => n - (intOf iv).toNat)
  case atStart => exact ⟨0, Nat.zero_le _, rfl, fun j h => absurd h (by omega), Below.refl _ _⟩
  case round =>
    obtain ⟨k, hk, rfl, HS, HB⟩ := hrel
    by_cases hlt : k < n
    · have hkl : k < xs.length := by rw [HX.out]; exact hlt
      have HFk : Hid (taB (xs.getD k (0, 0, 0)) = false → zb = false) := HF.out k hlt
      have HSk : Hid (taB (xs.getD k (0, 0, 0)) = true → ∀ j, j < k + 1 → taB (xs.getD j (0, 0, 0)) = true) := fun gm j hj => by
        by_cases e : j = k
        · rw [e]; exact gm
        · exact HS.out j (by omega)
      have HSp : Hid (taB (xs.getD k (0, 0, 0)) = taB ((xs.getD k (0, 0, 0)).1, (xs.getD k (0, 0, 0)).2.1, (xs.getD k (0, 0, 0)).2.2)) := rfl
      obtain ⟨b, o, rfl, g0, g1, g2⟩ := (HR.out.later HB.out).get hkl
      have HW : Hid (Below w.heap.size w (wr.alloc (.cells #[.int .i64 (xs.getD k (0, 0, 0)).1, .int .i64 (xs.getD k (0, 0, 0)).2.1, .int .i64 (xs.getD k (0, 0, 0)).2.2] 37))) := HB.out.alloc HB.out.size _
      clear HF HE HS hkl
      generalize xs.getD k (0, 0, 0) = s at *
      obtain ⟨x0, x1, x2⟩ := s
      simp only at g0 g1 g2
      have q := fun wx => isTally_c x0 x1 x2 wx
      cases gm : taB (x0, x1, x2)
      · have HN : Hid (zb = false) := HFk.out gm
        rw [gm] at q
        clear gm HFk HSk HSp
        go_wp2_with fail
        refine (q _).mono ?_
        clear q
        rintro e w1 ⟨rfl, hb⟩
        have HB1 : Hid (Below w.heap.size w w1) := HW.out.trans (hb.mono HW.out.size)
        clear hb
        go_wp2
        go_ret
        exact ⟨ret_bool HN.out.symm, HB1.out⟩
      · have HS2 : Hid (∀ j, j < k + 1 → taB (xs.getD j (0, 0, 0)) = true) := HSk.out gm
        rw [gm] at q
        clear gm HFk HSk HSp
        go_wp2_with fail
        refine (q _).mono ?_
        clear q
        rintro e w1 ⟨rfl, hb⟩
        have HB1 : Hid (Below w.heap.size w w1) := HW.out.trans (hb.mono HW.out.size)
        clear hb
        go_wp2
        go_roundw
        case rel => exact ⟨k + 1, by omega, by go_num, HS2, HB1⟩
        case measure => simp [intOf]; omega
    · obtain rfl : k = n := by omega
      have HM : Hid (zb = true) := HE.out HS.out
      go_wp2
      go_ret
      exact ⟨ret_bool (HM.out.symm), HB.out⟩


/-- GoodTallies: the places told apart. -/
theorem tasB_few {l : List Ta} (h : fewU l = true) (h0 : 0 < l.length) (hp : ∀ j, j < l.length → (l.getD j (0, 0, 0)).1 = j) : tasB l = true := by
  unfold fewU at h
  simp only [Bool.and_eq_true, decide_eq_true_eq] at h
  unfold tasB inB
  rw [Bool.and_eq_true, decide_eq_true_eq]
  refine ⟨tasAt_of (fun j hj => ?_), by omega, by omega⟩
  have h1 := all_at (d := (0, 0, 0)) h.1 hj
  rw [taAt_iff]
  unfold taB inB at h1
  simp only [Bool.and_eq_true, decide_eq_true_eq] at h1
  exact ⟨hp j hj, h1.2.1.1, h1.2.1.2, h1.2.2.1, h1.2.2.2⟩

theorem tasB_is {l : List Ta} (h : tasB l = true) : fewU l = true ∧ 0 < l.length ∧ ∀ j, j < l.length → (l.getD j (0, 0, 0)).1 = j := by
  unfold tasB inB at h
  rw [Bool.and_eq_true, decide_eq_true_eq] at h
  obtain ⟨h1, h2, h3⟩ := h
  have ha := fun j hj => taAt_iff.1 (tasAt_at h1 (j := j) hj)
  refine ⟨?_, by omega, fun j hj => (ha j hj).1⟩
  unfold fewU
  rw [Bool.and_eq_true, decide_eq_true_eq]
  refine ⟨all_end (d := (0, 0, 0)) (fun j hj => ?_), by omega⟩
  have := ha j hj
  unfold taB inB
  simp only [Bool.and_eq_true, decide_eq_true_eq]
  omega

/-- areSomeOf at tallies. -/
def someU (l : List Ta) : Bool := decide (0 < l.length) && fewU l

theorem areSomeU_c (ao : Option Addr) (n c : Nat) (xs : List Ta) (w : World) (hx : xs.length = n) (hn : n ≤ 17592186044416) (hr : RdU w ao xs) :
    Calls Tryz.prog 43 #[.slice ao n c, .int .i64 12, .func (.func 44) #[] #[]] w fun e w' => e = .returned (.bool (someU xs)) ∧ Below w.heap.size w w' := by
  have q := areFewU_c ao n c xs w hx hn hr
  unfold someU
  rw [hx]
  generalize fewU xs = z at q ⊢
  clear hx hr
  by_cases h0 : 0 < n
  · have h1 : (n : Int) > 0 := by omega
    rw [decide_eq_true h0]
    go_enter Tryz.func43, Tryz.ntmps43
    go_wp2_with fail
    refine q.mono ?_
    clear q
    rintro e w' ⟨rfl, hb⟩
    go_wp2
    go_ret
    exact ⟨rfl, hb⟩
  · obtain rfl : n = 0 := by omega
    go_enter Tryz.func43, Tryz.ntmps43
    go_wp2
    go_ret
    exact ⟨rfl, Below.refl _ _⟩

set_option maxHeartbeats 4000000 in
theorem implGoodT_c (ao : Option Addr) (n c : Nat) (xs : List Ta) (w : World) (hx : xs.length = n) (hn : n ≤ 17592186044416) (hr : RdU w ao xs) :
    Calls Tryz.prog 9 #[.slice ao n c] w fun e w' => e = .returned (.bool (tasB xs)) ∧ Below w.heap.size w w' := by
  have q := areSomeU_c ao n c xs w hx hn hr
  have HX : Hid (xs.length = n) := hx
  have HR : Hid (RdU w ao xs) := hr
  clear hx hr
  cases hf : someU xs
  · have HN : Hid (tasB xs = false) := by
      show _ = _
      rw [Bool.eq_false_iff]
      intro g
      have := tasB_is g
      unfold someU at hf
      rw [this.1, decide_eq_true this.2.1] at hf
      cases hf
    rw [hf] at q
    clear hf
    go_enter Tryz.func9, Tryz.ntmps9
    go_wp2_with fail
    refine q.mono ?_
    clear q
    rintro e w' ⟨rfl, hb⟩
    go_wp2
    go_ret
    exact ⟨ret_bool HN.out.symm, hb⟩
  · have HF : Hid (∀ k, k < n → (xs.getD k (0, 0, 0)).1 ≠ (k : Int) → tasB xs = false) := fun k hk h => by
      rw [Bool.eq_false_iff]
      intro g
      exact h ((tasB_is g).2.2 k (by rw [HX.out]; exact hk))
    have HE : Hid ((∀ j, j < n → (xs.getD j (0, 0, 0)).1 = (j : Int)) → tasB xs = true) := fun h => by
      unfold someU at hf
      rw [Bool.and_eq_true, decide_eq_true_eq] at hf
      exact tasB_few hf.2 hf.1 (fun j hj => h j (by rw [HX.out] at hj; exact hj))
    rw [hf] at q
    clear hf
    generalize tasB xs = zb at HF HE ⊢
    go_enter Tryz.func9, Tryz.ntmps9
    go_wp2_with fail
    refine q.mono ?_
    clear q
    rintro e w1 ⟨rfl, hb0⟩
    have HB0 : Hid (Below w.heap.size w w1) := hb0
    clear hb0
    go_wp2
    go_loopw [10] (fun iv wr => ∃ (k : Nat), k ≤ n ∧ iv = .int .i64 k ∧ Hid (∀ j, j < k → (xs.getD j (0, 0, 0)).1 = (j : Int)) ∧ Hid (Below w.heap.size w wr)) (fun iv _ => n - (intOf iv).toNat)
    case atStart => exact ⟨0, Nat.zero_le _, rfl, fun j h => absurd h (by omega), HB0.out⟩
    case round =>
      obtain ⟨k, hk, rfl, HS, HB⟩ := hrel
      by_cases hlt : k < n
      · have hkl : k < xs.length := by rw [HX.out]; exact hlt
        obtain ⟨b, o, rfl, g0, g1, g2⟩ := (HR.out.later HB.out).get hkl
        have HW : Hid (Below w.heap.size w (wr.alloc (.cells #[.int .i64 (xs.getD k (0, 0, 0)).1, .int .i64 (xs.getD k (0, 0, 0)).2.1, .int .i64 (xs.getD k (0, 0, 0)).2.2] 37))) := HB.out.alloc HB.out.size _
        by_cases he : (xs.getD k (0, 0, 0)).1 = (k : Int)
        · have HS2 : Hid (∀ j, j < k + 1 → (xs.getD j (0, 0, 0)).1 = (j : Int)) := fun j hj => by
            by_cases e : j = k
            · rw [e]; exact he
            · exact HS.out j (by omega)
          have hne : ((k : Int) != (k : Int)) = false := by simp
          rw [he] at g0 HW
          clear HF HE HS hkl he
          generalize (xs.getD k (0, 0, 0)).2.1 = x1 at *
          generalize (xs.getD k (0, 0, 0)).2.2 = x2 at *
          go_wp2
          go_roundw
          case rel => exact ⟨k + 1, by omega, by go_num, HS2, HW⟩
          case measure => simp [intOf]; omega
        · have HN : Hid (zb = false) := HF.out k hlt he
          have hne : ((xs.getD k (0, 0, 0)).1 != (k : Int)) = true := by simpa using he
          clear HF HE HS hkl he
          generalize (xs.getD k (0, 0, 0)).1 = x0 at *
          generalize (xs.getD k (0, 0, 0)).2.1 = x1 at *
          generalize (xs.getD k (0, 0, 0)).2.2 = x2 at *
          go_wp2
          go_ret
          exact ⟨ret_bool HN.out.symm, HW.out⟩
      · obtain rfl : k = n := by omega
        have HM : Hid (zb = true) := HE.out HS.out
        go_wp2
        go_ret
        exact ⟨ret_bool (HM.out.symm), HB.out⟩

set_option maxHeartbeats 4000000 in
theorem specGoodT_c (ao : Option Addr) (n c : Nat) (xs : List Ta) (w : World) (hx : xs.length = n) (hn : n ≤ 17592186044416) (hr : RdU w ao xs) :
    Calls Tryz.prog 50 #[.slice ao n c] w fun e w' => e = .returned (.bool (tasB xs)) ∧ Below w.heap.size w w' := by
  have HX : Hid (xs.length = n) := hx
  have HR : Hid (RdU w ao xs) := hr
  have q2 := fun wx => l1In_c n 1 12 wx
  unfold tasB
  rw [hx]
  clear hx hr
  have HF : Hid (∀ k, k < n → taAt (xs.getD k (0, 0, 0)) k = false → tasAt xs = false) := fun k hk h => tasAt_no (by rw [HX.out]; exact hk) h
  have HE : Hid ((∀ j, j < n → taAt (xs.getD j (0, 0, 0)) j = true) → tasAt xs = true) := fun h => tasAt_of (fun j hj => h j (by rw [HX.out] at hj; exact hj))
  generalize tasAt xs = zb at HF HE ⊢
  generalize inB (n : Int) 1 12 = zl at q2 ⊢
  have HQ2 : Hid (∀ wx, Calls Tryz.prog 38 #[.int .i64 n, .int .i64 1, .int .i64 12] wx fun e w' => e = .returned (.bool zl) ∧ w' = wx) := q2
  clear q2
  go_enter Tryz.func50, Tryz.ntmps50
  go_wp2
  go_loopw [7] (fun iv wr => ∃ (k : Nat), k ≤ n ∧ iv = .int .i64 k ∧ Hid (∀ j, j < k → taAt (xs.getD j (0, 0, 0)) j = true) ∧ Hid (Below w.heap.size w wr)) (fun iv _ => n - (intOf iv).toNat)
  case atStart => exact ⟨0, Nat.zero_le _, rfl, fun j h => absurd h (by omega), Below.refl _ _⟩
  case round =>
    obtain ⟨k, hk, rfl, HS, HB⟩ := hrel
    by_cases hlt : k < n
    · have hkl : k < xs.length := by rw [HX.out]; exact hlt
      have HFk : Hid (taAt (xs.getD k (0, 0, 0)) k = false → zb = false) := HF.out k hlt
      have HSk : Hid (taAt (xs.getD k (0, 0, 0)) k = true → ∀ j, j < k + 1 → taAt (xs.getD j (0, 0, 0)) j = true) := fun gm j hj => by
        by_cases e : j = k
        · rw [e]; exact gm
        · exact HS.out j (by omega)
      obtain ⟨b, o, rfl, g0, g1, g2⟩ := (HR.out.later HB.out).get hkl
      have HW : Hid (Below w.heap.size w (wr.alloc (.cells #[.int .i64 (xs.getD k (0, 0, 0)).1, .int .i64 (xs.getD k (0, 0, 0)).2.1, .int .i64 (xs.getD k (0, 0, 0)).2.2] 37))) := HB.out.alloc HB.out.size _
      clear HF HE HS hkl
      generalize xs.getD k (0, 0, 0) = s at *
      obtain ⟨x0, x1, x2⟩ := s
      simp only at g0 g1 g2
      have q := fun wx => l14Tally_c x0 x1 x2 k wx
      cases gm : taAt (x0, x1, x2) k
      · have HN : Hid (zb = false) := HFk.out gm
        rw [gm] at q
        clear gm HFk HSk
        go_wp2_with fail
        refine (q _).mono ?_
        clear q
        rintro e w1 ⟨rfl, hb⟩
        have HB1 : Hid (Below w.heap.size w w1) := HW.out.trans (hb.mono HW.out.size)
        clear hb
        go_wp2
        go_ret
        exact ⟨ret_bool (by rw [HN.out]; rfl), HB1.out⟩
      · have HS2 : Hid (∀ j, j < k + 1 → taAt (xs.getD j (0, 0, 0)) j = true) := HSk.out gm
        rw [gm] at q
        clear gm HFk HSk
        go_wp2_with fail
        refine (q _).mono ?_
        clear q
        rintro e w1 ⟨rfl, hb⟩
        have HB1 : Hid (Below w.heap.size w w1) := HW.out.trans (hb.mono HW.out.size)
        clear hb
        go_wp2
        go_roundw
        case rel => exact ⟨k + 1, by omega, by go_num, HS2, HB1⟩
        case measure => simp [intOf]; omega
    · obtain rfl : k = n := by omega
      have HM : Hid (zb = true) := HE.out HS.out
      go_wp2_with fail
      refine (HQ2.out _).mono ?_
      rintro e w' ⟨rfl, hw⟩
      subst w'
      go_wp2
      go_ret
      exact ⟨ret_bool (by rw [HM.out]; rfl), HB.out⟩

end Go.Proofs.YtleddlfojogdiaaGreat
