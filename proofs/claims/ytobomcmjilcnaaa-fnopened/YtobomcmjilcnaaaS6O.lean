/- Chapter 6, the specification's side: parts, sums opened, all opened, votes added. -/
import Derived.Test.YtobomcmjilcnaaaS6L
namespace Go.Proofs.Ytobomcmjilcnaaa
set_option linter.unusedVariables false
set_option maxRecDepth 1000000
set_option linter.unusedSimpArgs false
open Go.RowKit

theorem all_out {α : Type} {d : α} {xs : List α} {P : α → Bool} {k : Nat} (hk : k < xs.length) (h : P (xs.getD k d) = false) : xs.all P = false := by
  rw [Bool.eq_false_iff]
  intro g
  rw [List.all_eq_true] at g
  have := g (xs[k]) (List.getElem_mem hk)
  simp [List.getD, hk] at h
  rw [h] at this
  cases this
theorem all_end {α : Type} {d : α} {xs : List α} {P : α → Bool} (h : ∀ j, j < xs.length → P (xs.getD j d) = true) : xs.all P = true := by
  rw [List.all_eq_true]
  intro x hx
  obtain ⟨j, hj, rfl⟩ := List.getElem_of_mem hx
  have := h j hj
  simpa [List.getD, hj] using this
theorem all_at {α : Type} {d : α} {xs : List α} {P : α → Bool} {k : Nat} (h : xs.all P = true) (hk : k < xs.length) : P (xs.getD k d) = true := by
  rw [List.all_eq_true] at h
  have := h (xs[k]) (List.getElem_mem hk)
  simpa [List.getD, hk] using this
theorem take_snocP {xs : List (Int × Int)} {k : Nat} (h : k < xs.length) : xs.take (k + 1) = xs.take k ++ [xs.getD k (0, 0)] := by
  rw [List.take_succ_eq_append_getElem h]; simp [List.getD, h]

def partI (s x y : Int) : Int := if openB s x y = true then pw x s.toNat else 0

set_option maxHeartbeats 1000000 in
theorem specPart_c (s x y : Int) (w : World) : Calls Try.prog 24 #[.int .i64 s, .agg #[.int .i64 x, .int .i64 y]] w fun e w' => e = .returned (.tuple #[.int .i64 (partI s x y), .bool (openB s x y)]) ∧ Below w.heap.size w w' := by
  have HB : Hid (Below w.heap.size w (w.alloc (Obj.cells #[Value.int .i64 x, Value.int .i64 y] 25))) := below_one _ _
  cases g0 : decide (1 ≤ s ∧ s ≤ 1498)
  · have hb : openB s x y = false := by simp only [openB, g0, Bool.false_and]
    have hi : partI s x y = 0 := by simp only [partI, hb, Bool.false_eq_true, if_false]
    rw [hb, hi]; clear hb hi
    go_enter Try.func24, Try.ntmps24
    go_wp2_with (go_at_call 64; refine (l2Secret_c _ _).mono ?_; rw [g0]; clear g0; rintro e w' ⟨rfl, hw⟩; subst w')
    refine bodyPost_ret (v := .tuple #[.int .i64 0, .bool false]) (by simp [results, Try.results24, go_sem]; try rfl) rfl ?_
    exact ⟨rfl, HB.out⟩
  · cases g1 : sealB x y
    · have hb : openB s x y = false := by simp only [openB, g0, g1, Bool.and_false]
      have hi : partI s x y = 0 := by simp only [partI, hb, Bool.false_eq_true, if_false]
      rw [hb, hi]; clear hb hi
      go_enter Try.func24, Try.ntmps24
      go_wp2_with (first | (go_at_call 64; refine (l2Secret_c _ _).mono ?_; rw [g0]; clear g0; rintro e w' ⟨rfl, hw⟩; subst w') | (go_at_call 40; refine (l2Sealed_c x y _).mono ?_; rw [g1]; clear g1; rintro e w1 ⟨rfl, hb⟩; have HB1 : Hid (Below w.heap.size w w1) := HB.out.trans (hb.mono (by simp)); clear hb))
      refine bodyPost_ret (v := .tuple #[.int .i64 0, .bool false]) (by simp [results, Try.results24, go_sem]; try rfl) rfl ?_
      exact ⟨rfl, HB1.out⟩
    · have hb : openB s x y = true := by simp only [openB, g0, g1, Bool.and_self]
      have hi : partI s x y = pw x s.toNat := by simp only [partI, hb, if_true]
      rw [hb, hi]; clear hb hi
      have hs := of_decide_eq_true g0
      have hm := sealB_in g1
      obtain ⟨q, rfl⟩ : ∃ q : Nat, s = q := ⟨s.toNat, by omega⟩
      rw [Int.toNat_natCast]
      have HP : Hid (∀ wx, Calls Try.prog 42 #[.int .i64 x, .int .i64 q] wx fun e w' => e = .returned (.int .i64 (pw x q)) ∧ w' = wx) := fun wx => l2Power_c x q wx (by omega) (by omega) (by omega)
      generalize pw x q = r at HP ⊢
      go_enter Try.func24, Try.ntmps24
      go_wp2_with (first | (go_at_call 64; refine (l2Secret_c _ _).mono ?_; rw [g0]; clear g0; rintro e w' ⟨rfl, hw⟩; subst w') | (go_at_call 40; refine (l2Sealed_c x y _).mono ?_; rw [g1]; clear g1; rintro e w1 ⟨rfl, hb⟩; have HB1 : Hid (Below w.heap.size w w1) := HB.out.trans (hb.mono (by simp)); obtain ⟨c0, c1, c2, c3⟩ := (c2_new w x y 25 w.heap.size rfl).keep hb; clear hb) | (go_at_call 42; refine (HP.out _).mono ?_; rintro e w' ⟨rfl, hw⟩; subst w'))
      refine bodyPost_ret (v := .tuple #[.int .i64 r, .bool true]) (by simp [results, Try.results24, go_sem]; try rfl) rfl ?_
      exact ⟨rfl, HB1.out⟩

/-- A number divided by each part in turn, as far as k. -/
def lessL (b : Int) (l : List Int) : Int := prodM b (l.map fun x => pw x 2997)
theorem lessL_snoc (b : Int) {xs : List Int} {k : Nat} (h : k < xs.length) : lessL b (xs.take (k + 1)) = lessL b (xs.take k) * pw (xs.getD k 0) 2997 % 2999 := by
  rw [take_snoc h, lessL, List.map_append, List.map_singleton, prodM_snoc]
  rfl
def lessI (b : Int) (l : List Int) : Int := mulM b (pw (prodM 1 l) 2997)
theorem lessL_eq {b : Int} (h : 0 ≤ b ∧ b < 2999) (l : List Int) : lessL b l = lessI b l := less_eq h l
theorem openI_eq (x y : Int) (secs : List Int) : openI x y secs = lessI y (partL x secs) := rfl
def memsB (l : List Int) : Bool := l.all memB

set_option maxHeartbeats 1000000 in
theorem l6Less_c (y : Int) (ao : Option Addr) (n c : Nat) (xs : List Int) (w : World) (hx : xs.length = n) (hn : n ≤ 17592186044416) (hr : Rd w ao xs) (ha : memsB xs = true) (hy : 0 ≤ y ∧ y < 2999) :
    Calls Try.prog 55 #[.int .i64 y, .slice ao n c] w fun e w' => e = .returned (.int .i64 (lessI y xs)) ∧ w' = w := by
  rw [← lessL_eq hy]
  have HX : Hid (xs.length = n) := hx
  have HR : Hid (Rd w ao xs) := hr
  have HA : Hid (memsB xs = true) := ha
  clear hx hr ha
  go_enter Try.func55, Try.ntmps55
  go_wp2
  go_loop [0, 9] (fun nv iv => ∃ (k : Nat) (r : Int), k ≤ n ∧ iv = .int .i64 k ∧ nv = .int .i64 r ∧ 0 ≤ r ∧ r < 2999 ∧ Hid (lessL y (xs.take k) = r)) (fun _ iv => n - (intOf iv).toNat)
  case atStart => exact ⟨0, y, Nat.zero_le _, rfl, rfl, hy.1, hy.2, rfl⟩
  case round =>
    obtain ⟨k, r, hk, rfl, rfl, r0, r1, HS⟩ := hrel
    by_cases hlt : k < n
    · have hkl : k < xs.length := by rw [HX.out]; exact hlt
      obtain ⟨b, o, rfl, g1⟩ := Rd.get HR.out hkl
      have hxk := memB_in (all_at (d := 0) HA.out hkl)
      have H1 : Hid (lessL y (xs.take (k + 1)) = r * pw (xs.getD k 0) 2997 % 2999) := by have := lessL_snoc y hkl; rw [HS.out] at this; exact this
      generalize xs.getD k 0 = x at g1 hxk H1
      have p0 := pw_lo x 2997
      have p1 := pw_hi x 2997
      have HP : Hid (∀ wx, Calls Try.prog 41 #[.int .i64 x] wx fun e w' => e = .returned (.int .i64 (pw x 2997)) ∧ w' = wx) := fun wx => l2Inverse_c x wx (by omega) (by omega)
      generalize pw x 2997 = p at p0 p1 HP H1
      have hrp := prod_lt r0 r1 p0 p1
      clear hkl
      go_wp2_with (go_at_call 41; refine (HP.out _).mono ?_; rintro e w' ⟨rfl, hw⟩; subst w')
      go_round
      case rel => exact ⟨k + 1, r * p % 2999, by omega, by go_num, rfl, by omega, by omega, H1⟩
      case measure => simp [intOf]; omega
    · go_wp2
      go_ret
      obtain rfl : k = n := by omega
      exact ⟨ret_int (by rw [← HS.out, List.take_of_length_le (by rw [HX.out]; exact Nat.le_refl _)]), rfl⟩

/-- What opening a sum wants, and answers. -/
def sumOk (x y : Int) (ps : List Int) : Bool := memsB ps && sealB x y && decide (ps.length ≤ 5)
def sumI (x y : Int) (ps : List Int) (most : Int) : Int := if sumOk x y ps = true then logI (lessI y ps) most else 0
def sumB (x y : Int) (ps : List Int) (most : Int) : Bool := sumOk x y ps && logB (lessI y ps) most
theorem sum_no {x y : Int} {ps : List Int} (h : sumOk x y ps = false) (most : Int) : sumI x y ps most = 0 ∧ sumB x y ps most = false := by
  simp only [sumI, sumB, h, Bool.false_and, Bool.false_eq_true, if_false, and_self]
theorem sum_yes {x y : Int} {ps : List Int} (h : sumOk x y ps = true) (most : Int) : sumI x y ps most = logI (lessI y ps) most ∧ sumB x y ps most = logB (lessI y ps) most := by
  simp only [sumI, sumB, h, Bool.true_and, if_true, and_self]

set_option maxHeartbeats 2000000 in
theorem specSum_c (x y : Int) (ao : Option Addr) (n c : Nat) (xs : List Int) (most : Int) (w : World) (hx : xs.length = n) (hn : n ≤ 17592186044416) (hr : Rd w ao xs) :
    Calls Try.prog 15 #[.agg #[.int .i64 x, .int .i64 y], .slice ao n c, .int .i64 most] w fun e w' => e = .returned (.tuple #[.int .i64 (sumI x y xs most), .bool (sumB x y xs most)]) ∧ Below w.heap.size w w' := by
  have HB : Hid (Below w.heap.size w (w.alloc (Obj.cells #[Value.int .i64 x, Value.int .i64 y] 25))) := below_one _ _
  have HC : Hid (C2 (w.alloc (Obj.cells #[Value.int .i64 x, Value.int .i64 y] 25)) w.heap.size x y) := c2_new w x y 25 w.heap.size rfl
  have HX : Hid (xs.length = n) := hx
  have HR : Hid (Rd (w.alloc (Obj.cells #[Value.int .i64 x, Value.int .i64 y] 25)) ao xs) := hr.later (below_one _ _)
  have HI : Hid (sumOk x y xs = false → sumI x y xs most = 0 ∧ sumB x y xs most = false) := fun h => sum_no h most
  have HJ : Hid (sumOk x y xs = true → sumI x y xs most = logI (lessI y xs) most ∧ sumB x y xs most = logB (lessI y xs) most) := fun h => sum_yes h most
  clear hx hr
  generalize sumI x y xs most = zi at HI HJ ⊢
  generalize sumB x y xs most = zb at HI HJ ⊢
  go_enter Try.func15, Try.ntmps15
  go_wp2
  obtain ⟨W, hW⟩ : ∃ W, w.alloc (Obj.cells #[Value.int .i64 x, Value.int .i64 y] 25) = W := ⟨_, rfl⟩
  rw [hW] at HB HC HR ⊢
  clear hW
  go_loop [12] (fun iv => ∃ (k : Nat), k ≤ n ∧ iv = .int .i64 k ∧ Hid (∀ j, j < k → memB (xs.getD j 0) = true)) (fun iv => n - (intOf iv).toNat)
  case atStart => exact ⟨0, Nat.zero_le _, rfl, fun j h => absurd h (by omega)⟩
  case round =>
    obtain ⟨k, hk, rfl, HS⟩ := hrel
    by_cases hlt : k < n
    · have hkl : k < xs.length := by rw [HX.out]; exact hlt
      obtain ⟨b, o, rfl, g1⟩ := Rd.get HR.out hkl
      cases gm : memB (xs.getD k 0)
      · have HN : Hid (sumOk x y xs = false) := by
          show _ = _
          have : memsB xs = false := all_out (d := 0) hkl gm
          simp only [sumOk, this, Bool.false_and]
        generalize xs.getD k 0 = v at g1 gm
        clear hkl
        go_wp2_with (go_at_call 54; refine (specMember_c v _).mono ?_; rw [gm]; clear gm; rintro e w' ⟨rfl, hw⟩; subst w')
        refine bodyPost_ret (v := .tuple #[.int .i64 0, .bool false]) (by simp [results, Try.results15, go_sem]; try rfl) rfl ?_
        exact ⟨by rw [(HI.out HN.out).1, (HI.out HN.out).2], HB.out⟩
      · have HS2 : Hid (∀ j, j < k + 1 → memB (xs.getD j 0) = true) := fun j hj => by
          by_cases e : j = k
          · rw [e]; exact gm
          · exact HS.out j (by omega)
        generalize xs.getD k 0 = v at g1 gm
        clear hkl
        go_wp2_with (go_at_call 54; refine (specMember_c v _).mono ?_; rw [gm]; clear gm; rintro e w' ⟨rfl, hw⟩; subst w')
        go_round
        case rel => exact ⟨k + 1, by omega, by go_num, HS2⟩
        case measure => simp [intOf]; omega
    · obtain rfl : k = n := by omega
      have HM : Hid (memsB xs = true) := all_end (d := 0) (fun j hj => HS.out j (by rw [HX.out] at hj; exact hj))
      obtain ⟨c0, c1, c2, c3⟩ := HC.out
      cases g1 : sealB x y
      · have HN : Hid (sumOk x y xs = false) := by
          show _ = _
          simp only [sumOk, g1, Bool.false_and, Bool.and_false]
        go_wp2_with (go_at_call 40; refine (l2Sealed_c x y _).mono ?_; rw [g1]; clear g1; rintro e w1 ⟨rfl, hb⟩; have HB1 : Hid (Below w.heap.size w w1) := HB.out.trans (hb.mono HB.out.size); clear hb)
        refine bodyPost_ret (v := .tuple #[.int .i64 0, .bool false]) (by simp [results, Try.results15, go_sem]; try rfl) rfl ?_
        exact ⟨by rw [(HI.out HN.out).1, (HI.out HN.out).2], HB1.out⟩
      · by_cases h5 : 5 < k
        · have HN : Hid (sumOk x y xs = false) := by
            show _ = _
            have : decide (xs.length ≤ 5) = false := decide_eq_false (by rw [HX.out]; omega)
            simp only [sumOk, this, Bool.and_false]
          have h5' : (5 : Int) < (k : Int) := by omega
          go_wp2_with (go_at_call 40; refine (l2Sealed_c x y _).mono ?_; rw [g1]; clear g1; rintro e w1 ⟨rfl, hb⟩; have HB1 : Hid (Below w.heap.size w w1) := HB.out.trans (hb.mono HB.out.size); clear hb)
          refine bodyPost_ret (v := .tuple #[.int .i64 0, .bool false]) (by simp [results, Try.results15, go_sem]; try rfl) rfl ?_
          exact ⟨by rw [(HI.out HN.out).1, (HI.out HN.out).2], HB1.out⟩
        · have HN : Hid (sumOk x y xs = true) := by
            show _ = _
            have h5 : decide (xs.length ≤ 5) = true := decide_eq_true (by rw [HX.out]; omega)
            simp only [sumOk, HM.out, g1, h5, Bool.and_self]
          have h5' : ¬ (5 : Int) < (k : Int) := by omega
          have hy := (sealB_in g1).2
          have HLs : Hid (∀ wx, Rd wx ao xs → Calls Try.prog 55 #[.int .i64 y, .slice ao k c] wx fun e w' => e = .returned (.int .i64 (lessI y xs)) ∧ w' = wx) := fun wx h => l6Less_c y ao k c xs wx HX.out hn h HM.out ⟨by omega, by omega⟩
          have HLg : Hid (∀ wx, Calls Try.prog 18 #[.int .i64 (lessI y xs), .int .i64 most] wx fun e w' => e = .returned (.tuple #[.int .i64 (logI (lessI y xs) most), .bool (logB (lessI y xs) most)]) ∧ w' = wx) := fun wx => specLog_c _ _ wx
          have HV : Hid (zi = logI (lessI y xs) most ∧ zb = logB (lessI y xs) most) := HJ.out HN.out
          generalize lessI y xs = m at HLs HLg HV
          generalize logI m most = li at HLg HV
          generalize logB m most = lb at HLg HV
          go_wp2_with (first | (go_at_call 40; refine (l2Sealed_c x y _).mono ?_; rw [g1]; clear g1; rintro e w1 ⟨rfl, hb⟩; have HB1 : Hid (Below w.heap.size w w1) := HB.out.trans (hb.mono HB.out.size); obtain ⟨d0, d1, d2, d3⟩ := HC.out.keep hb; have HR1 : Hid (Rd w1 ao xs) := HR.out.later hb; clear hb c0 c1 c2 c3) | (go_at_call 55; refine (HLs.out _ HR1.out).mono ?_; rintro e w' ⟨rfl, hw⟩; subst w') | (go_at_call 18; refine (HLg.out _).mono ?_; rintro e w' ⟨rfl, hw⟩; subst w'))
          refine bodyPost_ret (v := .tuple #[.int .i64 li, .bool lb]) (by simp [results, Try.results15, go_sem]; try rfl) rfl ?_
          exact ⟨by rw [HV.out.1, HV.out.2], HB1.out⟩

end Go.Proofs.Ytobomcmjilcnaaa
