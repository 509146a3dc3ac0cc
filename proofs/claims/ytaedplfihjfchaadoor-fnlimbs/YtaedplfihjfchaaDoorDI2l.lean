/- Plain facts on the digits of a number: they come back from OfDigits. -/
import Derived.Test.YtaedplfihjfchaaDoorDecl
import Derived.Test.YtaedplfihjfchaaDoorBasel
import Derived.Laws.BytesArg
import Derived.Test.YtaedplfihjfchaaDoorCmpl
import Derived.Test.YtaedplfihjfchaaDoorNum2l
namespace Go.Proofs.YtaedplfihjfchaaDoor
set_option linter.unusedVariables false
set_option maxRecDepth 1000000
set_option linter.unusedSimpArgs false
open Go.RowKit

/-- The digits of a number, none for nought. -/
def dlN (n : Nat) : List Int := if h : n = 0 then [] else dlN (n / 10) ++ [48 + ((n % 10 : Nat) : Int)]
termination_by n
decreasing_by exact Nat.div_lt_self (by omega) (by omega)

theorem dlN_zero : dlN 0 = [] := by rw [dlN]; simp
theorem dlN_pos {n : Nat} (h : 0 < n) : dlN n = dlN (n / 10) ++ [48 + ((n % 10 : Nat) : Int)] := by
  rw [dlN, dif_neg (by omega)]

/-- The digits of a number, "0" for nought. -/
def decN (n : Nat) : List Int := dlN (n / 10) ++ [48 + ((n % 10 : Nat) : Int)]

theorem decN_pos {n : Nat} (h : 0 < n) : decN n = dlN n := (dlN_pos h).symm
theorem decN_zero : decN 0 = [48] := by rw [decN, show 0 / 10 = 0 from rfl, dlN_zero]; rfl

theorem dlN_val (n : Nat) : decV (dlN n) = n := by
  induction n using Nat.strongRecOn with
  | _ n ih =>
    by_cases h : n = 0
    · subst h; rw [dlN_zero]; rfl
    · rw [dlN_pos (by omega), decV_snoc, ih (n / 10) (by omega)]
      omega

theorem dlN_dig (n : Nat) : DigAll (dlN n) := by
  induction n using Nat.strongRecOn with
  | _ n ih =>
    by_cases h : n = 0
    · subst h; rw [dlN_zero]; intro c hc; simp at hc
    · rw [dlN_pos (by omega)]
      intro c hc
      rcases List.mem_append.1 hc with hc | hc
      · exact ih (n / 10) (by omega) c hc
      · simp only [List.mem_singleton] at hc; omega

theorem dlN_len : ∀ (k n : Nat), n < 10 ^ k → (dlN n).length ≤ k
  | 0, n, h => by
    have : n = 0 := by simpa using h
    subst this; rw [dlN_zero]; simp
  | k + 1, n, h => by
    by_cases h0 : n = 0
    · subst h0; rw [dlN_zero]; simp
    · rw [dlN_pos (by omega), List.length_append]
      have := dlN_len k (n / 10) (by rw [Nat.pow_succ] at h; omega)
      simp; omega

theorem dlN_head (n : Nat) : 0 < n → ∃ c l, dlN n = c :: l ∧ c ≠ 48 := by
  induction n using Nat.strongRecOn with
  | _ n ih =>
    intro h
    rw [dlN_pos h]
    by_cases h1 : n / 10 = 0
    · rw [h1, dlN_zero]
      exact ⟨48 + ((n % 10 : Nat) : Int), [], rfl, by omega⟩
    · obtain ⟨c, l, e, hc⟩ := ih (n / 10) (by omega) (by omega)
      rw [e]
      exact ⟨c, l ++ [48 + ((n % 10 : Nat) : Int)], rfl, hc⟩

/-- Digits come back. -/
theorem digF_decN {n : Nat} (h : (n : Int) < 79228162514264337593543950336) : digF (decN n) = (bigL n, true) := by
  by_cases h0 : n = 0
  · subst h0
    rw [decN_zero, digF]
    have e : digOk [48] = true := by decide
    rw [e]
    simp only [List.length_singleton]
    rw [if_neg (by omega), if_pos trivial, show decV [48] = ((0 : Nat) : Int) from rfl, tellF_good (by omega)]
  · rw [decN_pos (by omega)]
    have hl := dlN_len 30 n (by omega)
    obtain ⟨c, l, e, hc⟩ := dlN_head n (by omega)
    have hd : digOk (dlN n) = true := (digOk_iff _).2 (dlN_dig n)
    have hv := dlN_val n
    rw [digF, hd, hv]
    rw [if_neg, if_pos rfl, tellF_good h]
    rw [e] at hl ⊢
    simp at hl ⊢
    omega

end Go.Proofs.YtaedplfihjfchaaDoor
namespace Go.Proofs.YtaedplfihjfchaaDoor
set_option linter.unusedVariables false
set_option maxRecDepth 1000000
set_option linter.unusedSimpArgs false
open Go.RowKit

/-- The text of one digit. -/
def digS (n : Nat) : ByteArray := strOfNums [((48 + n : Nat) : Int)]
theorem digS_size (n : Nat) : (digS n).size = 1 := rfl
theorem ret_str {a b : ByteArray} (h : a = b) : Ending.returned (.string a) = .returned (.string b) := by rw [h]

theorem small_c (n : Nat) (h : n < 10) (w : World) :
    Calls Tryd.prog 63 #[.int .i64 (n : Int)] w fun e w' => e = .returned (.string (digS n)) ∧ w' = w := by
  have : n = 0 ∨ n = 1 ∨ n = 2 ∨ n = 3 ∨ n = 4 ∨ n = 5 ∨ n = 6 ∨ n = 7 ∨ n = 8 ∨ n = 9 := by omega
  rcases this with rfl | rfl | rfl | rfl | rfl | rfl | rfl | rfl | rfl | rfl
  all_goals
    go_enter Tryd.func63, Tryd.ntmps63
    go_wp2
    go_ret
    exact ⟨ret_str (by decide +kernel), rfl⟩

theorem formatInt_c (n : Nat) (h : n < 10) (w : World) :
    Calls Tryd.prog 62 #[.int .i64 (n : Int), .int .i64 10] w fun e w' => e = .returned (.string (digS n)) ∧ w' = w := by
  have h0 : (0 : Int) ≤ (n : Int) := by omega
  have h1 : (n : Int) < 100 := by omega
  go_enter Tryd.func62, Tryd.ntmps62
  go_wp2_with fail
  refine (small_c n h _).mono ?_
  rintro e w' ⟨rfl, hw⟩
  subst w'
  go_wp2
  go_ret
  exact ⟨rfl, rfl⟩

theorem iItoa_c (n : Nat) (h : n < 10) (w : World) :
    Calls Tryd.prog 60 #[.int .i64 (n : Int)] w fun e w' => e = .returned (.string (digS n)) ∧ w' = w := by
  have h0 : (0 : Int) ≤ (n : Int) := by omega
  go_enter Tryd.func60, Tryd.ntmps60
  go_wp2_with fail
  refine (formatInt_c n h _).mono ?_
  rintro e w' ⟨rfl, hw⟩
  subst w'
  go_wp2
  go_ret
  exact ⟨rfl, rfl⟩

theorem itoa_c (n : Nat) (h : n < 10) (w : World) :
    Calls Tryd.prog 43 #[.int .i64 (n : Int)] w fun e w' => e = .returned (.string (digS n)) ∧ w' = w := by
  go_enter Tryd.func43, Tryd.ntmps43
  go_wp2_with fail
  refine (iItoa_c n h _).mono ?_
  rintro e w' ⟨rfl, hw⟩
  subst w'
  go_wp2
  go_ret
  exact ⟨rfl, rfl⟩

theorem l1Num_c (n : Nat) (h : n < 10) (w : World) :
    Calls Tryd.prog 44 #[.int .i64 (n : Int)] w fun e w' => e = .returned (.string (digS n)) ∧ Below w.heap.size w w' := by
  have h0 : (n : Int) < 10 := by omega
  obtain ⟨D, hD⟩ : ∃ D : Nat, D = 48 + n := ⟨_, rfl⟩
  have hD1 : (48 + (n : Int)) = (D : Int) := by omega
  have hD2 : (D : Int) % 256 = (D : Int) := by omega
  have HS : Hid (strOfNums [(D : Int)] = digS n) := by show _ = _; rw [hD]; rfl
  have hcv := run_convert_bytes_arg (P := Tryd.prog) (w.alloc (.cells #[.int .u8 (D : Int)] 5)) 22 5 Tryd.underlying22 Tryd.underlying5 w.heap.size 0 1 1 [(D : Int)] rfl (fun i hi => by
    obtain rfl : i = 0 := by omega
    simp) 9 Tryd.underlying9
  generalize strOfNums [(D : Int)] = S at hcv HS
  clear hD
  go_enter Tryd.func44, Tryd.ntmps44
  go_wp2
  go_ret
  exact ⟨ret_str HS.out, (Below.refl _ _).alloc (Nat.le_refl _) _⟩

end Go.Proofs.YtaedplfihjfchaaDoor
namespace Go.Proofs.YtaedplfihjfchaaDoor
set_option linter.unusedVariables false
set_option maxRecDepth 1000000
set_option linter.unusedSimpArgs false
open Go.RowKit

/-- A number's limbs divided by ten, and the rest. -/
def dv : List Int → List Int × Int
  | [] => ([], 0)
  | x :: r => (((dv r).2 * 65536 + x) / 10 :: (dv r).1, ((dv r).2 * 65536 + x) % 10)
theorem dv_length : ∀ l, (dv l).1.length = l.length
  | [] => rfl
  | x :: r => by simp [dv, dv_length r]
theorem dv_rest : ∀ l, 0 ≤ (dv l).2 ∧ (dv l).2 < 10
  | [] => by simp [dv]
  | x :: r => by show 0 ≤ ((dv r).2 * 65536 + x) % 10 ∧ ((dv r).2 * 65536 + x) % 10 < 10; omega
theorem dv_val : ∀ l, val (dv l).1 * 10 + (dv l).2 = val l
  | [] => by simp [dv, val]
  | x :: r => by
    have ih := dv_val r
    show val (((dv r).2 * 65536 + x) / 10 :: (dv r).1) * 10 + ((dv r).2 * 65536 + x) % 10 = val (x :: r)
    simp only [val]
    omega
theorem dv_digs : ∀ l, Digs l → Digs (dv l).1
  | [], _ => by intro x hx; cases hx
  | x :: r, h => by
    have hx := h x List.mem_cons_self
    have hr := dv_digs r (fun y hy => h y (List.mem_cons_of_mem _ hy))
    have hb := dv_rest r
    intro y hy
    rcases List.mem_cons.1 hy with rfl | hy
    · refine ⟨by omega, by omega⟩
    · exact hr y hy
theorem dv_step {L : List Int} {k : Nat} (h : k < L.length) : dv (L.drop k) = (((dv (L.drop (k + 1))).2 * 65536 + L.getD k 0) / 10 :: (dv (L.drop (k + 1))).1, ((dv (L.drop (k + 1))).2 * 65536 + L.getD k 0) % 10) := by
  rw [List.drop_eq_getElem_cons h]
  show (_, _) = _
  simp [List.getD, h]
/-- What has been written when the limbs from k on are done. -/
def dvR (L : List Int) (k : Nat) : List Int := L.take k ++ (dv (L.drop k)).1
theorem dvR_length {L : List Int} {k : Nat} : (dvR L k).length = L.length := by
  unfold dvR
  rw [List.length_append, dv_length, List.length_take, List.length_drop]; omega
theorem dvR_get {L : List Int} {k : Nat} (h : k < L.length) : (dvR L (k + 1)).getD k 0 = L.getD k 0 := by
  unfold dvR
  rw [List.getD_eq_getElem?_getD, List.getElem?_append_left (by rw [List.length_take]; omega), List.getElem?_take, if_pos (Nat.lt_succ_self k)]
  rfl
theorem dvR_step {L : List Int} {k : Nat} (h : k < L.length) : (dvR L (k + 1)).set k (((dv (L.drop (k + 1))).2 * 65536 + L.getD k 0) / 10) = dvR L k := by
  unfold dvR
  rw [dv_step h, List.take_succ_eq_append_getElem h, List.append_assoc, List.set_append_right _ _ (by rw [List.length_take]; omega)]
  simp [List.length_take, Nat.min_eq_left (Nat.le_of_lt h)]

set_option maxHeartbeats 2000000 in
theorem divideByOne_c (a0 a1 a2 a3 a4 a5 : Int) (w : World) (da : Digs [a0, a1, a2, a3, a4, a5]) (r0 r1 r2 r3 r4 r5 rs : Int) (hE : dv [a0, a1, a2, a3, a4, a5] = ([r0, r1, r2, r3, r4, r5], rs)) :
    Calls Tryd.prog 42 #[.agg #[.int .i64 a0, .int .i64 a1, .int .i64 a2, .int .i64 a3, .int .i64 a4, .int .i64 a5], .int .i64 10] w fun e w' =>
      e = .returned (.tuple #[.agg #[.int .i64 r0, .int .i64 r1, .int .i64 r2, .int .i64 r3, .int .i64 r4, .int .i64 r5], .int .i64 rs]) ∧ Below w.heap.size w w' := by
  go_enter Tryd.func42, Tryd.ntmps42
  generalize hL : [a0, a1, a2, a3, a4, a5] = L at *
  have HL : Hid ([a0, a1, a2, a3, a4, a5] = L) := hL
  have lL : Hid (L.length = 6) := by rw [← hL]; rfl
  have HD : Hid (Digs L) := da
  have HE : Hid (dv L = ([r0, r1, r2, r3, r4, r5], rs)) := hE
  clear hL da hE
  go_wp2
  go_loopw [6, 7] (fun cv i wr => ∃ (k : Nat), k ≤ 6 ∧ i = .int .i64 ((k : Int) - 1) ∧ cv = .int .i64 (dv (L.drop k)).2 ∧ Hid (OwnA 53 wr w.heap.size (dvR L k)) ∧ Hid (OwnA 53 wr (w.heap.size + 1) [0, 0, 0, 0, 0, 0]) ∧ Hid (Below w.heap.size w wr)) (fun _ i _ => (intOf i + 1).toNat)
  case atStart =>
    refine ⟨6, by omega, rfl, ?_, ?_, ?_, ?_⟩
    · rw [List.drop_of_length_le (by rw [lL.out]; omega)]; rfl
    · have e : dvR L 6 = L := by unfold dvR; rw [List.drop_of_length_le (by rw [lL.out]; omega), List.take_of_length_le (by rw [lL.out]; omega)]; simp [dv]
      show OwnA _ _ _ _
      rw [e]
      exact (ownA_at _ _ _ L _ (by rw [← HL.out]; rfl) (by rw [lL.out]; omega) rfl).alloc _
    · exact ownA_at _ _ _ _ _ rfl (by simp) (by simp)
    · exact below_two w _ _
  case round =>
    obtain ⟨k, hk, rfl, rfl, hA, hR, hB⟩ := hrel
    cases k with
    | succ j =>
      have hj : j < 6 := by omega
      have g1 := hA.out.cell j (by rw [dvR_length, lL.out]; omega)
      rw [dvR_get (by rw [lL.out]; omega)] at g1
      have g3 := hA.out.free j
      have e1 : ((j + 1 : Nat) : Int) - 1 = (j : Int) := by omega
      have k0 : (0 : Int) ≤ (j : Int) := by omega
      have k6 : (j : Int) < 6 := by omega
      have dX := HD.out.getD j
      have hb := dv_rest (L.drop (j + 1))
      have HS : Hid ((dvR L (j + 1)).set j (((dv (L.drop (j + 1))).2 * 65536 + L.getD j 0) / 10) = dvR L j ∧ ((dv (L.drop (j + 1))).2 * 65536 + L.getD j 0) % 10 = (dv (L.drop j)).2) := ⟨dvR_step (by rw [lL.out]; omega), by rw [dv_step (k := j) (by rw [lL.out]; omega)]⟩
      rw [e1]
      clear e1
      generalize L.getD j 0 = x at g1 dX HS
      generalize (dv (L.drop (j + 1))).2 = rr at hb HS ⊢
      go_wp2
      go_roundw
      case rel =>
        refine ⟨j, by omega, rfl, by rw [← HS.out.2], ?_, hR.out.other _ _ (by simp), hB.out.setCell (Nat.le_refl _) _⟩
        show OwnA _ _ _ _
        rw [← HS.out.1]
        exact hA.out.stored j _
      case measure => simp [intOf]
    | zero =>
      have e0 : dvR L 0 = [r0, r1, r2, r3, r4, r5] := by unfold dvR; rw [List.drop_zero, HE.out]; rfl
      have e2 : (dv (L.drop 0)).2 = rs := by rw [List.drop_zero, HE.out]
      rw [e0] at hA
      rw [e2]
      clear e0 e2
      obtain ⟨q0, q1, q2, q3, q4, q5⟩ := hA.out.cells6
      obtain ⟨t0, t1, t2, t3, t4, t5⟩ := hR.out.cells6
      have f0 := hR.out.free 0
      have f1 := hR.out.free 1
      have f2 := hR.out.free 2
      have f3 := hR.out.free 3
      have f4 := hR.out.free 4
      have f5 := hR.out.free 5
      clear hA hR
      go_wp2
      refine bodyPost_ret (v := .tuple #[.agg #[.int .i64 r0, .int .i64 r1, .int .i64 r2, .int .i64 r3, .int .i64 r4, .int .i64 r5], .int .i64 rs]) (by simp [results, Tryd.results42, go_sem, *]) rfl ⟨rfl, ?_⟩
      exact below_set6 hB.out (by omega)

end Go.Proofs.YtaedplfihjfchaaDoor
