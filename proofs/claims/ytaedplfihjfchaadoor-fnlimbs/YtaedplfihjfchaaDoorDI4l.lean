/- The specification's DigitsOf. -/
import Derived.Test.YtaedplfihjfchaaDoorNumDl
import Derived.Test.YtaedplfihjfchaaDoorSpecDivl
namespace Go.Proofs.YtaedplfihjfchaaDoor
set_option linter.unusedVariables false
set_option maxRecDepth 1000000
set_option linter.unusedSimpArgs false
open Go.RowKit

theorem bigL_digit {k : Nat} (h : k < 10) : (bigL (k : Int)).getD 0 0 = (k : Int) := by
  obtain ⟨d, v, _⟩ := bigL_spec (n := (k : Int)) (by omega)
  generalize bigL (k : Int) = L at d v ⊢
  match L, d, v with
  | [], _, v => simp only [val] at v; simp; omega
  | x :: r, d, v =>
    have d0 := d x List.mem_cons_self
    have dr := val_nonneg (fun y hy => d y (List.mem_cons_of_mem _ hy) : Digs r)
    simp only [val] at v
    show x = (k : Int)
    omega
theorem bigL_nil {m : Nat} (h : (bigL (m : Int)).length = 0) : m = 0 := by
  have h1 := List.length_eq_zero_iff.1 h
  have h2 := (bigL_spec (n := (m : Int)) (by omega)).2.1
  rw [h1] at h2
  simp only [val] at h2
  omega
theorem bigL_zero : bigL ((0 : Nat) : Int) = [] := by decide

theorem l1Div10_c (la : Option Addr) (q lc m b : Nat) (W : World) (hq : (bigL (m : Int)).length = q) (hm : m < 79228162514264337593543950336) (hr : Rd W la (bigL (m : Int))) (hb : W.cell? ⟨b, 0, none⟩ = some (.int .i64 10)) (p : Nat) (hp : (bigL ((m / 10 : Nat) : Int)).length = p) :
    Calls Tryd.prog 35 #[.slice la q lc, .slice (some ⟨b, 0, none⟩) 1 1] W fun e w' => ∃ a1 c1 a2 q2 c2, e = .returned (.tuple #[.slice a1 p c1, .slice a2 q2 c2]) ∧ Own w' W.heap.size (.slice a1 p c1) (bigL ((m / 10 : Nat) : Int)) ∧ Own w' W.heap.size (.slice a2 q2 c2) (bigL ((m % 10 : Nat) : Int)) ∧ q2 ≤ 6 ∧ Below W.heap.size W w' := by
  obtain ⟨d, v, _⟩ := bigL_spec (n := (m : Int)) (by omega)
  have hl := (bigL_length (n := (m : Int)) (by omega)).2 (by omega)
  have e1 : val (bigL (m : Int)) / val [10] = ((m / 10 : Nat) : Int) := by rw [v]; simp only [val]; omega
  have e2 : val (bigL (m : Int)) % val [10] = ((m % 10 : Nat) : Int) := by rw [v]; simp only [val]; omega
  have h := l1Div_c la (some ⟨b, 0, none⟩) q 1 lc 1 (bigL (m : Int)) [10] W hq rfl (by omega) (by omega) hr (Or.inr ⟨b, 0, rfl, fun j hj => by
    obtain rfl : j = 0 := by simp at hj; omega
    exact hb⟩) d (fun x hx => by simp at hx; omega) (by decide) (by decide) (by rw [v]; omega) p _ (by rw [e1]; exact hp) rfl
  rw [e1, e2] at h
  refine h.mono ?_
  rintro e w' ⟨a1, c1, a2, c2, rfl, ho1, ho2, hb⟩
  refine ⟨a1, c1, a2, _, c2, rfl, ho1, ho2, ?_, hb⟩
  exact (bigL_length (n := ((m % 10 : Nat) : Int)) (by omega)).2 (by omega)

theorem l1At0_c (a2 : Option Addr) (q2 c2 k : Nat) (w : World) (B : Nat) (h6 : q2 ≤ 6) (hk : k < 10) (ho : Own w B (.slice a2 q2 c2) (bigL (k : Int))) :
    Calls Tryd.prog 45 #[.slice a2 q2 c2, .int .i64 0] w fun e w' => e = .returned (.int .i64 (k : Int)) ∧ w' = w := by
  have h := l1At_c a2 q2 c2 0 (bigL (k : Int)) w ho.rd'.1 (by omega) (by omega) ho.rd'.2
  rw [bigL_digit hk] at h
  exact h

set_option maxHeartbeats 4000000 in
theorem specDigits_good (ao : Option Addr) (n c : Nat) (xs : List Int) (w : World) (hx : xs.length = n) (hn : n ≤ 17592186044416) (hr : Rd w ao xs) (gx : goodB xs = true) :
    Calls Tryd.prog 17 #[.agg #[.slice ao n c]] w fun e w' => e = .returned (.tuple #[.string (decS (val xs).toNat), .bool true]) ∧ Below w.heap.size w w' := by
  have HX : Hid (xs.length = n) := hx
  have HR : Hid (Rd w ao xs) := hr
  obtain ⟨lx, dx, tx⟩ := goodB_digs gx
  obtain ⟨N, hN⟩ : ∃ N : Nat, (val xs).toNat = N := ⟨_, rfl⟩
  have HXB : Hid (xs = bigL (N : Int)) := by
    show _ = _
    have h := eq_bigL dx tx
    rw [← hN, Int.toNat_of_nonneg (val_nonneg dx)]
    exact h
  have HV : Hid (N < 79228162514264337593543950336) := by
    have h := val_lt6 dx lx
    show _ < _
    omega
  rw [hN]
  clear hx hr lx dx tx hN
  go_enter Tryd.func17, Tryd.ntmps17
  have HB0 : Hid (Below w.heap.size w (w.alloc (.cells #[.slice ao n c] 25))) := (Below.refl _ _).alloc (Nat.le_refl _) _
  go_wp2_with fail
  refine (specGood_c ao n c xs _ HX.out hn (HR.out.later HB0.out)).mono ?_
  rw [gx]
  rintro e w1 ⟨rfl, hb⟩
  have HB1 : Hid (Below w.heap.size w w1) := HB0.out.trans (hb.mono (by simp))
  have t1 : w1.cell? ⟨w.heap.size, 0, none⟩ = some (.slice ao n c) := cell_keep (S := 0) hb (by simp)
  clear hb HB0
  go_wp2
  go_loopw [4, 5] (fun d l wr => ∃ (S : ByteArray) (la : Option Addr) (q lc m : Nat), d = .string S ∧ l = .slice la q lc ∧ Hid ((bigL (m : Int)).length = q) ∧ Hid (Rd wr la (bigL (m : Int))) ∧ Hid (dlS m ++ S = dlS N ∧ m < 79228162514264337593543950336) ∧ Hid (Below w.heap.size w wr)) (fun d _ _ => 31 - strLen d)
  case atStart => exact ⟨ByteArray.empty, ao, n, c, N, rfl, rfl, by rw [← HXB.out]; exact HX.out, by rw [← HXB.out]; exact HR.out.later HB1.out, ⟨ByteArray.append_empty, HV.out⟩, HB1⟩
  case round =>
    clear HB1 t1
    obtain ⟨S, la, q, lc, m, rfl, rfl, hq, hR, hS, hB⟩ := hrel
    by_cases hq0 : q = 0
    · subst hq0
      have hm0 : m = 0 := bigL_nil hq.out
      have HE : Hid (S = dlS N) := by
        have h := hS.out.1
        rw [hm0, dlS_done] at h
        exact h
      clear hm0 hq hR hS
      by_cases hN0 : N = 0
      · have HS0 : Hid (S = ByteArray.empty) := by show _ = _; rw [HE.out, hN0, dlS_zero]
        have hs := HS0.out
        subst hs
        have HD : Hid (digS 0 = decS N) := by show _ = _; rw [hN0, decS, show 0 / 10 = 0 from rfl, dlS_zero, ByteArray.empty_append]
        clear HS0 HE hN0
        go_wp2
        refine bodyPost_ret (v := .tuple #[.string ⟨#[48]⟩, .bool true]) (by simp [results, Tryd.results17, go_sem]; try rfl) rfl ?_
        exact ⟨by rw [← HD.out]; rfl, hB.out⟩
      · have HS1 : Hid (S = decS N) := by show _ = _; rw [HE.out, dlS_pos (by omega)]; rfl
        have hsz : 0 < S.size := by rw [HS1.out, decS, ByteArray.size_append, digS_size]; omega
        have hemp : S.toList.isEmpty = false := by
          rw [ByteArray.toList_eq]
          have h : S.data.size = S.size := rfl
          cases e : S.data.toList with
          | nil => have h2 := congrArg List.length e; rw [Array.length_toList, h, List.length_nil] at h2; omega
          | cons a b => rfl
        clear HE
        go_wp2
        refine bodyPost_ret (v := .tuple #[.string S, .bool true]) (by simp [results, Tryd.results17, go_sem]; try rfl) rfl ?_
        exact ⟨by rw [HS1.out], hB.out⟩
    · have hq1 : (0 : Int) < (q : Int) := by omega
      have hm0 : 0 < m := by
        rcases Nat.eq_zero_or_pos m with h | h
        · have h1 := hq.out
          rw [h, bigL_zero] at h1
          exact absurd h1.symm hq0
        · exact h
      obtain ⟨k, hk⟩ : ∃ k, m % 10 = k := ⟨_, rfl⟩
      have hk1 : k < 10 := by omega
      have HS2 : Hid (dlS (m / 10) ++ (digS k ++ S) = dlS N ∧ m / 10 < 79228162514264337593543950336) := ⟨by rw [← hk, ← dlS_step hm0]; exact hS.out.1, by have := hS.out.2; omega⟩
      have hsz : S.size + 1 ≤ 30 := by
        have h := dlS_size 30 N (Nat.lt_of_lt_of_le HV.out (by decide))
        rw [← HS2.out.1, ByteArray.size_append, ByteArray.size_append, digS_size] at h
        omega
      have hds := digS_size k
      have hcat : (digS k).size + S.size ≤ 9223372036854775807 := by omega
      obtain ⟨p, hp⟩ : ∃ p, (bigL ((m / 10 : Nat) : Int)).length = p := ⟨_, rfl⟩
      have HP : Hid ((bigL ((m / 10 : Nat) : Int)).length = p) := hp
      obtain ⟨V, hV⟩ : ∃ V, wr.alloc (.cells #[.int .i64 10] 3) = V := ⟨_, rfl⟩
      have BV : Hid (Below wr.heap.size wr V) := by rw [← hV]; exact (Below.refl _ _).alloc (Nat.le_refl _) _
      have CV : Hid (V.cell? ⟨wr.heap.size, 0, none⟩ = some (.int .i64 10)) := by rw [← hV]; show _ = _; simp
      clear hp hq0
      go_wp2_with fail
      clear hV
      refine (l1Div10_c la q lc m wr.heap.size V hq.out hS.out.2 (hR.out.later BV.out) CV.out p HP.out).mono ?_
      rw [hk]
      rintro e w2 ⟨a1, c1, a2, q2, c2, rfl, ho1, ho2, h6, hb⟩
      have HB2 : Hid (Below w.heap.size w w2) := hB.out.trans ((BV.out.trans (hb.mono BV.out.size)).mono hB.out.size)
      have O1 : Hid (Own w2 V.heap.size (.slice a1 p c1) (bigL ((m / 10 : Nat) : Int))) := ho1
      have O2 : Hid (Own w2 V.heap.size (.slice a2 q2 c2) (bigL (k : Int))) := ho2
      clear ho1 ho2 hb hB BV CV hR hS hq hk hm0
      go_wp2_with fail
      refine (l1At0_c a2 q2 c2 k _ _ h6 hk1 O2.out).mono ?_
      rintro e w3 ⟨rfl, hw⟩
      subst w3
      go_wp2_with fail
      refine (l1Num_c k hk1 _).mono ?_
      rintro e w3 ⟨rfl, hb⟩
      have HB3 : Hid (Below w.heap.size w w3) := HB2.out.trans (hb.mono HB2.out.size)
      have O3 : Hid (Rd w3 a1 (bigL ((m / 10 : Nat) : Int))) := O1.out.rd'.2.later hb
      clear hb HB2 O1 O2
      generalize digS k = T at *
      go_wp2
      go_roundw
      case rel => exact ⟨T ++ S, a1, p, c1, m / 10, rfl, rfl, HP, O3, HS2, HB3⟩
      case measure => simp [strLen, ByteArray.size_append]; omega

set_option maxHeartbeats 1000000 in
theorem specDigits_c (ao : Option Addr) (n c : Nat) (xs : List Int) (w : World) (hx : xs.length = n) (hn : n ≤ 17592186044416) (hr : Rd w ao xs) (S : ByteArray) (fb : Bool) (hF : digitsF xs = (S, fb)) :
    Calls Tryd.prog 17 #[.agg #[.slice ao n c]] w fun e w' => e = .returned (.tuple #[.string S, .bool fb]) ∧ Below w.heap.size w w' := by
  unfold digitsF at hF
  cases gx : goodB xs
  · rw [gx] at hF
    simp only [Bool.false_eq_true, if_false, Prod.mk.injEq] at hF
    obtain ⟨rfl, rfl⟩ := hF
    have HB0 : Hid (Below w.heap.size w (w.alloc (.cells #[.slice ao n c] 25))) := (Below.refl _ _).alloc (Nat.le_refl _) _
    go_enter Tryd.func17, Tryd.ntmps17
    go_wp2_with fail
    refine (specGood_c ao n c xs _ hx hn (hr.later HB0.out)).mono ?_
    rw [gx]
    rintro e w1 ⟨rfl, hb⟩
    have HB1 : Hid (Below w.heap.size w w1) := HB0.out.trans (hb.mono (by simp))
    clear hb HB0
    go_wp2
    refine bodyPost_ret (v := .tuple #[.string ByteArray.empty, .bool false]) (by simp [results, Tryd.results17, go_sem]; try rfl) rfl ?_
    exact ⟨rfl, HB1.out⟩
  · rw [gx] at hF
    simp only [if_true, Prod.mk.injEq] at hF
    obtain ⟨rfl, rfl⟩ := hF
    exact specDigits_good ao n c xs w hx hn hr gx

set_option maxHeartbeats 1000000 in
theorem implDigits_c (ao : Option Addr) (n c : Nat) (xs : List Int) (w : World) (hx : xs.length = n) (hn : n ≤ 17592186044416) (hr : Rd w ao xs) (S : ByteArray) (fb : Bool) (hF : digitsF xs = (S, fb)) :
    Calls Tryd.prog 16 #[.agg #[.slice ao n c]] w fun e w' => e = .returned (.tuple #[.string S, .bool fb]) ∧ Below w.heap.size w w' := by
  unfold digitsF at hF
  cases gx : goodB xs
  · rw [gx] at hF
    simp only [Bool.false_eq_true, if_false, Prod.mk.injEq] at hF
    obtain ⟨rfl, rfl⟩ := hF
    have HB0 : Hid (Below w.heap.size w (w.alloc (.cells #[.slice ao n c] 25))) := (Below.refl _ _).alloc (Nat.le_refl _) _
    go_enter Tryd.func16, Tryd.ntmps16
    go_wp2_with fail
    refine (implGood_c ao n c xs _ hx hn (hr.later HB0.out)).mono ?_
    rw [gx]
    rintro e w1 ⟨rfl, hb⟩
    have HB1 : Hid (Below w.heap.size w w1) := HB0.out.trans (hb.mono (by simp))
    clear hb HB0
    go_wp2
    refine bodyPost_ret (v := .tuple #[.string ByteArray.empty, .bool false]) (by simp [results, Tryd.results16, go_sem]; try rfl) rfl ?_
    exact ⟨rfl, HB1.out⟩
  · rw [gx] at hF
    simp only [if_true, Prod.mk.injEq] at hF
    obtain ⟨rfl, rfl⟩ := hF
    exact implDigits_good ao n c xs w hx hn hr gx

end Go.Proofs.YtaedplfihjfchaaDoor
