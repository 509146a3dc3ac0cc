/- Chapter 9: LengthOf of the specification, whole. -/
import Derived.Test.YtlepejafednlfaaWC9
namespace Go.Proofs.Ytlepejafednlfaa
set_option linter.unusedVariables false
set_option maxRecDepth 1000000
set_option linter.unusedSimpArgs false
open Go.RowKit

set_option maxHeartbeats 2000000 in
theorem specLength_c (ao : Option Addr) (n c : Nat) (xs : List Int) (w : World) (hx : xs.length = n) (hn : n ≤ 17592186044416) (hcx : n ≤ c ∧ c ≤ maxLen) (hr : Rd w ao xs) (r : Int) (fb : Bool) (hF : lengthF xs = (r, fb)) :
    Calls Try.prog 38 #[.slice ao n c] w fun e w' => e = .returned (.tuple #[.int .i64 r, .bool fb]) ∧ Below w.heap.size w w' := by
  have q1 := l4Order_c ao n c xs w hx hn hcx hr
  unfold lengthF at hF
  by_cases h : ordB xs = true
  · rw [if_pos h] at hF
    simp only [Prod.mk.injEq] at hF
    obtain ⟨rfl, rfl⟩ := hF
    rw [h] at q1
    have q2 := l9Cycles_c ao n c xs w hx h hr
    have h9 : n ≤ 9 := by have := ord_len h; omega
    have hfew := cycs_few xs xs.length
    have hcnt := cycs_count xs xs.length
    have hpos := cycs_pos xs xs.length
    rw [show (cycs xs xs.length).1 = cycL xs from rfl, hx] at hfew
    rw [show (cycs xs xs.length).1 = cycL xs from rfl] at hcnt hpos
    have hsum : sumLen (cycL xs) ≤ 9 := by omega
    clear hr h hcnt
    generalize hzs : cycL xs = zs at q2 hfew hpos hsum
    clear hzs
    have HPOS : Hid (∀ c ∈ zs, c ≠ []) := hpos
    have HSUM : Hid (sumLen zs ≤ 9) := hsum
    obtain ⟨q, hq⟩ : ∃ q, zs.length = q := ⟨_, rfl⟩
    rw [hq] at hfew
    have HQ : Hid (zs.length = q) := hq
    obtain ⟨R, hR⟩ : ∃ R, lcmL zs = R := ⟨_, rfl⟩
    rw [hR]
    have HR : Hid (lcmL zs = R) := hR
    clear hpos hsum hq hR hx
    go_enter Try.func38, Try.ntmps38
    go_wp2_with fail
    refine q1.mono ?_
    clear q1
    rintro e w' ⟨rfl, hw⟩
    subst w'
    go_wp2_with fail
    refine q2.mono ?_
    clear q2
    rintro e w3 ⟨v, rfl, ho, hb3⟩
    obtain ⟨a', c', hv, hrd, _⟩ := ho.rd
    rw [HQ.out] at hv
    subst hv
    have HB3 : Hid (Below w.heap.size w w3) := hb3
    have HRD : Hid (RdII w3 a' zs) := hrd
    clear ho hb3 hrd
    go_wp2
    go_loop [4, 13] (fun nv iv => ∃ (k N : Nat), k ≤ q ∧ iv = .int .i64 k ∧ nv = .int .i64 N ∧ N ≤ 512 ∧ 0 < N ∧ Hid (lcmL (zs.take k) = N)) (fun _ iv => q - (intOf iv).toNat)
    case atStart => exact ⟨0, 1, Nat.zero_le _, rfl, rfl, by omega, by omega, rfl⟩
    case round =>
      obtain ⟨k, N, hk, rfl, rfl, hN, hN0, hL⟩ := hrel
      by_cases hlt : k < q
      · have hkl : k < zs.length := by rw [HQ.out]; exact hlt
        obtain ⟨b, o, ro, rc, rfl, g1, _⟩ := HRD.out.get hkl
        have hlk : (zs.getD k []).length ≤ 9 := Nat.le_trans (mem_le_sumLen _ _ (getD_mem9 _ hkl)) HSUM.out
        have hl0 : 0 < (zs.getD k []).length := List.length_pos_iff.2 (HPOS.out _ (getD_mem9 _ hkl))
        have HL2 : Hid (lcmL (zs.take (k + 1)) = Nat.lcm N (zs.getD k []).length) := by show _ = _; rw [take_snoc9 [] hkl, lcmL_app, hL.out]
        have hsm : lcmL (zs.take (k + 1)) ≤ 512 := lcmL_small (s := 9) (by
          have h1 : sumLen (zs.take (k + 1)) ≤ sumLen zs := by
            have h2 : sumLen (zs.take (k + 1) ++ zs.drop (k + 1)) = sumLen zs := by rw [List.take_append_drop]
            have h3 : ∀ (l r : List (List Int)), sumLen l ≤ sumLen (l ++ r) := fun l r => by simp [sumLen]
            have := h3 (zs.take (k + 1)) (zs.drop (k + 1))
            omega
          have := HSUM.out
          omega) (Nat.le_refl _)
        rw [HL2.out] at hsm
        generalize (zs.getD k []).length = y at g1 hlk hl0 HL2 hsm
        have q3 := l9Gcd_c N y w3 hN hlk
        have hgp : 0 < Nat.gcd N y := Nat.gcd_pos_of_pos_left _ hN0
        have hgd : Nat.gcd N y ∣ N := Nat.gcd_dvd_left N y
        have hlm : N / Nat.gcd N y * y = Nat.lcm N y := lcm_div
        have HP2 : Hid (0 < Nat.lcm N y) := Nat.lcm_pos hN0 hl0
        have hdl : N / Nat.gcd N y ≤ N := Nat.div_le_self _ _
        generalize Nat.gcd N y = G at q3 hgp hgd hlm hdl
        obtain ⟨D, hD⟩ : ∃ D, N / G = D := ⟨_, rfl⟩
        rw [hD] at hlm hdl
        generalize Nat.lcm N y = Z at hlm HL2 hsm HP2
        have hGz : ¬ (G : Int) = 0 := by omega
        have hGb : ((G : Int) == 0) = false := by rw [beq_eq_false_iff_ne]; omega
        have d1 : (N : Int) / (G : Int) = (D : Int) := by rw [← hD]; rfl
        have d2 : (N : Int).tdiv (G : Int) = (D : Int) := by rw [Int.tdiv_eq_ediv_of_nonneg (by omega)]; exact d1
        have hDy : (D : Int) * (y : Int) = (Z : Int) := by rw [← hlm]; simp
        have k0 : (0 : Int) ≤ (k : Int) := by omega
        have k1 : (k : Int) < (q : Int) := by omega
        clear hL hD hlm hgd hkl
        go_wp2_with fail
        refine q3.mono ?_
        clear q3
        rintro e w' ⟨rfl, hw⟩
        subst w'
        go_wp2
        go_round
        case rel => exact ⟨k + 1, Z, by omega, by go_num, rfl, hsm, HP2.out, HL2⟩
        case measure => simp [intOf]; omega
      · have HE : Hid (N = R) := by show _ = _; rw [← hL.out, ← HR.out, List.take_of_length_le (by rw [HQ.out]; omega)]
        go_wp2
        refine bodyPost_ret (v := .tuple #[.int .i64 (N : Int), .bool true]) (by simp [results, Try.results38, go_sem]; try rfl) rfl ?_
        exact ⟨by rw [HE.out], HB3.out⟩
  · rw [if_neg h] at hF
    simp only [Prod.mk.injEq] at hF
    obtain ⟨rfl, rfl⟩ := hF
    rw [Bool.eq_false_iff.2 h] at q1
    clear h
    go_enter Try.func38, Try.ntmps38
    go_wp2_with fail
    refine q1.mono ?_
    clear q1
    rintro e w' ⟨rfl, hw⟩
    subst w'
    go_wp2
    refine bodyPost_ret (v := .tuple #[.int .i64 0, .bool false]) (by simp [results, Try.results38, go_sem]; try rfl) rfl ?_
    exact ⟨rfl, Below.refl _ _⟩

end Go.Proofs.Ytlepejafednlfaa
