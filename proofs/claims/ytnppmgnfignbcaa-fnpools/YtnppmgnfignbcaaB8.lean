/- Chapter 8: lists looked at, rising ones, and the library's search in them. -/
import Derived.Test.YtnppmgnfignbcaaA8
namespace Go.Proofs.Ytnppmgnfignbcaa
set_option linter.unusedVariables false
set_option maxRecDepth 1000000
set_option linter.unusedSimpArgs false
open Go.RowKit

set_option maxHeartbeats 1000000 in
theorem fewS_c (ao : Option Addr) (n c : Nat) (xs : List ByteArray) (w : World) (hx : xs.length = n) (hn : n ≤ 17592186044416) (hr : RdS w ao xs) (hs : ∀ s ∈ xs, s.size ≤ 9223372036854775807) :
    Calls Try.prog 55 #[.slice ao n c, .int .i64 12, .func (.func 56) #[] #[]] w fun e w' => e = .returned (.bool (poolB xs)) ∧ w' = w := by
  have HX : Hid (xs.length = n) := hx
  have HR : Hid (RdS w ao xs) := hr
  have HSZ : Hid (∀ s ∈ xs, s.size ≤ 9223372036854775807) := hs
  clear hs
  unfold poolB
  rw [hx]
  clear hx hr
  by_cases h5 : 12 < n
  · have h5' : (12 : Int) < (n : Int) := by omega
    rw [decide_eq_false (show ¬ n ≤ 12 by omega), Bool.false_and]
    go_enter Try.func55, Try.ntmps55
    go_wp2
    go_ret
    exact ⟨rfl, rfl⟩
  · have h5' : ¬ (12 : Int) < (n : Int) := by omega
    rw [decide_eq_true (show n ≤ 12 by omega), Bool.true_and]
    have HF : Hid (∀ k, k < n → shortB (xs.getD k ByteArray.empty) = false → xs.all shortB = false) := fun k hk h => all_out (d := ByteArray.empty) (by rw [HX.out]; exact hk) h
    have HE : Hid ((∀ j, j < n → shortB (xs.getD j ByteArray.empty) = true) → xs.all shortB = true) := fun h => all_end (d := ByteArray.empty) (fun j hj => h j (by rw [HX.out] at hj; exact hj))
    generalize xs.all shortB = zb at HF HE ⊢
    go_enter Try.func55, Try.ntmps55
    go_wp2
    go_loop [15] (fun iv => ∃ (k : Nat), k ≤ n ∧ iv = .int .i64 k ∧ Hid (∀ j, j < k → shortB (xs.getD j ByteArray.empty) = true)) (fun iv => n - (intOf iv).toNat)
    case atStart => exact ⟨0, Nat.zero_le _, rfl, fun j h => absurd h (by omega)⟩
    case round =>
      obtain ⟨k, hk, rfl, HS⟩ := hrel
      by_cases hlt : k < n
      · have hkl : k < xs.length := by rw [HX.out]; exact hlt
        have hv : (xs.getD k ByteArray.empty).size ≤ 9223372036854775807 := HSZ.out _ (mem_getD _ hkl)
        obtain ⟨b, o, rfl, g1⟩ := HR.out.get hkl
        cases gm : shortB (xs.getD k ByteArray.empty)
        · have HN : Hid (zb = false) := HF.out k hlt gm
          generalize xs.getD k ByteArray.empty = v at g1 gm hv
          have q := fun wx => isLetter_c v wx hv
          rw [gm] at q
          clear hkl gm
          go_wp2_with fail
          refine (q _).mono ?_
          clear q
          rintro e w' ⟨rfl, hw⟩
          subst w'
          go_wp2
          go_ret
          exact ⟨ret_bool HN.out.symm, rfl⟩
        · have HS2 : Hid (∀ j, j < k + 1 → shortB (xs.getD j ByteArray.empty) = true) := fun j hj => by
            by_cases e : j = k
            · rw [e]; exact gm
            · exact HS.out j (by omega)
          generalize xs.getD k ByteArray.empty = v at g1 gm hv
          have q := fun wx => isLetter_c v wx hv
          rw [gm] at q
          clear hkl gm
          go_wp2_with fail
          refine (q _).mono ?_
          clear q
          rintro e w' ⟨rfl, hw⟩
          subst w'
          go_wp2
          go_round
          case rel => exact ⟨k + 1, by omega, by go_num, HS2⟩
          case measure => simp [intOf]; omega
      · obtain rfl : k = n := by omega
        have HM : Hid (zb = true) := HE.out HS.out
        go_wp2
        go_ret
        exact ⟨ret_bool HM.out.symm, rfl⟩

set_option maxHeartbeats 1000000 in
theorem fewI_c (ao : Option Addr) (n c : Nat) (xs : List Int) (w : World) (hx : xs.length = n) (hn : n ≤ 17592186044416) (hr : Rd w ao xs) :
    Calls Try.prog 78 #[.slice ao n c, .int .i64 100, .func (.func 79) #[] #[]] w fun e w' => e = .returned (.bool (tagsB xs)) ∧ w' = w := by
  have HX : Hid (xs.length = n) := hx
  have HR : Hid (Rd w ao xs) := hr
  unfold tagsB
  rw [hx]
  clear hx hr
  by_cases h5 : 100 < n
  · have h5' : (100 : Int) < (n : Int) := by omega
    rw [decide_eq_false (show ¬ n ≤ 100 by omega), Bool.false_and]
    go_enter Try.func78, Try.ntmps78
    go_wp2
    go_ret
    exact ⟨rfl, rfl⟩
  · have h5' : ¬ (100 : Int) < (n : Int) := by omega
    rw [decide_eq_true (show n ≤ 100 by omega), Bool.true_and]
    have HF : Hid (∀ k, k < n → tagB (xs.getD k 0) = false → xs.all tagB = false) := fun k hk h => all_out (d := 0) (by rw [HX.out]; exact hk) h
    have HE : Hid ((∀ j, j < n → tagB (xs.getD j 0) = true) → xs.all tagB = true) := fun h => all_end (d := 0) (fun j hj => h j (by rw [HX.out] at hj; exact hj))
    generalize xs.all tagB = zb at HF HE ⊢
    go_enter Try.func78, Try.ntmps78
    go_wp2
    go_loop [15] (fun iv => ∃ (k : Nat), k ≤ n ∧ iv = .int .i64 k ∧ Hid (∀ j, j < k → tagB (xs.getD j 0) = true)) (fun iv => n - (intOf iv).toNat)
    case atStart => exact ⟨0, Nat.zero_le _, rfl, fun j h => absurd h (by omega)⟩
    case round =>
      obtain ⟨k, hk, rfl, HS⟩ := hrel
      by_cases hlt : k < n
      · have hkl : k < xs.length := by rw [HX.out]; exact hlt
        obtain ⟨b, o, rfl, g1⟩ := HR.out.get hkl
        cases gm : tagB (xs.getD k 0)
        · have HN : Hid (zb = false) := HF.out k hlt gm
          generalize xs.getD k 0 = v at g1 gm
          have q := fun wx => isTag_c v wx
          rw [gm] at q
          clear hkl gm
          go_wp2_with fail
          refine (q _).mono ?_
          clear q
          rintro e w' ⟨rfl, hw⟩
          subst w'
          go_wp2
          go_ret
          exact ⟨ret_bool HN.out.symm, rfl⟩
        · have HS2 : Hid (∀ j, j < k + 1 → tagB (xs.getD j 0) = true) := fun j hj => by
            by_cases e : j = k
            · rw [e]; exact gm
            · exact HS.out j (by omega)
          generalize xs.getD k 0 = v at g1 gm
          have q := fun wx => isTag_c v wx
          rw [gm] at q
          clear hkl gm
          go_wp2_with fail
          refine (q _).mono ?_
          clear q
          rintro e w' ⟨rfl, hw⟩
          subst w'
          go_wp2
          go_round
          case rel => exact ⟨k + 1, by omega, by go_num, HS2⟩
          case measure => simp [intOf]; omega
      · obtain rfl : k = n := by omega
        have HM : Hid (zb = true) := HE.out HS.out
        go_wp2
        go_ret
        exact ⟨ret_bool HM.out.symm, rfl⟩

set_option maxHeartbeats 1000000 in
theorem l8Pool_c (ao : Option Addr) (n c : Nat) (xs : List ByteArray) (w : World) (hx : xs.length = n) (hn : n ≤ 17592186044416) (hr : RdS w ao xs) (hs : ∀ s ∈ xs, s.size ≤ 9223372036854775807) :
    Calls Try.prog 58 #[.slice ao n c] w fun e w' => e = .returned (.bool (poolB xs)) ∧ w' = w := by
  have HX : Hid (xs.length = n) := hx
  have HR : Hid (RdS w ao xs) := hr
  have HSZ : Hid (∀ s ∈ xs, s.size ≤ 9223372036854775807) := hs
  have HV : Hid (poolB xs = (decide (n ≤ 12) && xs.all shortB)) := by show _ = _; unfold poolB; rw [hx]
  generalize poolB xs = V at HV ⊢
  clear hx hr hs
  have HF : Hid (∀ k, k < n → shortB (xs.getD k ByteArray.empty) = false → xs.all shortB = false) := fun k hk h => all_out (d := ByteArray.empty) (by rw [HX.out]; exact hk) h
  have HE : Hid ((∀ j, j < n → shortB (xs.getD j ByteArray.empty) = true) → xs.all shortB = true) := fun h => all_end (d := ByteArray.empty) (fun j hj => h j (by rw [HX.out] at hj; exact hj))
  generalize xs.all shortB = zb at HF HE HV
  go_enter Try.func58, Try.ntmps58
  go_wp2
  go_loop [7] (fun iv => ∃ (k : Nat), k ≤ n ∧ iv = .int .i64 k ∧ Hid (∀ j, j < k → shortB (xs.getD j ByteArray.empty) = true)) (fun iv => n - (intOf iv).toNat)
  case atStart => exact ⟨0, Nat.zero_le _, rfl, fun j h => absurd h (by omega)⟩
  case round =>
    obtain ⟨k, hk, rfl, HS⟩ := hrel
    by_cases hlt : k < n
    · have hkl : k < xs.length := by rw [HX.out]; exact hlt
      have hv : (xs.getD k ByteArray.empty).size ≤ 9223372036854775807 := HSZ.out _ (mem_getD _ hkl)
      obtain ⟨b, o, rfl, g1⟩ := HR.out.get hkl
      cases gm : shortB (xs.getD k ByteArray.empty)
      · have HN : Hid (V = false) := by show _ = _; rw [HV.out, HF.out k hlt gm, Bool.and_false]
        generalize xs.getD k ByteArray.empty = v at g1 gm hv
        have q := fun wx => l8Text_c v wx hv
        rw [gm] at q
        clear hkl gm
        go_wp2_with fail
        refine (q _).mono ?_
        clear q
        rintro e w' ⟨rfl, hw⟩
        subst w'
        go_wp2
        go_ret
        exact ⟨ret_bool HN.out.symm, rfl⟩
      · have HS2 : Hid (∀ j, j < k + 1 → shortB (xs.getD j ByteArray.empty) = true) := fun j hj => by
          by_cases e : j = k
          · rw [e]; exact gm
          · exact HS.out j (by omega)
        generalize xs.getD k ByteArray.empty = v at g1 gm hv
        have q := fun wx => l8Text_c v wx hv
        rw [gm] at q
        clear hkl gm
        go_wp2_with fail
        refine (q _).mono ?_
        clear q
        rintro e w' ⟨rfl, hw⟩
        subst w'
        go_wp2
        go_round
        case rel => exact ⟨k + 1, by omega, by go_num, HS2⟩
        case measure => simp [intOf]; omega
    · obtain rfl : k = n := by omega
      have HM : Hid (V = decide (k ≤ 12)) := by show _ = _; rw [HV.out, HE.out HS.out, Bool.and_true]
      by_cases h12 : (k : Int) ≤ 12
      · have HY : Hid (V = true) := by show _ = _; rw [HM.out]; exact decide_eq_true (by omega)
        go_wp2
        go_ret
        exact ⟨ret_bool HY.out.symm, rfl⟩
      · have HY : Hid (V = false) := by show _ = _; rw [HM.out]; exact decide_eq_false (by omega)
        go_wp2
        go_ret
        exact ⟨ret_bool HY.out.symm, rfl⟩

set_option maxHeartbeats 1000000 in
theorem risingS_c (ao : Option Addr) (n c : Nat) (xs : List ByteArray) (w : World) (hx : xs.length = n) (hn : n ≤ 17592186044416) (hr : RdS w ao xs) :
    Calls Try.prog 80 #[.slice ao n c] w fun e w' => e = .returned (.bool (risB ltS xs)) ∧ Below w.heap.size w w' := by
  have HX : Hid (xs.length = n) := hx
  have HR : Hid (RdS w ao xs) := hr
  have HA := risB_at (lt := ltS) ByteArray.empty (l := xs)
  have HF : Hid (∀ k, 1 ≤ k → k < n → ltS (xs.getD (k - 1) ByteArray.empty) (xs.getD k ByteArray.empty) = false → risB ltS xs = false) := fun k h1 hk h => by
    cases e : risB ltS xs with
    | false => rfl
    | true =>
      have := HA.1 e (k - 1) (by omega)
      rw [show k - 1 + 1 = k by omega, h] at this; cases this
  have HE : Hid ((∀ j, 1 ≤ j → j < n → ltS (xs.getD (j - 1) ByteArray.empty) (xs.getD j ByteArray.empty) = true) → risB ltS xs = true) := fun h => HA.2 fun i hi => by
    have := h (i + 1) (by omega) (by omega)
    rwa [show i + 1 - 1 = i by omega] at this
  generalize risB ltS xs = zb at HF HE ⊢
  clear hx hr HA
  go_enter Try.func80, Try.ntmps80
  go_wp2
  go_loopw [3] (fun iv wr => ∃ (k : Nat), 1 ≤ k ∧ (k ≤ n ∨ k = 1) ∧ iv = .int .i64 k ∧ Hid (∀ j, 1 ≤ j → j < k → ltS (xs.getD (j - 1) ByteArray.empty) (xs.getD j ByteArray.empty) = true) ∧ Hid (Below w.heap.size w wr)) (fun iv _ => n - (intOf iv).toNat)
  case atStart => exact ⟨1, Nat.le_refl _, Or.inr rfl, rfl, fun j h h2 => absurd h (by omega), Below.refl _ _⟩
  case round =>
    obtain ⟨k, hk1, hk, rfl, HS, HB⟩ := hrel
    by_cases hlt : k < n
    · have hkl : k < xs.length := by rw [HX.out]; exact hlt
      obtain ⟨b, o, rfl, g1⟩ := (HR.out.later HB.out).get hkl
      obtain ⟨b', o', he, g2⟩ := (HR.out.later HB.out).get (k := k - 1) (by omega)
      simp only [Option.some.injEq, Addr.mk.injEq] at he
      obtain ⟨rfl, rfl, _⟩ := he
      obtain ⟨m, rfl⟩ : ∃ m, k = m + 1 := ⟨k - 1, by omega⟩
      rw [show m + 1 - 1 = m by omega] at g2
      have h0 : (0 : Int) ≤ (m : Int) + 1 := by omega
      have h1 : (m : Int) + 1 < (n : Int) := by omega
      have h2 : (0 : Int) ≤ (m : Int) := by omega
      have h3 : (m : Int) < (n : Int) := by omega
      have h4 : ((m : Int) + 1 - 1) = (m : Int) := by omega
      have g1' : wr.cell? ⟨b, o + (m + 1), none⟩ = some (.string (xs.getD (m + 1) ByteArray.empty)) := g1
      clear g1
      cases gm : ltS (xs.getD m ByteArray.empty) (xs.getD (m + 1) ByteArray.empty)
      · have HN : Hid (zb = false) := HF.out (m + 1) (by omega) hlt gm
        generalize xs.getD (m + 1) ByteArray.empty = y at g1' gm
        generalize xs.getD m ByteArray.empty = x at g2 gm
        have ht : (Op.bytesLess y.toList x.toList || y.toList == x.toList) = true := by
            cases e : Op.bytesLess y.toList x.toList with
            | true => rfl
            | false => have h := ordS.tot (x := y) (y := x) e gm; rw [h]; simp
        clear hkl gm hk hk1
        go_wp2
        go_quiet (fail)
        go_wp2
        go_ret
        exact ⟨ret_bool HN.out.symm, below_drewN HB.out _⟩
      · have HS2 : Hid (∀ j, 1 ≤ j → j < m + 1 + 1 → ltS (xs.getD (j - 1) ByteArray.empty) (xs.getD j ByteArray.empty) = true) := fun j h hj => by
          by_cases e : j = m + 1
          · rw [e]; exact gm
          · exact HS.out j h (by omega)
        generalize xs.getD (m + 1) ByteArray.empty = y at g1' gm
        generalize xs.getD m ByteArray.empty = x at g2 gm
        have ht : (Op.bytesLess y.toList x.toList || y.toList == x.toList) = false := by
            have h1 : Op.bytesLess y.toList x.toList = false := ordS.asym gm
            have h2 : (y.toList == x.toList) = false := by
              rw [beq_eq_false_iff_ne]; intro e
              rw [tl_inj e, ordS.irr] at gm; cases gm
            rw [h1, h2]; rfl
        clear hkl gm hk hk1
        go_wp2
        go_quiet (fail)
        go_wp2
        go_roundw
        case rel => exact ⟨m + 1 + 1, by omega, Or.inl (by omega), by go_num, HS2, below_drewN HB.out _⟩
        case measure => simp [intOf]; omega
    · have HM : Hid (zb = true) := HE.out fun j h1 h2 => HS.out j h1 (by omega)
      have hlt' : ¬ (k : Int) < (n : Int) := by omega
      clear hk hk1
      go_wp2
      go_ret
      exact ⟨ret_bool HM.out.symm, HB.out⟩

set_option maxHeartbeats 1000000 in
theorem risingI_c (ao : Option Addr) (n c : Nat) (xs : List Int) (w : World) (hx : xs.length = n) (hn : n ≤ 17592186044416) (hr : Rd w ao xs) :
    Calls Try.prog 81 #[.slice ao n c] w fun e w' => e = .returned (.bool (risB ltI xs)) ∧ Below w.heap.size w w' := by
  have HX : Hid (xs.length = n) := hx
  have HR : Hid (Rd w ao xs) := hr
  have HA := risB_at (lt := ltI) 0 (l := xs)
  have HF : Hid (∀ k, 1 ≤ k → k < n → ltI (xs.getD (k - 1) 0) (xs.getD k 0) = false → risB ltI xs = false) := fun k h1 hk h => by
    cases e : risB ltI xs with
    | false => rfl
    | true =>
      have := HA.1 e (k - 1) (by omega)
      rw [show k - 1 + 1 = k by omega, h] at this; cases this
  have HE : Hid ((∀ j, 1 ≤ j → j < n → ltI (xs.getD (j - 1) 0) (xs.getD j 0) = true) → risB ltI xs = true) := fun h => HA.2 fun i hi => by
    have := h (i + 1) (by omega) (by omega)
    rwa [show i + 1 - 1 = i by omega] at this
  generalize risB ltI xs = zb at HF HE ⊢
  clear hx hr HA
  go_enter Try.func81, Try.ntmps81
  go_wp2
  go_loopw [3] (fun iv wr => ∃ (k : Nat), 1 ≤ k ∧ (k ≤ n ∨ k = 1) ∧ iv = .int .i64 k ∧ Hid (∀ j, 1 ≤ j → j < k → ltI (xs.getD (j - 1) 0) (xs.getD j 0) = true) ∧ Hid (Below w.heap.size w wr)) (fun iv _ => n - (intOf iv).toNat)
  case atStart => exact ⟨1, Nat.le_refl _, Or.inr rfl, rfl, fun j h h2 => absurd h (by omega), Below.refl _ _⟩
  case round =>
    obtain ⟨k, hk1, hk, rfl, HS, HB⟩ := hrel
    by_cases hlt : k < n
    · have hkl : k < xs.length := by rw [HX.out]; exact hlt
      obtain ⟨b, o, rfl, g1⟩ := (HR.out.later HB.out).get hkl
      obtain ⟨b', o', he, g2⟩ := (HR.out.later HB.out).get (k := k - 1) (by omega)
      simp only [Option.some.injEq, Addr.mk.injEq] at he
      obtain ⟨rfl, rfl, _⟩ := he
      obtain ⟨m, rfl⟩ : ∃ m, k = m + 1 := ⟨k - 1, by omega⟩
      rw [show m + 1 - 1 = m by omega] at g2
      have h0 : (0 : Int) ≤ (m : Int) + 1 := by omega
      have h1 : (m : Int) + 1 < (n : Int) := by omega
      have h2 : (0 : Int) ≤ (m : Int) := by omega
      have h3 : (m : Int) < (n : Int) := by omega
      have h4 : ((m : Int) + 1 - 1) = (m : Int) := by omega
      have g1' : wr.cell? ⟨b, o + (m + 1), none⟩ = some (.int .i64 (xs.getD (m + 1) 0)) := g1
      clear g1
      cases gm : ltI (xs.getD m 0) (xs.getD (m + 1) 0)
      · have HN : Hid (zb = false) := HF.out (m + 1) (by omega) hlt gm
        generalize xs.getD (m + 1) 0 = y at g1' gm
        generalize xs.getD m 0 = x at g2 gm
        have ht : y ≤ x := by simp [ltI] at gm; omega
        clear hkl gm hk hk1
        go_wp2
        go_quiet (fail)
        go_wp2
        go_ret
        exact ⟨ret_bool HN.out.symm, below_drewN HB.out _⟩
      · have HS2 : Hid (∀ j, 1 ≤ j → j < m + 1 + 1 → ltI (xs.getD (j - 1) 0) (xs.getD j 0) = true) := fun j h hj => by
          by_cases e : j = m + 1
          · rw [e]; exact gm
          · exact HS.out j h (by omega)
        generalize xs.getD (m + 1) 0 = y at g1' gm
        generalize xs.getD m 0 = x at g2 gm
        have ht : ¬ y ≤ x := by simp [ltI] at gm; omega
        clear hkl gm hk hk1
        go_wp2
        go_quiet (fail)
        go_wp2
        go_roundw
        case rel => exact ⟨m + 1 + 1, by omega, Or.inl (by omega), by go_num, HS2, below_drewN HB.out _⟩
        case measure => simp [intOf]; omega
    · have HM : Hid (zb = true) := HE.out fun j h1 h2 => HS.out j h1 (by omega)
      have hlt' : ¬ (k : Int) < (n : Int) := by omega
      clear hk hk1
      go_wp2
      go_ret
      exact ⟨ret_bool HM.out.symm, HB.out⟩

end Go.Proofs.Ytnppmgnfignbcaa
