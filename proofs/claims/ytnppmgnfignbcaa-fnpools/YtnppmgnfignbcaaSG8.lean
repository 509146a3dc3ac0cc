/- Chapter 8, the specification: whether a mix is good. -/
import Derived.Test.YtnppmgnfignbcaaG8
namespace Go.Proofs.Ytnppmgnfignbcaa
set_option linter.unusedVariables false
set_option maxRecDepth 1000000
set_option linter.unusedSimpArgs false
open Go.RowKit

theorem risIn_fail {l : List Int} {k : Nat} (hk : k < l.length) (h : ¬ (0 ≤ l.getD k 0 ∧ l.getD k 0 ≤ 4092) ∨ (0 < k ∧ l.getD k 0 ≤ l.getD (k - 1) 0)) : risIn l = false := by
  cases e : risIn l with
  | false => rfl
  | true =>
    unfold risIn at e
    simp only [Bool.and_eq_true, List.all_eq_true, decide_eq_true_eq] at e
    exfalso
    rcases h with h | ⟨h0, h⟩
    · exact h (e.1 _ (mem_getD 0 hk))
    · have := (risB_at (lt := ltI) 0).1 e.2 (k - 1) (by omega)
      rw [show k - 1 + 1 = k by omega] at this
      simp only [ltI, decide_eq_true_eq] at this
      omega
theorem risIn_pass {l : List Int} (h : ∀ k, k < l.length → (0 ≤ l.getD k 0 ∧ l.getD k 0 ≤ 4092) ∧ ¬ (0 < k ∧ l.getD k 0 ≤ l.getD (k - 1) 0)) : risIn l = true := by
  unfold risIn
  simp only [Bool.and_eq_true, List.all_eq_true, decide_eq_true_eq]
  refine ⟨fun x hx => ?_, (risB_at (lt := ltI) 0).2 fun i hi => ?_⟩
  · obtain ⟨j, hj, e⟩ := of_mem_getD 0 hx
    rw [← e]; exact (h j hj).1
  · have := (h (i + 1) hi).2
    rw [show i + 1 - 1 = i by omega] at this
    simp only [ltI, decide_eq_true_eq]
    omega

set_option maxHeartbeats 2000000 in
theorem l1Rising_c (ao : Option Addr) (n c : Nat) (xs : List Int) (w : World) (hx : xs.length = n) (hn : n ≤ 17592186044416) (hr : Rd w ao xs) :
    Calls Try.prog 86 #[.slice ao n c, .int .i64 0, .int .i64 4092] w fun e w' => e = .returned (.bool (risIn xs)) ∧ w' = w := by
  have HX : Hid (xs.length = n) := hx
  have HR : Hid (Rd w ao xs) := hr
  have HF : Hid (∀ k, k < n → ¬ (0 ≤ xs.getD k 0 ∧ xs.getD k 0 ≤ 4092) ∨ (0 < k ∧ xs.getD k 0 ≤ xs.getD (k - 1) 0) → risIn xs = false) := fun k hk h => risIn_fail (by omega) h
  have HE : Hid ((∀ k, k < n → (0 ≤ xs.getD k 0 ∧ xs.getD k 0 ≤ 4092) ∧ ¬ (0 < k ∧ xs.getD k 0 ≤ xs.getD (k - 1) 0)) → risIn xs = true) := fun h => risIn_pass (fun k hk => h k (by omega))
  generalize risIn xs = zb at HF HE ⊢
  clear hx hr
  go_enter Try.func86, Try.ntmps86
  go_wp2
  go_loop [11] (fun iv => ∃ k : Nat, k ≤ n ∧ iv = .int .i64 k ∧ Hid (∀ j, j < k → (0 ≤ xs.getD j 0 ∧ xs.getD j 0 ≤ 4092) ∧ ¬ (0 < j ∧ xs.getD j 0 ≤ xs.getD (j - 1) 0))) (fun iv => n - (intOf iv).toNat)
  case atStart => exact ⟨0, Nat.zero_le _, rfl, fun j h => absurd h (by omega)⟩
  case round =>
    obtain ⟨k, hk, rfl, HS⟩ := hrel
    by_cases hlt : k < n
    · obtain ⟨b, o, rfl, g1⟩ := HR.out.get (k := k) (by rw [HX.out]; exact hlt)
      have k0 : (0 : Int) ≤ (k : Int) := by omega
      have k1 : (k : Int) < (n : Int) := by omega
      have q := fun wx => l1In_c (xs.getD k 0) 0 4092 wx
      by_cases hin : 0 ≤ xs.getD k 0 ∧ xs.getD k 0 ≤ 4092
      · rw [decide_eq_true hin] at q
        by_cases hk0 : k = 0
        · have HS2 : Hid (∀ j, j < k + 1 → (0 ≤ xs.getD j 0 ∧ xs.getD j 0 ≤ 4092) ∧ ¬ (0 < j ∧ xs.getD j 0 ≤ xs.getD (j - 1) 0)) := fun j hj => by
            obtain rfl : j = k := by omega
            exact ⟨hin, fun h => absurd h.1 (by omega)⟩
          have hz : ¬ (0 : Int) < (k : Int) := by omega
          generalize xs.getD k 0 = x at g1 q
          clear hin hk0
          go_wp2_with (go_at_call 85; refine (q _).mono ?_; clear q; rintro e w' ⟨rfl, hw⟩; subst w')
          go_round
          case rel => exact ⟨k + 1, by omega, by go_num, HS2⟩
          case measure => simp [intOf]; omega
        · obtain ⟨m, rfl⟩ : ∃ m, k = m + 1 := ⟨k - 1, by omega⟩
          clear hk0
          obtain ⟨b', o', he, g2⟩ := HR.out.get (k := m) (by rw [HX.out]; omega)
          simp only [Option.some.injEq, Addr.mk.injEq] at he
          obtain ⟨rfl, rfl, _⟩ := he
          have m0 : (0 : Int) < (m : Int) + 1 := by omega
          have m1 : (0 : Int) ≤ (m : Int) := by omega
          have m2 : (m : Int) < (n : Int) := by omega
          have m3 : (m : Int) + 1 - 1 = (m : Int) := by omega
          have g1' : w.cell? ⟨b, o + (m + 1), none⟩ = some (.int .i64 (xs.getD (m + 1) 0)) := g1
          clear g1
          by_cases hle : xs.getD (m + 1) 0 ≤ xs.getD m 0
          · have HN : Hid (zb = false) := HF.out (m + 1) hlt (Or.inr ⟨by omega, by rw [show m + 1 - 1 = m by omega]; exact hle⟩)
            generalize xs.getD (m + 1) 0 = x at g1' q hle
            generalize xs.getD m 0 = y at g2 hle
            clear hin
            go_wp2_with (go_at_call 85; refine (q _).mono ?_; clear q; rintro e w' ⟨rfl, hw⟩; subst w')
            go_ret
            exact ⟨ret_bool HN.out.symm, rfl⟩
          · have HS2 : Hid (∀ j, j < m + 1 + 1 → (0 ≤ xs.getD j 0 ∧ xs.getD j 0 ≤ 4092) ∧ ¬ (0 < j ∧ xs.getD j 0 ≤ xs.getD (j - 1) 0)) := fun j hj => by
              by_cases e : j = m + 1
              · subst e; exact ⟨hin, fun h => hle (by have := h.2; rwa [show m + 1 - 1 = m by omega] at this)⟩
              · exact HS.out j (by omega)
            generalize xs.getD (m + 1) 0 = x at g1' q hle
            generalize xs.getD m 0 = y at g2 hle
            clear hin
            go_wp2_with (go_at_call 85; refine (q _).mono ?_; clear q; rintro e w' ⟨rfl, hw⟩; subst w')
            go_round
            case rel => exact ⟨m + 1 + 1, by omega, by go_num, HS2⟩
            case measure => simp [intOf]; omega
      · rw [decide_eq_false hin] at q
        have HN : Hid (zb = false) := HF.out k hlt (Or.inl hin)
        generalize xs.getD k 0 = x at g1 q
        clear hin
        go_wp2_with (go_at_call 85; refine (q _).mono ?_; clear q; rintro e w' ⟨rfl, hw⟩; subst w')
        go_ret
        exact ⟨ret_bool HN.out.symm, rfl⟩
    · obtain rfl : k = n := by omega
      have HM : Hid (zb = true) := HE.out HS.out
      go_wp2
      go_ret
      exact ⟨ret_bool HM.out.symm, rfl⟩

theorem own_later1 {w w' : World} {g : Nat} {v : Value} {xs : List Int} {row : Option Nat} (h : Own w g v xs) (hg : w.grownBy w' row) (hne : v.ownBlock = none ∨ v.ownBlock ≠ row) : Own w' g v xs := h.kept hg hne

set_option maxHeartbeats 16000000 in
theorem specGood_c (po so : Option Addr) (n c m d : Nat) (a b t : Int) (xs : List ByteArray) (ys : List Int) (w : World) (hx : xs.length = n) (hy : ys.length = m) (hn : n ≤ 1048576) (hm : m ≤ 17592186044416) (hr : RdS w po xs) (hs : Rd w so ys) (hz : ∀ s ∈ xs, s.size ≤ 9223372036854775807) :
    Calls Try.prog 29 #[.agg #[.slice po n c, .int .i64 a, .int .i64 b, .int .i64 t, .slice so m d]] w fun e w' => e = .returned (.bool (goodB ⟨xs, a, b, t, ys⟩)) ∧ Below w.heap.size w w' := by
  obtain ⟨i0, hi, hz0, hz1, hz2⟩ := info_parts Try.infoInt
  have HF : Hid (∀ k, k < n → badAt xs ys k → goodB ⟨xs, a, b, t, ys⟩ = false) := fun k hk h => good_fail (m := ⟨xs, a, b, t, ys⟩) (by show k < xs.length; omega) h
  have HE : Hid ((∀ k, k < n → ¬ badAt xs ys k) → goodB ⟨xs, a, b, t, ys⟩ = restS ⟨xs, a, b, t, ys⟩) := fun h => good_pass (m := ⟨xs, a, b, t, ys⟩) (fun k hk => h k (by have : k < xs.length := hk; omega))
  generalize goodB ⟨xs, a, b, t, ys⟩ = zb at HF HE ⊢
  have hC0 := c5_new w (.slice po n c) a b t (.slice so m d) 41 w.heap.size rfl
  have hB0 : Below w.heap.size w (w.alloc (.cells #[.slice po n c, .int .i64 a, .int .i64 b, .int .i64 t, .slice so m d] 41)) := balloc w _
  have hS0 : (w.alloc (.cells #[.slice po n c, .int .i64 a, .int .i64 b, .int .i64 t, .slice so m d] 41)).heap.size = w.heap.size + 1 := by simp
  have HR : Hid (∀ wx, Below w.heap.size w wx → RdS wx po xs) := fun wx h => hr.later h
  have HS : Hid (∀ wx, Below w.heap.size w wx → Rd wx so ys) := fun wx h => hs.later h
  have HX : Hid (xs.length = n) := hx
  have HY : Hid (ys.length = m) := hy
  have HZ : Hid (∀ s ∈ xs, s.size ≤ 9223372036854775807) := hz
  obtain ⟨W0, hW0⟩ : ∃ W0, w.alloc (.cells #[.slice po n c, .int .i64 a, .int .i64 b, .int .i64 t, .slice so m d] 41) = W0 := ⟨_, rfl⟩
  rw [hW0] at hC0 hB0 hS0
  have HC0 : Hid (C5 W0 w.heap.size (.slice po n c) a b t (.slice so m d)) := hC0
  have HB0 : Hid (Below w.heap.size w W0) := hB0
  have HS0 : Hid (W0.heap.size = w.heap.size + 1) := hS0
  obtain ⟨⟨c0, c1, c2, c3, c4⟩, f⟩ := hC0
  clear hr hs hx hy hz hB0 f hS0
  go_enter Try.func29, Try.ntmps29
  go_wp2
  go_loopw [3, 10] (fun v iv wr => ∃ (k : Nat) (a' : Option Addr) (c' : Nat), k ≤ n ∧ iv = .int .i64 k ∧ v = .slice a' k c' ∧ Hid (Own wr (w.heap.size + 1) (.slice a' k c') ((xs.take k).map tagN)) ∧ Hid (C5 wr w.heap.size (.slice po n c) a b t (.slice so m d)) ∧ Hid (∀ j, j < k → ¬ badAt xs ys j) ∧ Hid (Below w.heap.size w wr) ∧ Hid (w.heap.size + 1 ≤ wr.heap.size)) (fun _ iv _ => n - (intOf iv).toNat)
  case atStart => exact ⟨0, none, 0, Nat.zero_le _, rfl, rfl, World.ownsRow_nil _ _ _ _, HC0, fun j h => absurd h (by omega), HB0, by show _ ≤ _; have := HS0.out; omega⟩
  case round =>
    clear hW0 c0 c1 c2 c3 c4 HC0 HB0 HS0
    obtain ⟨k, a', c', hk, rfl, rfl, HO, HC, HP, HB, HW⟩ := hrel
    obtain ⟨⟨c0, c1, c2, c3, c4⟩, f⟩ := HC.out
    clear f
    by_cases hlt : k < n
    · have hkl : k < xs.length := by rw [HX.out]; exact hlt
      obtain ⟨b0, o0, rfl, g1⟩ := (HR.out _ HB.out).get hkl
      have hzk := HZ.out _ (mem_getD ByteArray.empty hkl)
      have k0 : (0 : Int) ≤ (k : Int) := by omega
      have k1 : (k : Int) < (n : Int) := by omega
      have HQ1 : Hid (∀ wx, Calls Try.prog 83 #[.string (xs.getD k ByteArray.empty)] wx fun e w' => e = .returned (.int .i64 (tagN (xs.getD k ByteArray.empty))) ∧ w' = wx) := fun wx => l8Tag_c _ wx hzk
      have hHY : Calls Try.prog 84 #[.slice so m d, .int .i64 (tagN (xs.getD k ByteArray.empty))] wr fun e w' => e = .returned (.bool (decide (tagN (xs.getD k ByteArray.empty) ∈ ys))) ∧ w' = wr := l1Has_c so m d _ ys wr HY.out hm (HS.out _ HB.out)
      have hHA : Calls Try.prog 84 #[.slice a' k c', .int .i64 (tagN (xs.getD k ByteArray.empty))] wr fun e w' => e = .returned (.bool (decide (tagN (xs.getD k ByteArray.empty) ∈ (xs.take k).map tagN))) ∧ w' = wr := l1Has_c a' k c' _ _ wr (by rw [List.length_map, List.length_take]; omega) (by omega) HO.out.rd'.2
      have HTS : Hid ((xs.take (k + 1)).map tagN = (xs.take k).map tagN ++ [tagN (xs.getD k ByteArray.empty)]) := by show _ = _; rw [take_snoc ByteArray.empty hkl, List.map_append]; rfl
      have HLN : Hid (((xs.take k).map tagN).length = k) := by show _ = _; rw [List.length_map, List.length_take]; omega
      have hNB : (0 < k ∧ ltS (xs.getD k ByteArray.empty) (xs.getD (k - 1) ByteArray.empty) = true) ∨ ((¬ (0 < k ∧ ltS (xs.getD k ByteArray.empty) (xs.getD (k - 1) ByteArray.empty) = true)) ∧ tagN (xs.getD k ByteArray.empty) ∉ ys) ∨ ((¬ (0 < k ∧ ltS (xs.getD k ByteArray.empty) (xs.getD (k - 1) ByteArray.empty) = true)) ∧ tagN (xs.getD k ByteArray.empty) ∈ ys ∧ tagN (xs.getD k ByteArray.empty) ∈ (xs.take k).map tagN) ∨ ((¬ (0 < k ∧ ltS (xs.getD k ByteArray.empty) (xs.getD (k - 1) ByteArray.empty) = true)) ∧ tagN (xs.getD k ByteArray.empty) ∈ ys ∧ tagN (xs.getD k ByteArray.empty) ∉ (xs.take k).map tagN) := by
        by_cases h1 : 0 < k ∧ ltS (xs.getD k ByteArray.empty) (xs.getD (k - 1) ByteArray.empty) = true
        · exact Or.inl h1
        · by_cases h2 : tagN (xs.getD k ByteArray.empty) ∈ ys
          · by_cases h3 : tagN (xs.getD k ByteArray.empty) ∈ (xs.take k).map tagN
            · exact Or.inr (Or.inr (Or.inl ⟨h1, h2, h3⟩))
            · exact Or.inr (Or.inr (Or.inr ⟨h1, h2, h3⟩))
          · exact Or.inr (Or.inl ⟨h1, h2⟩)
      rcases hNB with ⟨h0, hl⟩ | ⟨hl, h2⟩ | ⟨hl, h2, h3⟩ | ⟨hl, h2, h3⟩
      · have HN : Hid (zb = false) := HF.out k hlt (Or.inl ⟨h0, hl⟩)
        obtain ⟨p, rfl⟩ : ∃ p, k = p + 1 := ⟨k - 1, by omega⟩
        obtain ⟨b1, o1, he, g2⟩ := (HR.out _ HB.out).get (k := p) (by rw [HX.out]; omega)
        simp only [Option.some.injEq, Addr.mk.injEq] at he
        obtain ⟨rfl, rfl, _⟩ := he
        have m0 : (0 : Int) < (p : Int) + 1 := by omega
        have m1 : (0 : Int) ≤ (p : Int) := by omega
        have m2 : (p : Int) < (n : Int) := by omega
        have m3 : (p : Int) + 1 - 1 = (p : Int) := by omega
        have g1' : wr.cell? ⟨b0, o0 + (p + 1), none⟩ = some (.string (xs.getD (p + 1) ByteArray.empty)) := g1
        clear g1
        rw [show p + 1 - 1 = p by omega] at hl
        generalize xs.getD (p + 1) ByteArray.empty = s at g1' HQ1 hHY hHA HTS hl
        generalize xs.getD p ByteArray.empty = y at g2 hl
        generalize tagN s = g at HQ1 hHY hHA HTS
        have ht : (Op.bytesLess y.toList s.toList || y.toList == s.toList) = false := by
          have h1 : Op.bytesLess y.toList s.toList = false := ordS.asym hl
          have h2 : (y.toList == s.toList) = false := by
            rw [beq_eq_false_iff_ne]; intro e
            rw [tl_inj e, ordS.irr] at hl; cases hl
          rw [h1, h2]; rfl
        clear hl hHY hHA hkl hzk
        go_wp2_with (go_at_call 83; refine (HQ1.out _).mono ?_; clear HQ1; rintro e w' ⟨rfl, hw⟩; subst w')
        go_ret
        exact ⟨ret_bool HN.out.symm, HB.out⟩
      · have HN : Hid (zb = false) := HF.out k hlt (Or.inr (Or.inl h2))
        rw [decide_eq_false h2] at hHY
        clear h2
        by_cases hk0 : k = 0
        · have hk0i : ¬ (0 : Int) < (k : Int) := by omega
          generalize xs.getD k ByteArray.empty = s at g1 HQ1 hHY hHA HTS
          generalize tagN s = g at HQ1 hHY hHA HTS
          clear hk0
          clear hl hkl hzk hHA
          go_wp2_with (first | (go_at_call 83; refine (HQ1.out _).mono ?_; clear HQ1; rintro e w' ⟨rfl, hw⟩; subst w') | (go_at_call 84; refine hHY.mono ?_; clear hHY; rintro e w' ⟨rfl, hw⟩; subst w'))
          go_ret
          exact ⟨ret_bool HN.out.symm, HB.out⟩
        · have hl : ltS (xs.getD k ByteArray.empty) (xs.getD (k - 1) ByteArray.empty) = false := by
            cases e : ltS (xs.getD k ByteArray.empty) (xs.getD (k - 1) ByteArray.empty) with
            | false => rfl
            | true => exact absurd ⟨by omega, e⟩ hl
          obtain ⟨p, rfl⟩ : ∃ p, k = p + 1 := ⟨k - 1, by omega⟩
          obtain ⟨b1, o1, he, g2⟩ := (HR.out _ HB.out).get (k := p) (by rw [HX.out]; omega)
          simp only [Option.some.injEq, Addr.mk.injEq] at he
          obtain ⟨rfl, rfl, _⟩ := he
          have m0 : (0 : Int) < (p : Int) + 1 := by omega
          have m1 : (0 : Int) ≤ (p : Int) := by omega
          have m2 : (p : Int) < (n : Int) := by omega
          have m3 : (p : Int) + 1 - 1 = (p : Int) := by omega
          have g1' : wr.cell? ⟨b0, o0 + (p + 1), none⟩ = some (.string (xs.getD (p + 1) ByteArray.empty)) := g1
          clear g1
          rw [show p + 1 - 1 = p by omega] at hl
          clear hk0
          generalize xs.getD (p + 1) ByteArray.empty = s at g1' HQ1 hHY hHA HTS hl
          generalize xs.getD p ByteArray.empty = y at g2 hl
          generalize tagN s = g at HQ1 hHY hHA HTS
          have ht : (Op.bytesLess y.toList s.toList || y.toList == s.toList) = true := by
            cases e : Op.bytesLess y.toList s.toList with
            | true => rfl
            | false => rw [ordS.tot (x := y) (y := s) e hl]; simp
          clear hl hkl hzk hHA
          go_wp2_with (first | (go_at_call 83; refine (HQ1.out _).mono ?_; clear HQ1; rintro e w' ⟨rfl, hw⟩; subst w') | (go_at_call 84; refine hHY.mono ?_; clear hHY; rintro e w' ⟨rfl, hw⟩; subst w'))
          go_ret
          exact ⟨ret_bool HN.out.symm, HB.out⟩
      · have HN : Hid (zb = false) := HF.out k hlt (Or.inr (Or.inr h3))
        rw [decide_eq_true h2] at hHY
        rw [decide_eq_true h3] at hHA
        clear h2 h3
        by_cases hk0 : k = 0
        · have hk0i : ¬ (0 : Int) < (k : Int) := by omega
          generalize xs.getD k ByteArray.empty = s at g1 HQ1 hHY hHA HTS
          generalize tagN s = g at HQ1 hHY hHA HTS
          clear hk0
          clear hl hkl hzk
          go_wp2_with (first | (go_at_call 83; refine (HQ1.out _).mono ?_; clear HQ1; rintro e w' ⟨rfl, hw⟩; subst w') | (go_at_call 84; refine hHY.mono ?_; clear hHY; rintro e w' ⟨rfl, hw⟩; subst w') | (go_at_call 84; refine hHA.mono ?_; clear hHA; rintro e w' ⟨rfl, hw⟩; subst w'))
          go_ret
          exact ⟨ret_bool HN.out.symm, HB.out⟩
        · have hl : ltS (xs.getD k ByteArray.empty) (xs.getD (k - 1) ByteArray.empty) = false := by
            cases e : ltS (xs.getD k ByteArray.empty) (xs.getD (k - 1) ByteArray.empty) with
            | false => rfl
            | true => exact absurd ⟨by omega, e⟩ hl
          obtain ⟨p, rfl⟩ : ∃ p, k = p + 1 := ⟨k - 1, by omega⟩
          obtain ⟨b1, o1, he, g2⟩ := (HR.out _ HB.out).get (k := p) (by rw [HX.out]; omega)
          simp only [Option.some.injEq, Addr.mk.injEq] at he
          obtain ⟨rfl, rfl, _⟩ := he
          have m0 : (0 : Int) < (p : Int) + 1 := by omega
          have m1 : (0 : Int) ≤ (p : Int) := by omega
          have m2 : (p : Int) < (n : Int) := by omega
          have m3 : (p : Int) + 1 - 1 = (p : Int) := by omega
          have g1' : wr.cell? ⟨b0, o0 + (p + 1), none⟩ = some (.string (xs.getD (p + 1) ByteArray.empty)) := g1
          clear g1
          rw [show p + 1 - 1 = p by omega] at hl
          clear hk0
          generalize xs.getD (p + 1) ByteArray.empty = s at g1' HQ1 hHY hHA HTS hl
          generalize xs.getD p ByteArray.empty = y at g2 hl
          generalize tagN s = g at HQ1 hHY hHA HTS
          have ht : (Op.bytesLess y.toList s.toList || y.toList == s.toList) = true := by
            cases e : Op.bytesLess y.toList s.toList with
            | true => rfl
            | false => rw [ordS.tot (x := y) (y := s) e hl]; simp
          clear hl hkl hzk
          go_wp2_with (first | (go_at_call 83; refine (HQ1.out _).mono ?_; clear HQ1; rintro e w' ⟨rfl, hw⟩; subst w') | (go_at_call 84; refine hHY.mono ?_; clear hHY; rintro e w' ⟨rfl, hw⟩; subst w') | (go_at_call 84; refine hHA.mono ?_; clear hHA; rintro e w' ⟨rfl, hw⟩; subst w'))
          go_ret
          exact ⟨ret_bool HN.out.symm, HB.out⟩
      · have HP2 : Hid (∀ j, j < k + 1 → ¬ badAt xs ys j) := fun j hj => by
          by_cases e : j = k
          · subst e; exact fun h => by rcases h with h | h | h; exact hl h; exact h h2; exact h3 h
          · exact HP.out j (by omega)
        rw [decide_eq_true h2] at hHY
        rw [decide_eq_false h3] at hHA
        clear h2 h3
        by_cases hk0 : k = 0
        · have hk0i : ¬ (0 : Int) < (k : Int) := by omega
          generalize xs.getD k ByteArray.empty = s at g1 HQ1 hHY hHA HTS
          generalize tagN s = g at HQ1 hHY hHA HTS
          clear hk0
          clear hl hkl hzk
          have hown : wr.ownsRow (w.heap.size + 1) 3 1 (.slice a' k c') k (cellsI ((xs.take k).map tagN)) := by have h := HO.out; unfold Own at h; rw [HLN.out] at h; exact h
          have hob : ∀ k', (Value.slice a' k c').ownBlock = some k' → w.heap.size + 1 ≤ k' := own_block_ge HO.out
          go_wp2_with (first | (go_at_call 83; refine (HQ1.out _).mono ?_; clear HQ1; rintro e w' ⟨rfl, hw⟩; subst w') | (go_at_call 84; refine hHY.mono ?_; clear hHY; rintro e w' ⟨rfl, hw⟩; subst w') | (go_at_call 84; refine hHA.mono ?_; clear hHA; rintro e w' ⟨rfl, hw⟩; subst w') | (at_builtin; refine wpList_append_own _ rfl _ _ 30 rfl (w.heap.size + 1) 3 i0 (.int .i64 0) 1 8 Try.underlying30 hi hz0 hz1 hz2 rfl (by decide) _ _ _ rfl (hown.alloc _) ⟨wr.heap.size, 0, none⟩ 1 1 [.int .i64 g] rfl rfl (cell_new1 _ _ _) (ints_oneCell .i64 [g]) (by unfold maxLen; omega) (by omega) (by have := HW.out; simp; omega) ?_; intro v' w2 hown' hgrow _; have HO' : Hid (Own w2 (w.heap.size + 1) v' ((xs.take k).map tagN ++ [g])) := own_push (w := wr) (v := .slice a' k c') (by rw [HLN.out]; exact hown'); have HB' : Hid (Below w.heap.size w w2) := (HB.out.alloc HB.out.size _).grown hgrow (by have := HB.out.size; simp; omega) (fun k' e => by have := hob k' e; omega); have HC' : Hid (C5 w2 w.heap.size (.slice (some ⟨b0, o0, none⟩) n c) a b t (.slice so m d)) := (HC.out.later (balloc _ _)).grown hgrow (fun e => by have := hob _ e.symm; omega); have HW' : Hid (w.heap.size + 1 ≤ w2.heap.size) := (by show _ ≤ _; have := HW.out; have h := hgrow.size; simp at h; omega); clear hown' hgrow))
          rw [← HTS.out] at HO'
          obtain ⟨a2, c2', hv2⟩ := HO'.out.shape
          rw [show ((xs.take (k + 1)).map tagN).length = k + 1 by rw [HTS.out, List.length_append, HLN.out]; rfl] at hv2
          subst hv2
          go_roundw
          case rel => exact ⟨k + 1, a2, c2', by omega, by go_num, rfl, HO', HC', HP2, HB', HW'⟩
          case measure => simp [intOf]; omega
        · have hl : ltS (xs.getD k ByteArray.empty) (xs.getD (k - 1) ByteArray.empty) = false := by
            cases e : ltS (xs.getD k ByteArray.empty) (xs.getD (k - 1) ByteArray.empty) with
            | false => rfl
            | true => exact absurd ⟨by omega, e⟩ hl
          obtain ⟨p, rfl⟩ : ∃ p, k = p + 1 := ⟨k - 1, by omega⟩
          obtain ⟨b1, o1, he, g2⟩ := (HR.out _ HB.out).get (k := p) (by rw [HX.out]; omega)
          simp only [Option.some.injEq, Addr.mk.injEq] at he
          obtain ⟨rfl, rfl, _⟩ := he
          have m0 : (0 : Int) < (p : Int) + 1 := by omega
          have m1 : (0 : Int) ≤ (p : Int) := by omega
          have m2 : (p : Int) < (n : Int) := by omega
          have m3 : (p : Int) + 1 - 1 = (p : Int) := by omega
          have g1' : wr.cell? ⟨b0, o0 + (p + 1), none⟩ = some (.string (xs.getD (p + 1) ByteArray.empty)) := g1
          clear g1
          rw [show p + 1 - 1 = p by omega] at hl
          clear hk0
          generalize xs.getD (p + 1) ByteArray.empty = s at g1' HQ1 hHY hHA HTS hl
          generalize xs.getD p ByteArray.empty = y at g2 hl
          generalize tagN s = g at HQ1 hHY hHA HTS
          have ht : (Op.bytesLess y.toList s.toList || y.toList == s.toList) = true := by
            cases e : Op.bytesLess y.toList s.toList with
            | true => rfl
            | false => rw [ordS.tot (x := y) (y := s) e hl]; simp
          clear hl hkl hzk
          have hown : wr.ownsRow (w.heap.size + 1) 3 1 (.slice a' (p + 1) c') (p + 1) (cellsI ((xs.take (p + 1)).map tagN)) := by have h := HO.out; unfold Own at h; rw [HLN.out] at h; exact h
          have hob : ∀ k', (Value.slice a' (p + 1) c').ownBlock = some k' → w.heap.size + 1 ≤ k' := own_block_ge HO.out
          go_wp2_with (first | (go_at_call 83; refine (HQ1.out _).mono ?_; clear HQ1; rintro e w' ⟨rfl, hw⟩; subst w') | (go_at_call 84; refine hHY.mono ?_; clear hHY; rintro e w' ⟨rfl, hw⟩; subst w') | (go_at_call 84; refine hHA.mono ?_; clear hHA; rintro e w' ⟨rfl, hw⟩; subst w') | (at_builtin; refine wpList_append_own _ rfl _ _ 30 rfl (w.heap.size + 1) 3 i0 (.int .i64 0) 1 8 Try.underlying30 hi hz0 hz1 hz2 rfl (by decide) _ _ _ rfl (hown.alloc _) ⟨wr.heap.size, 0, none⟩ 1 1 [.int .i64 g] rfl rfl (cell_new1 _ _ _) (ints_oneCell .i64 [g]) (by unfold maxLen; omega) (by omega) (by have := HW.out; simp; omega) ?_; intro v' w2 hown' hgrow _; have HO' : Hid (Own w2 (w.heap.size + 1) v' ((xs.take (p + 1)).map tagN ++ [g])) := own_push (w := wr) (v := .slice a' (p + 1) c') (by rw [HLN.out]; exact hown'); have HB' : Hid (Below w.heap.size w w2) := (HB.out.alloc HB.out.size _).grown hgrow (by have := HB.out.size; simp; omega) (fun k' e => by have := hob k' e; omega); have HC' : Hid (C5 w2 w.heap.size (.slice (some ⟨b0, o0, none⟩) n c) a b t (.slice so m d)) := (HC.out.later (balloc _ _)).grown hgrow (fun e => by have := hob _ e.symm; omega); have HW' : Hid (w.heap.size + 1 ≤ w2.heap.size) := (by show _ ≤ _; have := HW.out; have h := hgrow.size; simp at h; omega); clear hown' hgrow))
          rw [← HTS.out] at HO'
          obtain ⟨a2, c2', hv2⟩ := HO'.out.shape
          rw [show ((xs.take ((p + 1) + 1)).map tagN).length = (p + 1) + 1 by rw [HTS.out, List.length_append, HLN.out]; rfl] at hv2
          subst hv2
          go_roundw
          case rel => exact ⟨(p + 1) + 1, a2, c2', by omega, by go_num, rfl, HO', HC', HP2, HB', HW'⟩
          case measure => simp [intOf]; omega
    · obtain rfl : k = n := by omega
      have HV := HE.out HP.out
      unfold restS at HV
      have HG : Hid (zb = (poolB xs && (decide (1 ≤ a ∧ a ≤ 12) && (decide (1 ≤ b ∧ b ≤ 10) && (decide (0 ≤ t ∧ t ≤ 10) && (decide (0 < k ∨ t = 0) && (risIn ys && decide (m ≤ 100)))))))) := by
        show _ = _
        rw [HV, HY.out]
        have e : decide (xs ≠ [] ∨ t = 0) = decide (0 < k ∨ t = 0) := decide_eq_decide.2 (by rw [← HX.out, List.length_pos_iff])
        show (poolB xs && (decide (1 ≤ a ∧ a ≤ 12) && (decide (1 ≤ b ∧ b ≤ 10) && (decide (0 ≤ t ∧ t ≤ 10) && (decide (xs ≠ [] ∨ t = 0) && (risIn ys && decide (m ≤ 100))))))) = _
        rw [e]
      clear HV HE HF
      have q1 := l8Pool_c po k c xs wr HX.out (by omega) (HR.out _ HB.out) HZ.out
      have q2 := l1In_c a 1 12 wr
      have q3 := l1In_c b 1 10 wr
      have q4 := l1In_c t 0 10 wr
      have q6 := l1Rising_c so m d ys wr HY.out hm (HS.out _ HB.out)
      cases e0 : poolB xs with
      | false =>
        have HN : Hid (zb = false) := by show _ = _; rw [HG.out]; simp [e0]
        rw [e0] at q1
        clear q2
        clear q3
        clear q4
        clear q6
        go_wp2_with (first | (go_at_call 58; refine q1.mono ?_; clear q1; rintro e w' ⟨rfl, hw⟩; subst w'))
        go_ret
        exact ⟨ret_bool (by first | exact HN.out.symm | (rw [HN.out]; exact decide_eq_false (by omega)) | (rw [HN.out]; exact decide_eq_true (by omega))), HB.out⟩
      | true =>
        cases e1 : decide (1 ≤ a ∧ a ≤ 12) with
        | false =>
          have HN : Hid (zb = false) := by show _ = _; rw [HG.out]; simp [e0, e1]
          rw [e0] at q1
          rw [e1] at q2
          clear q3
          clear q4
          clear q6
          go_wp2_with (first | (go_at_call 58; refine q1.mono ?_; clear q1; rintro e w' ⟨rfl, hw⟩; subst w') | (go_at_call 85; refine q2.mono ?_; clear q2; rintro e w' ⟨rfl, hw⟩; subst w'))
          go_ret
          exact ⟨ret_bool (by first | exact HN.out.symm | (rw [HN.out]; exact decide_eq_false (by omega)) | (rw [HN.out]; exact decide_eq_true (by omega))), HB.out⟩
        | true =>
          cases e2 : decide (1 ≤ b ∧ b ≤ 10) with
          | false =>
            have HN : Hid (zb = false) := by show _ = _; rw [HG.out]; simp [e0, e1, e2]
            rw [e0] at q1
            rw [e1] at q2
            rw [e2] at q3
            clear q4
            clear q6
            go_wp2_with (first | (go_at_call 58; refine q1.mono ?_; clear q1; rintro e w' ⟨rfl, hw⟩; subst w') | (go_at_call 85; refine q2.mono ?_; clear q2; rintro e w' ⟨rfl, hw⟩; subst w') | (go_at_call 85; refine q3.mono ?_; clear q3; rintro e w' ⟨rfl, hw⟩; subst w'))
            go_ret
            exact ⟨ret_bool (by first | exact HN.out.symm | (rw [HN.out]; exact decide_eq_false (by omega)) | (rw [HN.out]; exact decide_eq_true (by omega))), HB.out⟩
          | true =>
            cases e3 : decide (0 ≤ t ∧ t ≤ 10) with
            | false =>
              have HN : Hid (zb = false) := by show _ = _; rw [HG.out]; simp [e0, e1, e2, e3]
              rw [e0] at q1
              rw [e1] at q2
              rw [e2] at q3
              rw [e3] at q4
              clear q6
              go_wp2_with (first | (go_at_call 58; refine q1.mono ?_; clear q1; rintro e w' ⟨rfl, hw⟩; subst w') | (go_at_call 85; refine q2.mono ?_; clear q2; rintro e w' ⟨rfl, hw⟩; subst w') | (go_at_call 85; refine q3.mono ?_; clear q3; rintro e w' ⟨rfl, hw⟩; subst w') | (go_at_call 85; refine q4.mono ?_; clear q4; rintro e w' ⟨rfl, hw⟩; subst w'))
              go_ret
              exact ⟨ret_bool (by first | exact HN.out.symm | (rw [HN.out]; exact decide_eq_false (by omega)) | (rw [HN.out]; exact decide_eq_true (by omega))), HB.out⟩
            | true =>
              by_cases e4 : 0 < k ∨ t = 0
              · skip
                rw [decide_eq_true e4] at HG
                cases e5 : risIn ys with
                | false =>
                  have HN : Hid (zb = false) := by show _ = _; rw [HG.out]; simp [e0, e1, e2, e3, e5]
                  rw [e0] at q1
                  rw [e1] at q2
                  rw [e2] at q3
                  rw [e3] at q4
                  rw [e5] at q6
                  by_cases hk1 : 0 < k
                  · have hk2 : (0 : Int) < (k : Int) := by omega
                    clear e4 HG
                    go_wp2_with (first | (go_at_call 58; refine q1.mono ?_; clear q1; rintro e w' ⟨rfl, hw⟩; subst w') | (go_at_call 85; refine q2.mono ?_; clear q2; rintro e w' ⟨rfl, hw⟩; subst w') | (go_at_call 85; refine q3.mono ?_; clear q3; rintro e w' ⟨rfl, hw⟩; subst w') | (go_at_call 85; refine q4.mono ?_; clear q4; rintro e w' ⟨rfl, hw⟩; subst w') | (go_at_call 86; refine q6.mono ?_; clear q6; rintro e w' ⟨rfl, hw⟩; subst w'))
                    go_ret
                    exact ⟨ret_bool (by first | exact HN.out.symm | (rw [HN.out]; exact decide_eq_false (by omega)) | (rw [HN.out]; exact decide_eq_true (by omega))), HB.out⟩
                  · have hk2 : ¬ (0 : Int) < (k : Int) := by omega
                    obtain rfl : t = 0 := by rcases e4 with h | h; exact absurd h hk1; exact h
                    clear e4 HG
                    go_wp2_with (first | (go_at_call 58; refine q1.mono ?_; clear q1; rintro e w' ⟨rfl, hw⟩; subst w') | (go_at_call 85; refine q2.mono ?_; clear q2; rintro e w' ⟨rfl, hw⟩; subst w') | (go_at_call 85; refine q3.mono ?_; clear q3; rintro e w' ⟨rfl, hw⟩; subst w') | (go_at_call 85; refine q4.mono ?_; clear q4; rintro e w' ⟨rfl, hw⟩; subst w') | (go_at_call 86; refine q6.mono ?_; clear q6; rintro e w' ⟨rfl, hw⟩; subst w'))
                    go_ret
                    exact ⟨ret_bool (by first | exact HN.out.symm | (rw [HN.out]; exact decide_eq_false (by omega)) | (rw [HN.out]; exact decide_eq_true (by omega))), HB.out⟩
                | true =>
                  by_cases e6 : (m : Int) ≤ 100
                  · have HN : Hid (zb = true) := by show _ = _; rw [HG.out]; simp [e0, e1, e2, e3, e5]; omega
                    rw [e0] at q1
                    rw [e1] at q2
                    rw [e2] at q3
                    rw [e3] at q4
                    rw [e5] at q6
                    by_cases hk1 : 0 < k
                    · have hk2 : (0 : Int) < (k : Int) := by omega
                      clear e4 HG
                      go_wp2_with (first | (go_at_call 58; refine q1.mono ?_; clear q1; rintro e w' ⟨rfl, hw⟩; subst w') | (go_at_call 85; refine q2.mono ?_; clear q2; rintro e w' ⟨rfl, hw⟩; subst w') | (go_at_call 85; refine q3.mono ?_; clear q3; rintro e w' ⟨rfl, hw⟩; subst w') | (go_at_call 85; refine q4.mono ?_; clear q4; rintro e w' ⟨rfl, hw⟩; subst w') | (go_at_call 86; refine q6.mono ?_; clear q6; rintro e w' ⟨rfl, hw⟩; subst w'))
                      go_ret
                      exact ⟨ret_bool (by first | exact HN.out.symm | (rw [HN.out]; exact decide_eq_false (by omega)) | (rw [HN.out]; exact decide_eq_true (by omega))), HB.out⟩
                    · have hk2 : ¬ (0 : Int) < (k : Int) := by omega
                      obtain rfl : t = 0 := by rcases e4 with h | h; exact absurd h hk1; exact h
                      clear e4 HG
                      go_wp2_with (first | (go_at_call 58; refine q1.mono ?_; clear q1; rintro e w' ⟨rfl, hw⟩; subst w') | (go_at_call 85; refine q2.mono ?_; clear q2; rintro e w' ⟨rfl, hw⟩; subst w') | (go_at_call 85; refine q3.mono ?_; clear q3; rintro e w' ⟨rfl, hw⟩; subst w') | (go_at_call 85; refine q4.mono ?_; clear q4; rintro e w' ⟨rfl, hw⟩; subst w') | (go_at_call 86; refine q6.mono ?_; clear q6; rintro e w' ⟨rfl, hw⟩; subst w'))
                      go_ret
                      exact ⟨ret_bool (by first | exact HN.out.symm | (rw [HN.out]; exact decide_eq_false (by omega)) | (rw [HN.out]; exact decide_eq_true (by omega))), HB.out⟩
                  · have HN : Hid (zb = false) := by show _ = _; rw [HG.out]; simp [e0, e1, e2, e3, e5]; omega
                    rw [e0] at q1
                    rw [e1] at q2
                    rw [e2] at q3
                    rw [e3] at q4
                    rw [e5] at q6
                    by_cases hk1 : 0 < k
                    · have hk2 : (0 : Int) < (k : Int) := by omega
                      clear e4 HG
                      go_wp2_with (first | (go_at_call 58; refine q1.mono ?_; clear q1; rintro e w' ⟨rfl, hw⟩; subst w') | (go_at_call 85; refine q2.mono ?_; clear q2; rintro e w' ⟨rfl, hw⟩; subst w') | (go_at_call 85; refine q3.mono ?_; clear q3; rintro e w' ⟨rfl, hw⟩; subst w') | (go_at_call 85; refine q4.mono ?_; clear q4; rintro e w' ⟨rfl, hw⟩; subst w') | (go_at_call 86; refine q6.mono ?_; clear q6; rintro e w' ⟨rfl, hw⟩; subst w'))
                      go_ret
                      exact ⟨ret_bool (by first | exact HN.out.symm | (rw [HN.out]; exact decide_eq_false (by omega)) | (rw [HN.out]; exact decide_eq_true (by omega))), HB.out⟩
                    · have hk2 : ¬ (0 : Int) < (k : Int) := by omega
                      obtain rfl : t = 0 := by rcases e4 with h | h; exact absurd h hk1; exact h
                      clear e4 HG
                      go_wp2_with (first | (go_at_call 58; refine q1.mono ?_; clear q1; rintro e w' ⟨rfl, hw⟩; subst w') | (go_at_call 85; refine q2.mono ?_; clear q2; rintro e w' ⟨rfl, hw⟩; subst w') | (go_at_call 85; refine q3.mono ?_; clear q3; rintro e w' ⟨rfl, hw⟩; subst w') | (go_at_call 85; refine q4.mono ?_; clear q4; rintro e w' ⟨rfl, hw⟩; subst w') | (go_at_call 86; refine q6.mono ?_; clear q6; rintro e w' ⟨rfl, hw⟩; subst w'))
                      go_ret
                      exact ⟨ret_bool (by first | exact HN.out.symm | (rw [HN.out]; exact decide_eq_false (by omega)) | (rw [HN.out]; exact decide_eq_true (by omega))), HB.out⟩
              · rw [decide_eq_false e4] at HG
                have HN : Hid (zb = false) := by show _ = _; rw [HG.out]; simp [e0, e1, e2, e3]
                rw [e0] at q1
                rw [e1] at q2
                rw [e2] at q3
                rw [e3] at q4
                have hk2 : ¬ (0 : Int) < (k : Int) := by omega
                have ht0 : (t == 0) = false := by rw [beq_eq_false_iff_ne]; exact fun h => e4 (Or.inr h)
                clear e4 HG
                clear q6
                go_wp2_with (first | (go_at_call 58; refine q1.mono ?_; clear q1; rintro e w' ⟨rfl, hw⟩; subst w') | (go_at_call 85; refine q2.mono ?_; clear q2; rintro e w' ⟨rfl, hw⟩; subst w') | (go_at_call 85; refine q3.mono ?_; clear q3; rintro e w' ⟨rfl, hw⟩; subst w') | (go_at_call 85; refine q4.mono ?_; clear q4; rintro e w' ⟨rfl, hw⟩; subst w'))
                go_ret
                exact ⟨ret_bool (by first | exact HN.out.symm | (rw [HN.out]; exact decide_eq_false (by omega)) | (rw [HN.out]; exact decide_eq_true (by omega))), HB.out⟩

end Go.Proofs.Ytnppmgnfignbcaa
