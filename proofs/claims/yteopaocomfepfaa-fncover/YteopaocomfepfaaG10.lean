/- Chapter 10: whether a client is good, both sides. -/
import Derived.Test.YteopaocomfepfaaA10
namespace Go.Proofs.Yteopaocomfepfaa
set_option linter.unusedVariables false
set_option maxRecDepth 1000000
set_option linter.unusedSimpArgs false
open Go.RowKit

set_option maxHeartbeats 1000000 in
theorem fewQ_c (ao : Option Addr) (n c : Nat) (xs : List ByteArray) (w : World) (hx : xs.length = n) (hn : n ≤ 17592186044416) (hr : RdS w ao xs) (hs : ∀ s ∈ xs, s.size ≤ 9223372036854775807) :
    Calls Try.prog 72 #[.slice ao n c, .int .i64 5, .func (.func 73) #[] #[]] w fun e w' => e = .returned (.bool (queueB xs)) ∧ w' = w := by
  have HX : Hid (xs.length = n) := hx
  have HR : Hid (RdS w ao xs) := hr
  have HSZ : Hid (∀ s ∈ xs, s.size ≤ 9223372036854775807) := hs
  clear hs
  unfold queueB
  rw [hx]
  clear hx hr
  by_cases h5 : 5 < n
  · have h5' : (5 : Int) < (n : Int) := by omega
    rw [decide_eq_false (show ¬ n ≤ 5 by omega), Bool.false_and]
    go_enter Try.func72, Try.ntmps72
    go_wp2
    go_ret
    exact ⟨rfl, rfl⟩
  · have h5' : ¬ (5 : Int) < (n : Int) := by omega
    rw [decide_eq_true (show n ≤ 5 by omega), Bool.true_and]
    have HF : Hid (∀ k, k < n → sayB (xs.getD k ByteArray.empty) = false → xs.all sayB = false) := fun k hk h => all_out (d := ByteArray.empty) (by rw [HX.out]; exact hk) h
    have HE : Hid ((∀ j, j < n → sayB (xs.getD j ByteArray.empty) = true) → xs.all sayB = true) := fun h => all_end (d := ByteArray.empty) (fun j hj => h j (by rw [HX.out] at hj; exact hj))
    generalize xs.all sayB = zb at HF HE ⊢
    go_enter Try.func72, Try.ntmps72
    go_wp2
    go_loop [15] (fun iv => ∃ (k : Nat), k ≤ n ∧ iv = .int .i64 k ∧ Hid (∀ j, j < k → sayB (xs.getD j ByteArray.empty) = true)) (fun iv => n - (intOf iv).toNat)
    case atStart => exact ⟨0, Nat.zero_le _, rfl, fun j h => absurd h (by omega)⟩
    case round =>
      obtain ⟨k, hk, rfl, HS⟩ := hrel
      by_cases hlt : k < n
      · have hkl : k < xs.length := by rw [HX.out]; exact hlt
        have hv : (xs.getD k ByteArray.empty).size ≤ 9223372036854775807 := HSZ.out _ (mem_getD _ hkl)
        obtain ⟨b, o, rfl, g1⟩ := HR.out.get hkl
        cases gm : sayB (xs.getD k ByteArray.empty)
        · have HN : Hid (zb = false) := HF.out k hlt gm
          generalize xs.getD k ByteArray.empty = v at g1 gm hv
          have q := fun wx => isSaying_c v wx hv
          rw [gm] at q
          clear hkl gm
          go_wp2_with fail
          refine (q _).mono ?_
          clear q
          rintro e w' ⟨rfl, hw⟩
          subst w'
          go_wp2
          go_ret
          exact ⟨ret_bool HN.out.symm, rfl⟩
        · have HS2 : Hid (∀ j, j < k + 1 → sayB (xs.getD j ByteArray.empty) = true) := fun j hj => by
            by_cases e : j = k
            · rw [e]; exact gm
            · exact HS.out j (by omega)
          generalize xs.getD k ByteArray.empty = v at g1 gm hv
          have q := fun wx => isSaying_c v wx hv
          rw [gm] at q
          clear hkl gm
          go_wp2_with fail
          refine (q _).mono ?_
          clear q
          rintro e w' ⟨rfl, hw⟩
          subst w'
          go_wp2
          go_round
          case rel => exact ⟨k + 1, by omega, by go_num, HS2⟩
          case measure => simp [intOf]; omega
      · obtain rfl : k = n := by omega
        have HM : Hid (zb = true) := HE.out HS.out
        go_wp2
        go_ret
        exact ⟨ret_bool HM.out.symm, rfl⟩

/-- Whether the numbers of a client are good. -/
def numsB (t y : Int) : Bool := decide (0 ≤ t ∧ t ≤ 1000) && waysB y
theorem goodC_and (q : List ByteArray) (t y : Int) : goodC q t y = (queueB q && numsB t y) := rfl

set_option maxHeartbeats 4000000 in
theorem implGood_c (po : Option Addr) (n c : Nat) (t y : Int) (xs : List ByteArray) (w : World) (hx : xs.length = n) (hn : n ≤ 17592186044416) (hr : RdS w po xs) (hz : ∀ s ∈ xs, s.size ≤ 9223372036854775807) :
    Calls Try.prog 27 #[.agg #[.slice po n c, .int .i64 t, .int .i64 y]] w fun e w' => e = .returned (.bool (goodC xs t y)) ∧ Below w.heap.size w w' := by
  have HG : Hid (goodC xs t y = (queueB xs && (decide (0 ≤ t ∧ t ≤ 1000) && waysB y))) := rfl
  generalize goodC xs t y = zb at HG ⊢
  have hC0 := x3_new w (.slice po n c) (.int .i64 t) (.int .i64 y) 45 w.heap.size rfl
  have hB0 : Below w.heap.size w (w.alloc (.cells #[.slice po n c, .int .i64 t, .int .i64 y] 45)) := balloc w _
  obtain ⟨W0, hW0⟩ : ∃ W0, w.alloc (.cells #[.slice po n c, .int .i64 t, .int .i64 y] 45) = W0 := ⟨_, rfl⟩
  rw [hW0] at hC0 hB0
  have q0 := fewQ_c po n c xs W0 hx hn (hr.later hB0) hz
  have q1 := isWays_c y W0
  have HB0 : Hid (Below w.heap.size w W0) := hB0
  obtain ⟨⟨c0, c1, c2⟩, f⟩ := hC0
  clear hr hx hz hB0 f
  cases e0 : queueB xs with
  | false =>
    have HN : Hid (zb = false) := by show _ = _; rw [HG.out]; simp [e0]
    rw [e0] at q0
    clear q1
    go_enter Try.func27, Try.ntmps27
    go_wp2_with fail
    refine q0.mono ?_
    clear q0
    rintro e w1 ⟨rfl, hw⟩
    subst w1
    clear hW0
    go_wp2
    go_ret
    exact ⟨ret_bool HN.out.symm, HB0.out⟩
  | true =>
    rw [e0] at q0
    by_cases h1 : 0 ≤ t
    · by_cases h2 : t ≤ 1000
      · have HN : Hid (zb = waysB y) := by show _ = _; rw [HG.out, e0, decide_eq_true ⟨h1, h2⟩]; rfl
        generalize waysB y = wb at q1 HN
        go_enter Try.func27, Try.ntmps27
        go_wp2_with fail
        refine q0.mono ?_
        clear q0
        rintro e w1 ⟨rfl, hw⟩
        subst w1
        clear hW0
        go_wp2_with fail
        refine q1.mono ?_
        clear q1
        rintro e w1 ⟨rfl, hw⟩
        subst w1
        go_wp2
        go_ret
        exact ⟨ret_bool HN.out.symm, HB0.out⟩
      · have HN : Hid (zb = false) := by show _ = _; rw [HG.out, decide_eq_false (by omega)]; simp
        clear q1
        go_enter Try.func27, Try.ntmps27
        go_wp2_with fail
        refine q0.mono ?_
        clear q0
        rintro e w1 ⟨rfl, hw⟩
        subst w1
        clear hW0
        go_wp2
        go_ret
        exact ⟨ret_bool HN.out.symm, HB0.out⟩
    · have HN : Hid (zb = false) := by show _ = _; rw [HG.out, decide_eq_false (by omega)]; simp
      clear q1
      go_enter Try.func27, Try.ntmps27
      go_wp2_with fail
      refine q0.mono ?_
      clear q0
      rintro e w1 ⟨rfl, hw⟩
      subst w1
      clear hW0
      go_wp2
      go_ret
      exact ⟨ret_bool HN.out.symm, HB0.out⟩

set_option maxHeartbeats 4000000 in
theorem specGood_c (po : Option Addr) (n c : Nat) (t y : Int) (xs : List ByteArray) (w : World) (hx : xs.length = n) (hn : n ≤ 17592186044416) (hr : RdS w po xs) (hz : ∀ s ∈ xs, s.size ≤ 9223372036854775807) :
    Calls Try.prog 28 #[.agg #[.slice po n c, .int .i64 t, .int .i64 y]] w fun e w' => e = .returned (.bool (goodC xs t y)) ∧ Below w.heap.size w w' := by
  have HX : Hid (xs.length = n) := hx
  have HSZ : Hid (∀ s ∈ xs, s.size ≤ 9223372036854775807) := hz
  have HF : Hid (∀ k, k < n → sayB (xs.getD k ByteArray.empty) = false → xs.all sayB = false) := fun k hk h => all_out (d := ByteArray.empty) (by rw [HX.out]; exact hk) h
  have HE : Hid ((∀ j, j < n → sayB (xs.getD j ByteArray.empty) = true) → xs.all sayB = true) := fun h => all_end (d := ByteArray.empty) (fun j hj => h j (by rw [HX.out] at hj; exact hj))
  have HG : Hid (goodC xs t y = ((decide (n ≤ 5) && xs.all sayB) && (decide (0 ≤ t ∧ t ≤ 1000) && waysB y))) := by show _ = _; unfold goodC queueB; rw [hx]
  generalize goodC xs t y = zb at HG ⊢
  generalize xs.all sayB = ab at HF HE HG
  have hC0 := x3_new w (.slice po n c) (.int .i64 t) (.int .i64 y) 45 w.heap.size rfl
  have hB0 : Below w.heap.size w (w.alloc (.cells #[.slice po n c, .int .i64 t, .int .i64 y] 45)) := balloc w _
  obtain ⟨W0, hW0⟩ : ∃ W0, w.alloc (.cells #[.slice po n c, .int .i64 t, .int .i64 y] 45) = W0 := ⟨_, rfl⟩
  rw [hW0] at hC0 hB0
  have HR : Hid (RdS W0 po xs) := hr.later hB0
  have HB0 : Hid (Below w.heap.size w W0) := hB0
  obtain ⟨⟨c0, c1, c2⟩, f⟩ := hC0
  clear hr hx hz hB0 f
  go_enter Try.func28, Try.ntmps28
  go_wp2
  clear hW0
  go_loop [8] (fun iv => ∃ (k : Nat), k ≤ n ∧ iv = .int .i64 k ∧ Hid (∀ j, j < k → sayB (xs.getD j ByteArray.empty) = true)) (fun iv => n - (intOf iv).toNat)
  case atStart => exact ⟨0, Nat.zero_le _, rfl, fun j h => absurd h (by omega)⟩
  case round =>
    obtain ⟨k, hk, rfl, HS⟩ := hrel
    by_cases hlt : k < n
    · have hkl : k < xs.length := by rw [HX.out]; exact hlt
      have hv : (xs.getD k ByteArray.empty).size ≤ 9223372036854775807 := HSZ.out _ (mem_getD _ hkl)
      obtain ⟨b, o, rfl, g1⟩ := HR.out.get hkl
      cases gm : sayB (xs.getD k ByteArray.empty)
      · have HN : Hid (zb = false) := by show _ = _; rw [HG.out, HF.out k hlt gm]; simp
        generalize xs.getD k ByteArray.empty = v at g1 gm hv
        have q := fun wx => l10Text_c v wx hv
        rw [gm] at q
        clear hkl gm
        go_wp2_with fail
        refine (q _).mono ?_
        clear q
        rintro e w' ⟨rfl, hw⟩
        subst w'
        go_wp2
        go_ret
        exact ⟨ret_bool HN.out.symm, HB0.out⟩
      · have HS2 : Hid (∀ j, j < k + 1 → sayB (xs.getD j ByteArray.empty) = true) := fun j hj => by
          by_cases e : j = k
          · rw [e]; exact gm
          · exact HS.out j (by omega)
        generalize xs.getD k ByteArray.empty = v at g1 gm hv
        have q := fun wx => l10Text_c v wx hv
        rw [gm] at q
        clear hkl gm
        go_wp2_with fail
        refine (q _).mono ?_
        clear q
        rintro e w' ⟨rfl, hw⟩
        subst w'
        go_wp2
        go_round
        case rel => exact ⟨k + 1, by omega, by go_num, HS2⟩
        case measure => simp [intOf]; omega
    · obtain rfl : k = n := by omega
      have HA : Hid (ab = true) := HE.out HS.out
      have q0 := l1In_c t 0 1000 W0
      have q1 := l1In_c y 1 4 W0
      by_cases h5 : (k : Int) ≤ 5
      · cases e1 : decide (0 ≤ t ∧ t ≤ 1000) with
        | false =>
          have HN : Hid (zb = false) := by show _ = _; rw [HG.out, e1]; simp
          rw [e1] at q0
          clear q1 e1
          go_wp2_with fail
          refine q0.mono ?_
          clear q0
          rintro e w' ⟨rfl, hw⟩
          subst w'
          go_wp2
          go_ret
          exact ⟨ret_bool HN.out.symm, HB0.out⟩
        | true =>
          have HN : Hid (zb = decide (1 ≤ y ∧ y ≤ 4)) := by show _ = _; rw [HG.out, HA.out, e1, decide_eq_true (show k ≤ 5 by omega)]; rfl
          rw [e1] at q0
          generalize decide (1 ≤ y ∧ y ≤ 4) = wb at q1 HN
          clear e1
          go_wp2_with fail
          refine q0.mono ?_
          clear q0
          rintro e w' ⟨rfl, hw⟩
          subst w'
          go_wp2_with fail
          refine q1.mono ?_
          clear q1
          rintro e w' ⟨rfl, hw⟩
          subst w'
          go_wp2
          go_ret
          exact ⟨ret_bool HN.out.symm, HB0.out⟩
      · have HN : Hid (zb = false) := by show _ = _; rw [HG.out, decide_eq_false (show ¬ k ≤ 5 by omega)]; simp
        clear q0 q1
        go_wp2
        go_ret
        exact ⟨ret_bool HN.out.symm, HB0.out⟩

end Go.Proofs.Yteopaocomfepfaa
