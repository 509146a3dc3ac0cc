/- Chapter 10: WaitFor, both sides. -/
import Derived.Test.YteopaocomfepfaaLH10
namespace Go.Proofs.Yteopaocomfepfaa
set_option linter.unusedVariables false
set_option maxRecDepth 1000000
set_option linter.unusedSimpArgs false
open Go.RowKit

/-- Where the library's Index finds a text. -/
def idxV (s : ByteArray) (xs : List ByteArray) : Int := if waitL s xs < xs.length then (waitL s xs : Int) else -1
theorem eq_tl {a b : ByteArray} (h : a = b) : (a.toList == b.toList) = true := by rw [h]; simp
theorem ne_tl {a b : ByteArray} (h : ¬ a = b) : (a.toList == b.toList) = false := by rw [beq_eq_false_iff_ne]; exact fun e => h (tl_inj e)

set_option maxHeartbeats 2000000 in
theorem indexS_c (ao : Option Addr) (n c : Nat) (s : ByteArray) (xs : List ByteArray) (w : World) (hx : xs.length = n) (hn : n ≤ 17592186044416) (hr : RdS w ao xs) :
    Calls Try.prog 71 #[.slice ao n c, .string s] w fun e w' => e = .returned (.int .i64 (idxV s xs)) ∧ Below w.heap.size w w' := by
  have HX : Hid (xs.length = n) := hx
  have HR : Hid (RdS w ao xs) := hr
  obtain ⟨z, hz⟩ : ∃ z, idxV s xs = z := ⟨_, rfl⟩
  rw [hz]
  have HV : Hid (idxV s xs = z) := hz
  clear hx hr hz
  go_enter Try.func71, Try.ntmps71
  go_wp2
  go_loopw [8] (fun iv wr => ∃ k : Nat, k ≤ n ∧ iv = .int .i64 k ∧ Hid (∀ j, j < k → xs.getD j ByteArray.empty ≠ s) ∧ Hid (Below w.heap.size w wr)) (fun iv _ => n - (intOf iv).toNat)
  case atStart => exact ⟨0, Nat.zero_le _, rfl, fun j h => absurd h (by omega), Below.refl _ _⟩
  case round =>
    obtain ⟨k, hk, rfl, HN, HB⟩ := hrel
    by_cases hlt : k < n
    · have hkl : k < xs.length := by rw [HX.out]; exact hlt
      obtain ⟨b, o, rfl, g1⟩ := (HR.out.later HB.out).get hkl
      have k0 : (0 : Int) ≤ (k : Int) := by omega
      have k1 : (k : Int) < (n : Int) := by omega
      by_cases he : xs.getD k ByteArray.empty = s
      · have HW : Hid (z = (k : Int)) := by
          show _ = _
          have h := waitL_at hkl he HN.out
          rw [← HV.out]; unfold idxV; rw [h, if_pos hkl]
        have e1 := eq_tl he.symm
        generalize xs.getD k ByteArray.empty = x at g1 e1
        clear he hkl
        go_wp2
        go_ret
        exact ⟨ret_int HW.out.symm, HB.out⟩
      · have HN2 : Hid (∀ j, j < k + 1 → xs.getD j ByteArray.empty ≠ s) := fun j hj => by
          by_cases e : j = k
          · rw [e]; exact he
          · exact HN.out j (by omega)
        have e1 := ne_tl (fun e => he e.symm)
        generalize xs.getD k ByteArray.empty = x at g1 e1
        clear he hkl
        go_wp2
        go_roundw
        case rel => exact ⟨k + 1, by omega, by go_num, HN2, HB.out⟩
        case measure => simp [intOf]; omega
    · have HW : Hid (z = -1) := by
        show _ = _
        have h := waitL_none (s := s) (l := xs) (fun j hj => HN.out j (by rw [HX.out] at hj; omega))
        rw [← HV.out]; unfold idxV; rw [h, if_neg (Nat.lt_irrefl _)]
      go_wp2
      go_ret
      exact ⟨ret_int HW.out.symm, HB.out⟩

theorem waitF_bad {q : List ByteArray} {t y : Int} {s : ByteArray} (h : goodC q t y = false) : waitF q t y s = (0, false) := by unfold waitF; rw [if_neg (by rw [h]; simp)]
theorem waitF_good {q : List ByteArray} {t y : Int} {s : ByteArray} (h : goodC q t y = true) : waitF q t y s = (idxV s q + 1, decide (0 ≤ idxV s q)) := by
  unfold waitF idxV
  by_cases h1 : waitL s q < q.length
  · rw [if_pos ⟨h, h1⟩, if_pos h1]; simp
  · rw [if_neg (fun e => h1 e.2), if_neg h1]; rfl
theorem idxV_bd (s : ByteArray) (q : List ByteArray) : -1 ≤ idxV s q ∧ idxV s q < q.length := by
  unfold idxV; split
  · omega
  · constructor <;> omega

set_option maxHeartbeats 2000000 in
theorem implWait_bad (ao : Option Addr) (n c : Nat) (t y : Int) (s : ByteArray) (xs : List ByteArray) (w : World) (hx : xs.length = n) (hn : n ≤ 17592186044416) (hr : RdS w ao xs) (hz : ∀ s ∈ xs, s.size ≤ 9223372036854775807) (hg : goodC xs t y = false) :
    Calls Try.prog 25 #[.agg #[.slice ao n c, .int .i64 t, .int .i64 y], .string s] w fun e w' => e = .returned (.tuple #[.int .i64 0, .bool false]) ∧ Below w.heap.size w w' := by
  have hC0 := x3_new w (.slice ao n c) (.int .i64 t) (.int .i64 y) 45 (w.heap.size) (by simp)
  have hB_W0 : Below w.heap.size w (w.alloc (.cells #[.slice ao n c, .int .i64 t, .int .i64 y] 45)) := balloc w (.cells #[.slice ao n c, .int .i64 t, .int .i64 y] 45)
  have hS_W0 : ((w.alloc (.cells #[.slice ao n c, .int .i64 t, .int .i64 y] 45))).heap.size = w.heap.size + 1 := by simp
  obtain ⟨W0, hW0⟩ : ∃ V, (w.alloc (.cells #[.slice ao n c, .int .i64 t, .int .i64 y] 45)) = V := ⟨_, rfl⟩
  rw [hW0] at hC0 hB_W0 hS_W0
  have HC0 : Hid (X3 W0 (w.heap.size) (.slice ao n c) (.int .i64 t) (.int .i64 y)) := hC0
  have HB_W0 : Hid (Below w.heap.size w W0) := hB_W0
  have HS_W0 : Hid (W0.heap.size = w.heap.size + 1) := hS_W0
  clear hB_W0 hS_W0 hC0
  have hr0 := hr.later HB_W0.out
  have q0 := implGood_c ao n c t y xs W0 hx hn hr0 hz
  rw [hg] at q0
  obtain ⟨⟨c0, c1, c2⟩, cf⟩ := id (HC0.out)
  clear cf
  go_enter Try.func25, Try.ntmps25
  go_wp2_with fail
  refine q0.mono ?_
  clear q0 c0 c1 c2
  rintro e w1 ⟨rfl, hb⟩
  have HB1 : Hid (Below w.heap.size w w1) := HB_W0.out.trans (hb.mono HB_W0.out.size)
  have HR1 : Hid (RdS w1 ao xs) := hr0.later hb
  obtain ⟨⟨c0, c1, c2⟩, cf⟩ := id (HC0.out.later hb)
  clear cf
  clear hb hr0 hW0 hr
  go_wp2
  refine bodyPost_ret (v := .tuple #[.int .i64 0, .bool false]) (by simp [results, Try.results25, go_sem]; try rfl) rfl ?_
  exact ⟨rfl, HB1.out⟩

set_option maxHeartbeats 4000000 in
theorem implWait_good (ao : Option Addr) (n c : Nat) (t y : Int) (s : ByteArray) (xs : List ByteArray) (w : World) (hx : xs.length = n) (hn : n ≤ 17592186044416) (hr : RdS w ao xs) (hz : ∀ s ∈ xs, s.size ≤ 9223372036854775807) (hg : goodC xs t y = true) :
    Calls Try.prog 25 #[.agg #[.slice ao n c, .int .i64 t, .int .i64 y], .string s] w fun e w' => e = .returned (.tuple #[.int .i64 (idxV s xs + 1), .bool (decide (0 ≤ idxV s xs))]) ∧ Below w.heap.size w w' := by
  have qI : ∀ wx, RdS wx ao xs → _ := fun wx h => indexS_c ao n c s xs wx hx hn h
  have hbd := idxV_bd s xs
  rw [hx] at hbd
  generalize idxV s xs = z at qI hbd ⊢
  have hC0 := x3_new w (.slice ao n c) (.int .i64 t) (.int .i64 y) 45 (w.heap.size) (by simp)
  have hB_W0 : Below w.heap.size w (w.alloc (.cells #[.slice ao n c, .int .i64 t, .int .i64 y] 45)) := balloc w (.cells #[.slice ao n c, .int .i64 t, .int .i64 y] 45)
  have hS_W0 : ((w.alloc (.cells #[.slice ao n c, .int .i64 t, .int .i64 y] 45))).heap.size = w.heap.size + 1 := by simp
  obtain ⟨W0, hW0⟩ : ∃ V, (w.alloc (.cells #[.slice ao n c, .int .i64 t, .int .i64 y] 45)) = V := ⟨_, rfl⟩
  rw [hW0] at hC0 hB_W0 hS_W0
  have HC0 : Hid (X3 W0 (w.heap.size) (.slice ao n c) (.int .i64 t) (.int .i64 y)) := hC0
  have HB_W0 : Hid (Below w.heap.size w W0) := hB_W0
  have HS_W0 : Hid (W0.heap.size = w.heap.size + 1) := hS_W0
  clear hB_W0 hS_W0 hC0
  have hr0 := hr.later HB_W0.out
  have q0 := implGood_c ao n c t y xs W0 hx hn hr0 hz
  rw [hg] at q0
  obtain ⟨⟨c0, c1, c2⟩, cf⟩ := id (HC0.out)
  clear cf
  go_enter Try.func25, Try.ntmps25
  go_wp2_with fail
  refine q0.mono ?_
  clear q0 c0 c1 c2
  rintro e w1 ⟨rfl, hb⟩
  have HB1 : Hid (Below w.heap.size w w1) := HB_W0.out.trans (hb.mono HB_W0.out.size)
  have HR1 : Hid (RdS w1 ao xs) := hr0.later hb
  obtain ⟨⟨c0, c1, c2⟩, cf⟩ := id (HC0.out.later hb)
  clear cf
  clear hb hr0 hW0 hr
  go_wp2_with fail
  refine (qI w1 HR1.out).mono ?_
  clear qI
  rintro e w2 ⟨rfl, hb⟩
  have HB2 : Hid (Below w.heap.size w w2) := HB1.out.trans (hb.mono HB1.out.size)
  clear hb c0 c1 c2
  by_cases h0 : 0 ≤ z
  · have HD : Hid (decide (0 ≤ z) = true) := decide_eq_true h0
    go_wp2
    refine bodyPost_ret (v := .tuple #[.int .i64 (z + 1), .bool true]) (by simp [results, Try.results25, go_sem]; try rfl) rfl ?_
    exact ⟨by rw [HD.out], HB2.out⟩
  · have HD : Hid (decide (0 ≤ z) = false) := decide_eq_false h0
    have h0 : z < 0 := by omega
    go_wp2
    refine bodyPost_ret (v := .tuple #[.int .i64 (z + 1), .bool false]) (by simp [results, Try.results25, go_sem, h0]; try rfl) rfl ?_
    exact ⟨by rw [HD.out], HB2.out⟩

theorem implWait_c (ao : Option Addr) (n c : Nat) (t y : Int) (s : ByteArray) (xs : List ByteArray) (w : World) (hx : xs.length = n) (hn : n ≤ 17592186044416) (hr : RdS w ao xs) (hz : ∀ s ∈ xs, s.size ≤ 9223372036854775807) (v : Int) (fb : Bool) (hF : waitF xs t y s = (v, fb)) :
    Calls Try.prog 25 #[.agg #[.slice ao n c, .int .i64 t, .int .i64 y], .string s] w fun e w' => e = .returned (.tuple #[.int .i64 v, .bool fb]) ∧ Below w.heap.size w w' := by
  cases hg : goodC xs t y with
  | false =>
    rw [waitF_bad hg] at hF
    simp only [Prod.mk.injEq] at hF
    obtain ⟨rfl, rfl⟩ := hF
    exact implWait_bad ao n c t y s xs w hx hn hr hz hg
  | true =>
    rw [waitF_good hg] at hF
    simp only [Prod.mk.injEq] at hF
    obtain ⟨rfl, rfl⟩ := hF
    exact implWait_good ao n c t y s xs w hx hn hr hz hg

set_option maxHeartbeats 2000000 in
theorem specWait_bad (ao : Option Addr) (n c : Nat) (t y : Int) (s : ByteArray) (xs : List ByteArray) (w : World) (hx : xs.length = n) (hn : n ≤ 17592186044416) (hr : RdS w ao xs) (hz : ∀ s ∈ xs, s.size ≤ 9223372036854775807) (hg : goodC xs t y = false) :
    Calls Try.prog 26 #[.agg #[.slice ao n c, .int .i64 t, .int .i64 y], .string s] w fun e w' => e = .returned (.tuple #[.int .i64 0, .bool false]) ∧ Below w.heap.size w w' := by
  have hC0 := x3_new w (.slice ao n c) (.int .i64 t) (.int .i64 y) 45 (w.heap.size) (by simp)
  have hB_W0 : Below w.heap.size w (w.alloc (.cells #[.slice ao n c, .int .i64 t, .int .i64 y] 45)) := balloc w (.cells #[.slice ao n c, .int .i64 t, .int .i64 y] 45)
  have hS_W0 : ((w.alloc (.cells #[.slice ao n c, .int .i64 t, .int .i64 y] 45))).heap.size = w.heap.size + 1 := by simp
  obtain ⟨W0, hW0⟩ : ∃ V, (w.alloc (.cells #[.slice ao n c, .int .i64 t, .int .i64 y] 45)) = V := ⟨_, rfl⟩
  rw [hW0] at hC0 hB_W0 hS_W0
  have HC0 : Hid (X3 W0 (w.heap.size) (.slice ao n c) (.int .i64 t) (.int .i64 y)) := hC0
  have HB_W0 : Hid (Below w.heap.size w W0) := hB_W0
  have HS_W0 : Hid (W0.heap.size = w.heap.size + 1) := hS_W0
  clear hB_W0 hS_W0 hC0
  have hr0 := hr.later HB_W0.out
  have q0 := specGood_c ao n c t y xs W0 hx hn hr0 hz
  rw [hg] at q0
  obtain ⟨⟨c0, c1, c2⟩, cf⟩ := id (HC0.out)
  clear cf
  go_enter Try.func26, Try.ntmps26
  go_wp2_with fail
  refine q0.mono ?_
  clear q0 c0 c1 c2
  rintro e w1 ⟨rfl, hb⟩
  have HB1 : Hid (Below w.heap.size w w1) := HB_W0.out.trans (hb.mono HB_W0.out.size)
  have HR1 : Hid (RdS w1 ao xs) := hr0.later hb
  obtain ⟨⟨c0, c1, c2⟩, cf⟩ := id (HC0.out.later hb)
  clear cf
  clear hb hr0 hW0 hr
  go_wp2
  refine bodyPost_ret (v := .tuple #[.int .i64 0, .bool false]) (by simp [results, Try.results26, go_sem]; try rfl) rfl ?_
  exact ⟨rfl, HB1.out⟩

set_option maxHeartbeats 4000000 in
theorem specWait_good (ao : Option Addr) (n c : Nat) (t y : Int) (s : ByteArray) (xs : List ByteArray) (w : World) (hx : xs.length = n) (hn : n ≤ 17592186044416) (hr : RdS w ao xs) (hz : ∀ s ∈ xs, s.size ≤ 9223372036854775807) (hg : goodC xs t y = true) :
    Calls Try.prog 26 #[.agg #[.slice ao n c, .int .i64 t, .int .i64 y], .string s] w fun e w' => e = .returned (.tuple #[.int .i64 (idxV s xs + 1), .bool (decide (0 ≤ idxV s xs))]) ∧ Below w.heap.size w w' := by
  have HX : Hid (xs.length = n) := hx
  obtain ⟨z, hz'⟩ : ∃ z, idxV s xs = z := ⟨_, rfl⟩
  rw [hz']
  have HV : Hid (idxV s xs = z) := hz'
  clear hz'
  have hC0 := x3_new w (.slice ao n c) (.int .i64 t) (.int .i64 y) 45 (w.heap.size) (by simp)
  have hB_W0 : Below w.heap.size w (w.alloc (.cells #[.slice ao n c, .int .i64 t, .int .i64 y] 45)) := balloc w (.cells #[.slice ao n c, .int .i64 t, .int .i64 y] 45)
  have hS_W0 : ((w.alloc (.cells #[.slice ao n c, .int .i64 t, .int .i64 y] 45))).heap.size = w.heap.size + 1 := by simp
  obtain ⟨W0, hW0⟩ : ∃ V, (w.alloc (.cells #[.slice ao n c, .int .i64 t, .int .i64 y] 45)) = V := ⟨_, rfl⟩
  rw [hW0] at hC0 hB_W0 hS_W0
  have HC0 : Hid (X3 W0 (w.heap.size) (.slice ao n c) (.int .i64 t) (.int .i64 y)) := hC0
  have HB_W0 : Hid (Below w.heap.size w W0) := hB_W0
  have HS_W0 : Hid (W0.heap.size = w.heap.size + 1) := hS_W0
  clear hB_W0 hS_W0 hC0
  have hr0 := hr.later HB_W0.out
  have q0 := specGood_c ao n c t y xs W0 hx hn hr0 hz
  rw [hg] at q0
  obtain ⟨⟨c0, c1, c2⟩, cf⟩ := id (HC0.out)
  clear cf
  go_enter Try.func26, Try.ntmps26
  go_wp2_with fail
  refine q0.mono ?_
  clear q0 c0 c1 c2
  rintro e w1 ⟨rfl, hb⟩
  have HB1 : Hid (Below w.heap.size w w1) := HB_W0.out.trans (hb.mono HB_W0.out.size)
  have HR1 : Hid (RdS w1 ao xs) := hr0.later hb
  obtain ⟨⟨c0, c1, c2⟩, cf⟩ := id (HC0.out.later hb)
  clear cf
  clear hb hr0 hW0 hr
  clear hx hz
  go_wp2
  go_loop [14] (fun iv => ∃ k : Nat, k ≤ n ∧ iv = .int .i64 k ∧ Hid (∀ j, j < k → xs.getD j ByteArray.empty ≠ s)) (fun iv => n - (intOf iv).toNat)
  case atStart => exact ⟨0, Nat.zero_le _, rfl, fun j h => absurd h (by omega)⟩
  case round =>
    obtain ⟨k, hk, rfl, HN⟩ := hrel
    by_cases hlt : k < n
    · have hkl : k < xs.length := by rw [HX.out]; exact hlt
      obtain ⟨b, o, rfl, g1⟩ := HR1.out.get hkl
      have k0 : (0 : Int) ≤ (k : Int) := by omega
      have k1 : (k : Int) < (n : Int) := by omega
      by_cases he : xs.getD k ByteArray.empty = s
      · have HW : Hid (z = (k : Int)) := by
          show _ = _
          have h := waitL_at hkl he HN.out
          rw [← HV.out]; unfold idxV; rw [h, if_pos hkl]
        have e1 := eq_tl he
        generalize xs.getD k ByteArray.empty = x at g1 e1
        clear he hkl
        go_wp2
        refine bodyPost_ret (v := .tuple #[.int .i64 ((k : Int) + 1), .bool true]) (by simp [results, Try.results26, go_sem]; try rfl) rfl ?_
        exact ⟨by rw [HW.out, decide_eq_true (by omega)], HB1.out⟩
      · have HN2 : Hid (∀ j, j < k + 1 → xs.getD j ByteArray.empty ≠ s) := fun j hj => by
          by_cases e : j = k
          · rw [e]; exact he
          · exact HN.out j (by omega)
        have e1 := ne_tl he
        generalize xs.getD k ByteArray.empty = x at g1 e1
        clear he hkl
        go_wp2
        go_round
        case rel => exact ⟨k + 1, by omega, by go_num, HN2⟩
        case measure => simp [intOf]; omega
    · have HW : Hid (z = -1) := by
        show _ = _
        have h := waitL_none (s := s) (l := xs) (fun j hj => HN.out j (by rw [HX.out] at hj; omega))
        rw [← HV.out]; unfold idxV; rw [h, if_neg (Nat.lt_irrefl _)]
      go_wp2
      refine bodyPost_ret (v := .tuple #[.int .i64 0, .bool false]) (by simp [results, Try.results26, go_sem]; try rfl) rfl ?_
      exact ⟨by rw [HW.out]; rfl, HB1.out⟩

theorem specWait_c (ao : Option Addr) (n c : Nat) (t y : Int) (s : ByteArray) (xs : List ByteArray) (w : World) (hx : xs.length = n) (hn : n ≤ 17592186044416) (hr : RdS w ao xs) (hz : ∀ s ∈ xs, s.size ≤ 9223372036854775807) (v : Int) (fb : Bool) (hF : waitF xs t y s = (v, fb)) :
    Calls Try.prog 26 #[.agg #[.slice ao n c, .int .i64 t, .int .i64 y], .string s] w fun e w' => e = .returned (.tuple #[.int .i64 v, .bool fb]) ∧ Below w.heap.size w w' := by
  cases hg : goodC xs t y with
  | false =>
    rw [waitF_bad hg] at hF
    simp only [Prod.mk.injEq] at hF
    obtain ⟨rfl, rfl⟩ := hF
    exact specWait_bad ao n c t y s xs w hx hn hr hz hg
  | true =>
    rw [waitF_good hg] at hF
    simp only [Prod.mk.injEq] at hF
    obtain ⟨rfl, rfl⟩ := hF
    exact specWait_good ao n c t y s xs w hx hn hr hz hg

end Go.Proofs.Yteopaocomfepfaa
