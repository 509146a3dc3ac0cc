/- Chapter 14: ScoreOf of both sides; the size of a list of tallies. -/
import Derived.Test.YtleddlfojogdiaaA14
namespace Go.Proofs.Ytleddlfojogdiaa
set_option linter.unusedVariables false
set_option maxRecDepth 1000000
set_option linter.unusedSimpArgs false
open Go.RowKit

def scoreV (t : Ta) : Int := if taB t = true then scoreT t else 0

theorem taB_is {a b c : Int} (h : taB (a, b, c) = true) : 0 ≤ b ∧ b ≤ 100 ∧ 0 ≤ c ∧ c ≤ 100 := by
  unfold taB inB at h
  simp only [Bool.and_eq_true, decide_eq_true_eq] at h
  exact ⟨h.2.1.1, h.2.1.2, h.2.2.1, h.2.2.2⟩

theorem implScore_c (a b c : Int) (w : World) : Calls Try.prog 20 #[.agg #[.int .i64 a, .int .i64 b, .int .i64 c]] w fun e w' => e = .returned (.tuple #[.int .i64 (scoreV (a, b, c)), .bool (taB (a, b, c))]) ∧ Below w.heap.size w w' := by
  have q1 := fun wx => isTally_c a b c wx
  cases hf : taB (a, b, c)
  · rw [hf] at q1
    rw [show scoreV (a, b, c) = 0 by unfold scoreV; rw [hf]; rfl]
    clear hf
    have HB_0 : Hid (Below w.heap.size w w) := Below.refl _ _
    have hHB := HB_0.out.alloc HB_0.out.size (.cells #[.int .i64 a, .int .i64 b, .int .i64 c] 38)
    have hA := x3_new w (.int .i64 a) (.int .i64 b) (.int .i64 c) 38 w.heap.size rfl
    have hz : (w.alloc (.cells #[.int .i64 a, .int .i64 b, .int .i64 c] 38)).heap.size = w.heap.size + 1 := by simp
    obtain ⟨w1, hV1⟩ : ∃ V, w.alloc (.cells #[.int .i64 a, .int .i64 b, .int .i64 c] 38) = V := ⟨_, rfl⟩
    rw [hV1] at hHB hA hz
    have HB_1 : Hid (Below w.heap.size w w1) := hHB
    have A_1 : Hid (X3 w1 w.heap.size (.int .i64 a) (.int .i64 b) (.int .i64 c)) := hA
    have z1 : w.heap.size + 1 ≤ w1.heap.size := by omega
    clear HB_0 hHB hA hz
    go_enter Try.func20, Try.ntmps20
    obtain ⟨⟨Aq0, Aq1, Aq2⟩, Af⟩ := id (A_1.out)
    clear Af
    go_wp2_with fail
    clear hV1
    refine (q1 _).mono ?_
    clear Aq0 Aq1 Aq2
    rintro e w2 ⟨rfl, hb⟩
    have hB : Below w1.heap.size w1 w2 := hb
    have HB_2 : Hid (Below w.heap.size w w2) := HB_1.out.trans (hB.mono HB_1.out.size)
    have A_2 : Hid (X3 w2 w.heap.size (.int .i64 a) (.int .i64 b) (.int .i64 c)) := A_1.out.later hB
    have z2 : w1.heap.size ≤ w2.heap.size := hB.size
    clear hb hB HB_1 A_1 
    go_wp2
    refine bodyPost_ret (v := .tuple #[.int .i64 0, .bool false]) (by simp [results, Try.results20, go_sem]; try rfl) rfl ?_
    exact ⟨rfl, HB_2.out⟩
  · have h := taB_is hf
    have q2 := fun wx => scoreOfTally_c a b c wx h.1 h.2.1 h.2.2.1 h.2.2.2
    rw [hf] at q1
    rw [show scoreV (a, b, c) = scoreT (a, b, c) by unfold scoreV; rw [hf]; rfl]
    generalize scoreT (a, b, c) = sc at q2 ⊢
    clear hf h
    have HB_0 : Hid (Below w.heap.size w w) := Below.refl _ _
    have hHB := HB_0.out.alloc HB_0.out.size (.cells #[.int .i64 a, .int .i64 b, .int .i64 c] 38)
    have hA := x3_new w (.int .i64 a) (.int .i64 b) (.int .i64 c) 38 w.heap.size rfl
    have hz : (w.alloc (.cells #[.int .i64 a, .int .i64 b, .int .i64 c] 38)).heap.size = w.heap.size + 1 := by simp
    obtain ⟨w1, hV1⟩ : ∃ V, w.alloc (.cells #[.int .i64 a, .int .i64 b, .int .i64 c] 38) = V := ⟨_, rfl⟩
    rw [hV1] at hHB hA hz
    have HB_1 : Hid (Below w.heap.size w w1) := hHB
    have A_1 : Hid (X3 w1 w.heap.size (.int .i64 a) (.int .i64 b) (.int .i64 c)) := hA
    have z1 : w.heap.size + 1 ≤ w1.heap.size := by omega
    clear HB_0 hHB hA hz
    go_enter Try.func20, Try.ntmps20
    obtain ⟨⟨Aq0, Aq1, Aq2⟩, Af⟩ := id (A_1.out)
    clear Af
    go_wp2_with fail
    clear hV1
    refine (q1 _).mono ?_
    clear Aq0 Aq1 Aq2
    rintro e w2 ⟨rfl, hb⟩
    have hB : Below w1.heap.size w1 w2 := hb
    have HB_2 : Hid (Below w.heap.size w w2) := HB_1.out.trans (hB.mono HB_1.out.size)
    have A_2 : Hid (X3 w2 w.heap.size (.int .i64 a) (.int .i64 b) (.int .i64 c)) := A_1.out.later hB
    have z2 : w1.heap.size ≤ w2.heap.size := hB.size
    clear hb hB HB_1 A_1 
    obtain ⟨⟨Aq0, Aq1, Aq2⟩, Af⟩ := id (A_2.out)
    clear Af
    go_wp2_with fail
    refine (q2 _).mono ?_
    clear Aq0 Aq1 Aq2
    rintro e w3 ⟨rfl, hb⟩
    have hB : Below w2.heap.size w2 w3 := hb
    have HB_3 : Hid (Below w.heap.size w w3) := HB_2.out.trans (hB.mono HB_2.out.size)
    have A_3 : Hid (X3 w3 w.heap.size (.int .i64 a) (.int .i64 b) (.int .i64 c)) := A_2.out.later hB
    have z3 : w2.heap.size ≤ w3.heap.size := hB.size
    clear hb hB HB_2 A_2 
    go_wp2
    refine bodyPost_ret (v := .tuple #[.int .i64 sc, .bool true]) (by simp [results, Try.results20, go_sem]; try rfl) rfl ?_
    exact ⟨rfl, HB_3.out⟩

theorem specScore_c (a b c : Int) (w : World) : Calls Try.prog 23 #[.agg #[.int .i64 a, .int .i64 b, .int .i64 c]] w fun e w' => e = .returned (.tuple #[.int .i64 (scoreV (a, b, c)), .bool (taB (a, b, c))]) ∧ Below w.heap.size w w' := by
  have q0 := fun wx => l1In_c a 0 11 wx
  have q1 := fun wx => l14Tally_c a b c a wx
  have e1 : taB (a, b, c) = (inB a 0 11 && taAt (a, b, c) a) := by unfold taB taAt; simp
  cases hx : inB a 0 11
  · rw [hx] at q0 e1
    rw [show scoreV (a, b, c) = 0 by unfold scoreV; rw [e1]; rfl, e1]
    clear hx e1 q1
    have HB_0 : Hid (Below w.heap.size w w) := Below.refl _ _
    have hHB := HB_0.out.alloc HB_0.out.size (.cells #[.int .i64 a, .int .i64 b, .int .i64 c] 38)
    have hA := x3_new w (.int .i64 a) (.int .i64 b) (.int .i64 c) 38 w.heap.size rfl
    have hz : (w.alloc (.cells #[.int .i64 a, .int .i64 b, .int .i64 c] 38)).heap.size = w.heap.size + 1 := by simp
    obtain ⟨w1, hV1⟩ : ∃ V, w.alloc (.cells #[.int .i64 a, .int .i64 b, .int .i64 c] 38) = V := ⟨_, rfl⟩
    rw [hV1] at hHB hA hz
    have HB_1 : Hid (Below w.heap.size w w1) := hHB
    have A_1 : Hid (X3 w1 w.heap.size (.int .i64 a) (.int .i64 b) (.int .i64 c)) := hA
    have z1 : w.heap.size + 1 ≤ w1.heap.size := by omega
    clear HB_0 hHB hA hz
    go_enter Try.func23, Try.ntmps23
    obtain ⟨⟨Aq0, Aq1, Aq2⟩, Af⟩ := id (A_1.out)
    clear Af
    go_wp2_with fail
    clear hV1
    refine (q0 _).mono ?_
    clear Aq0 Aq1 Aq2
    rintro e w' ⟨rfl, hw⟩
    subst w'
    go_wp2
    refine bodyPost_ret (v := .tuple #[.int .i64 0, .bool false]) (by simp [results, Try.results23, go_sem]; try rfl) rfl ?_
    exact ⟨rfl, HB_1.out⟩
  · cases hf : taAt (a, b, c) a
    · rw [hx] at q0 e1
      rw [hf] at q1 e1
      rw [show scoreV (a, b, c) = 0 by unfold scoreV; rw [e1]; rfl, e1]
      clear hx hf e1
      have HB_0 : Hid (Below w.heap.size w w) := Below.refl _ _
      have hHB := HB_0.out.alloc HB_0.out.size (.cells #[.int .i64 a, .int .i64 b, .int .i64 c] 38)
      have hA := x3_new w (.int .i64 a) (.int .i64 b) (.int .i64 c) 38 w.heap.size rfl
      have hz : (w.alloc (.cells #[.int .i64 a, .int .i64 b, .int .i64 c] 38)).heap.size = w.heap.size + 1 := by simp
      obtain ⟨w1, hV1⟩ : ∃ V, w.alloc (.cells #[.int .i64 a, .int .i64 b, .int .i64 c] 38) = V := ⟨_, rfl⟩
      rw [hV1] at hHB hA hz
      have HB_1 : Hid (Below w.heap.size w w1) := hHB
      have A_1 : Hid (X3 w1 w.heap.size (.int .i64 a) (.int .i64 b) (.int .i64 c)) := hA
      have z1 : w.heap.size + 1 ≤ w1.heap.size := by omega
      clear HB_0 hHB hA hz
      go_enter Try.func23, Try.ntmps23
      obtain ⟨⟨Aq0, Aq1, Aq2⟩, Af⟩ := id (A_1.out)
      clear Af
      go_wp2_with fail
      clear hV1
      refine (q0 _).mono ?_
      clear Aq0 Aq1 Aq2
      rintro e w' ⟨rfl, hw⟩
      subst w'
      obtain ⟨⟨Aq0, Aq1, Aq2⟩, Af⟩ := id (A_1.out)
      clear Af
      go_wp2_with fail
      refine (q1 _).mono ?_
      clear Aq0 Aq1 Aq2
      rintro e w2 ⟨rfl, hb⟩
      have hB : Below w1.heap.size w1 w2 := hb
      have HB_2 : Hid (Below w.heap.size w w2) := HB_1.out.trans (hB.mono HB_1.out.size)
      have A_2 : Hid (X3 w2 w.heap.size (.int .i64 a) (.int .i64 b) (.int .i64 c)) := A_1.out.later hB
      have z2 : w1.heap.size ≤ w2.heap.size := hB.size
      clear hb hB HB_1 A_1 
      go_wp2
      refine bodyPost_ret (v := .tuple #[.int .i64 0, .bool false]) (by simp [results, Try.results23, go_sem]; try rfl) rfl ?_
      exact ⟨rfl, HB_2.out⟩
    · have h := (taAt_iff.1 hf).2
      have q2 := fun wx => l14Score_c a b c wx h.1 h.2.1 h.2.2.1 h.2.2.2
      rw [hx] at q0 e1
      rw [hf] at q1 e1
      rw [show scoreV (a, b, c) = scoreT (a, b, c) by unfold scoreV; rw [e1]; rfl, e1]
      generalize scoreT (a, b, c) = sc at q2 ⊢
      clear hx hf e1 h
      have HB_0 : Hid (Below w.heap.size w w) := Below.refl _ _
      have hHB := HB_0.out.alloc HB_0.out.size (.cells #[.int .i64 a, .int .i64 b, .int .i64 c] 38)
      have hA := x3_new w (.int .i64 a) (.int .i64 b) (.int .i64 c) 38 w.heap.size rfl
      have hz : (w.alloc (.cells #[.int .i64 a, .int .i64 b, .int .i64 c] 38)).heap.size = w.heap.size + 1 := by simp
      obtain ⟨w1, hV1⟩ : ∃ V, w.alloc (.cells #[.int .i64 a, .int .i64 b, .int .i64 c] 38) = V := ⟨_, rfl⟩
      rw [hV1] at hHB hA hz
      have HB_1 : Hid (Below w.heap.size w w1) := hHB
      have A_1 : Hid (X3 w1 w.heap.size (.int .i64 a) (.int .i64 b) (.int .i64 c)) := hA
      have z1 : w.heap.size + 1 ≤ w1.heap.size := by omega
      clear HB_0 hHB hA hz
      go_enter Try.func23, Try.ntmps23
      obtain ⟨⟨Aq0, Aq1, Aq2⟩, Af⟩ := id (A_1.out)
      clear Af
      go_wp2_with fail
      clear hV1
      refine (q0 _).mono ?_
      clear Aq0 Aq1 Aq2
      rintro e w' ⟨rfl, hw⟩
      subst w'
      obtain ⟨⟨Aq0, Aq1, Aq2⟩, Af⟩ := id (A_1.out)
      clear Af
      go_wp2_with fail
      refine (q1 _).mono ?_
      clear Aq0 Aq1 Aq2
      rintro e w2 ⟨rfl, hb⟩
      have hB : Below w1.heap.size w1 w2 := hb
      have HB_2 : Hid (Below w.heap.size w w2) := HB_1.out.trans (hB.mono HB_1.out.size)
      have A_2 : Hid (X3 w2 w.heap.size (.int .i64 a) (.int .i64 b) (.int .i64 c)) := A_1.out.later hB
      have z2 : w1.heap.size ≤ w2.heap.size := hB.size
      clear hb hB HB_1 A_1 
      obtain ⟨⟨Aq0, Aq1, Aq2⟩, Af⟩ := id (A_2.out)
      clear Af
      go_wp2_with fail
      refine (q2 _).mono ?_
      clear Aq0 Aq1 Aq2
      rintro e w3 ⟨rfl, hb⟩
      have hB : Below w2.heap.size w2 w3 := hb
      have HB_3 : Hid (Below w.heap.size w w3) := HB_2.out.trans (hB.mono HB_2.out.size)
      have A_3 : Hid (X3 w3 w.heap.size (.int .i64 a) (.int .i64 b) (.int .i64 c)) := A_2.out.later hB
      have z3 : w2.heap.size ≤ w3.heap.size := hB.size
      clear hb hB HB_2 A_2 
      go_wp2
      refine bodyPost_ret (v := .tuple #[.int .i64 sc, .bool true]) (by simp [results, Try.results23, go_sem]; try rfl) rfl ?_
      exact ⟨rfl, HB_3.out⟩

theorem szTallyS_c (ao : Option Addr) (n c : Nat) (left : Nat) (w : World) (hn : n ≤ 9223372036854775807) (hl : left ≤ 1048576) :
    Calls Try.prog 26 #[.slice ao n c, .int .i64 left] w fun e w' => ∃ r : Int, e = .returned (.int .i64 r) ∧ w' = w ∧ r ≤ left ∧ (0 ≤ r → n ≤ 1048576 ∧ r + n = left) := by
  by_cases h1 : left < n
  · have hlt : (left : Int) - n < 0 := by omega
    go_enter Try.func26, Try.ntmps26
    go_wp2
    go_ret
    exact ⟨-1, rfl, rfl, by omega, fun h => by omega⟩
  · have hge : 0 ≤ (left : Int) - n := by omega
    go_enter Try.func26, Try.ntmps26
    go_wp2
    go_ret
    exact ⟨(left : Int) - n, rfl, rfl, by omega, fun h => by omega⟩

end Go.Proofs.Ytleddlfojogdiaa
