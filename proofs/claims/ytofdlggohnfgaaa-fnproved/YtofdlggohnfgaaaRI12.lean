/- Chapter 12: IsProved of the specification. -/
import Derived.Test.YtofdlggohnfgaaaRH12
namespace Go.Proofs.Ytofdlggohnfgaaa
set_option linter.unusedVariables false
set_option maxRecDepth 1000000
set_option linter.unusedSimpArgs false
open Go.RowKit

set_option maxHeartbeats 4000000 in
theorem specProved_c (f : Int) (ao : Option Addr) (n c : Nat) (xs : List St) (c0 c1 c2 : Int) (w : World) (hx : xs.length = n) (hn : n ≤ 17592186044416) (hr : RdS w ao xs) (hn1 : n ≤ 1048576) :
    Calls Try.prog 20 #[.int .i64 f, .slice ao n c, .agg #[.int .i64 c0, .int .i64 c1, .int .i64 c2]] w fun e w' => e = .returned (.tuple #[.bool (provedV f xs (c0, c1, c2)), .bool (provedOk f xs (c0, c1, c2))]) ∧ Below w.heap.size w w' := by
  obtain ⟨q, hq⟩ : ∃ q, (refL xs (c0, c1, c2)).length = q := ⟨_, rfl⟩
  have HQ1 : Hid (∀ wx, RdS wx ao xs → Calls Try.prog 58 #[.slice ao n c] wx fun e w' => e = .returned (.bool (stsB xs)) ∧ Below wx.heap.size wx w') := fun wx h => l12Good_c ao n c xs wx hx hn h
  have HQ2 : Hid (∀ wx, Calls Try.prog 17 #[.agg #[.int .i64 c0, .int .i64 c1, .int .i64 c2]] wx fun e w' => e = .returned (.bool (clB (c0, c1, c2))) ∧ Below wx.heap.size wx w') := fun wx => specGood_c c0 c1 c2 wx
  have HX : Hid (xs.length = n) := hx
  have HQ3 : Hid (∀ wx, Calls Try.prog 55 #[.int .i64 f, .int .i64 0, .int .i64 2] wx fun e w' => e = .returned (.bool (inB f 0 2)) ∧ w' = wx) := fun wx => l1In_c f 0 2 wx
  have HQ4 : Hid (∀ wx, RdS wx ao xs → Calls Try.prog 59 #[.slice ao n c, .agg #[.int .i64 c0, .int .i64 c1, .int .i64 c2]] wx fun e w' => ∃ a' c', e = .returned (.slice a' q c') ∧ Own w' wx.heap.size (.slice a' q c') (refL xs (c0, c1, c2)) ∧ Below wx.heap.size wx w') := fun wx h => l12Refused_c ao n c xs c0 c1 c2 wx hx hn1 h q hq
  have e1 : provedOk f xs (c0, c1, c2) = (stsB xs && (clB (c0, c1, c2) && inB f 0 2)) := rfl
  have e2 : provedV f xs (c0, c1, c2) = if (stsB xs && (clB (c0, c1, c2) && inB f 0 2)) = true then decide (f < (q : Int)) else false := by
    unfold provedV
    rw [e1]
    unfold provedB
    rw [hq]
  rw [e1, e2]
  have hq7 : q ≤ 7 := by rw [← hq]; exact refTo_length _ _ 7
  clear e1 e2 hq hx
  generalize refL xs (c0, c1, c2) = rv at HQ4
  generalize stsB xs = x at HQ1 ⊢
  generalize clB (c0, c1, c2) = y at HQ2 ⊢
  generalize inB f 0 2 = z at HQ3 ⊢
  cases x
  · skip
    have HB_0 : Hid (Below w.heap.size w w) := Below.refl _ _
    have RP_0 : Hid (RdS w ao xs) := hr
    clear hr
    have hHB := HB_0.out.alloc HB_0.out.size (.cells #[.int .i64 c0, .int .i64 c1, .int .i64 c2] 25)
    have hRP := RP_0.out.later (balloc w (.cells #[.int .i64 c0, .int .i64 c1, .int .i64 c2] 25))
    have hA := x3_new w (.int .i64 c0) (.int .i64 c1) (.int .i64 c2) 25 w.heap.size rfl
    have hz : (w.alloc (.cells #[.int .i64 c0, .int .i64 c1, .int .i64 c2] 25)).heap.size = w.heap.size + 1 := by simp
    obtain ⟨w1, hV1⟩ : ∃ V, w.alloc (.cells #[.int .i64 c0, .int .i64 c1, .int .i64 c2] 25) = V := ⟨_, rfl⟩
    rw [hV1] at hHB hRP hA hz
    have HB_1 : Hid (Below w.heap.size w w1) := hHB
    have RP_1 : Hid (RdS w1 ao xs) := hRP
    have A_1 : Hid (X3 w1 w.heap.size (.int .i64 c0) (.int .i64 c1) (.int .i64 c2)) := hA
    have z1 : w.heap.size + 1 ≤ w1.heap.size := by omega
    clear HB_0 RP_0 hHB hRP hA hz
    go_enter Try.func20, Try.ntmps20
    go_wp2_with fail
    clear hV1
    refine (HQ1.out _ RP_1.out).mono ?_
    rintro e w2 ⟨rfl, hb⟩
    have hB : Below w1.heap.size w1 w2 := hb
    have HB_2 : Hid (Below w.heap.size w w2) := HB_1.out.trans (hB.mono HB_1.out.size)
    have RP_2 : Hid (RdS w2 ao xs) := RP_1.out.later hB
    have A_2 : Hid (X3 w2 w.heap.size (.int .i64 c0) (.int .i64 c1) (.int .i64 c2)) := A_1.out.later hB
    have z2 : w1.heap.size ≤ w2.heap.size := hB.size
    clear hb hB HB_1 RP_1 A_1 
    go_wp2
    refine bodyPost_ret (v := .tuple #[.bool false, .bool false]) (by simp [results, Try.results20, go_sem]; try rfl) rfl ?_
    exact ⟨rfl, HB_2.out⟩
  · cases y
    · skip
      have HB_0 : Hid (Below w.heap.size w w) := Below.refl _ _
      have RP_0 : Hid (RdS w ao xs) := hr
      clear hr
      have hHB := HB_0.out.alloc HB_0.out.size (.cells #[.int .i64 c0, .int .i64 c1, .int .i64 c2] 25)
      have hRP := RP_0.out.later (balloc w (.cells #[.int .i64 c0, .int .i64 c1, .int .i64 c2] 25))
      have hA := x3_new w (.int .i64 c0) (.int .i64 c1) (.int .i64 c2) 25 w.heap.size rfl
      have hz : (w.alloc (.cells #[.int .i64 c0, .int .i64 c1, .int .i64 c2] 25)).heap.size = w.heap.size + 1 := by simp
      obtain ⟨w1, hV1⟩ : ∃ V, w.alloc (.cells #[.int .i64 c0, .int .i64 c1, .int .i64 c2] 25) = V := ⟨_, rfl⟩
      rw [hV1] at hHB hRP hA hz
      have HB_1 : Hid (Below w.heap.size w w1) := hHB
      have RP_1 : Hid (RdS w1 ao xs) := hRP
      have A_1 : Hid (X3 w1 w.heap.size (.int .i64 c0) (.int .i64 c1) (.int .i64 c2)) := hA
      have z1 : w.heap.size + 1 ≤ w1.heap.size := by omega
      clear HB_0 RP_0 hHB hRP hA hz
      go_enter Try.func20, Try.ntmps20
      go_wp2_with fail
      clear hV1
      refine (HQ1.out _ RP_1.out).mono ?_
      rintro e w2 ⟨rfl, hb⟩
      have hB : Below w1.heap.size w1 w2 := hb
      have HB_2 : Hid (Below w.heap.size w w2) := HB_1.out.trans (hB.mono HB_1.out.size)
      have RP_2 : Hid (RdS w2 ao xs) := RP_1.out.later hB
      have A_2 : Hid (X3 w2 w.heap.size (.int .i64 c0) (.int .i64 c1) (.int .i64 c2)) := A_1.out.later hB
      have z2 : w1.heap.size ≤ w2.heap.size := hB.size
      clear hb hB HB_1 RP_1 A_1 
      obtain ⟨⟨Aq0, Aq1, Aq2⟩, Af⟩ := id (A_2.out)
      clear Af
      go_wp2_with fail
      refine (HQ2.out _).mono ?_
      clear Aq0 Aq1 Aq2
      rintro e w3 ⟨rfl, hb⟩
      have hB : Below w2.heap.size w2 w3 := hb
      have HB_3 : Hid (Below w.heap.size w w3) := HB_2.out.trans (hB.mono HB_2.out.size)
      have RP_3 : Hid (RdS w3 ao xs) := RP_2.out.later hB
      have A_3 : Hid (X3 w3 w.heap.size (.int .i64 c0) (.int .i64 c1) (.int .i64 c2)) := A_2.out.later hB
      have z3 : w2.heap.size ≤ w3.heap.size := hB.size
      clear hb hB HB_2 RP_2 A_2 
      go_wp2
      refine bodyPost_ret (v := .tuple #[.bool false, .bool false]) (by simp [results, Try.results20, go_sem]; try rfl) rfl ?_
      exact ⟨rfl, HB_3.out⟩
    · cases z
      · skip
        have HB_0 : Hid (Below w.heap.size w w) := Below.refl _ _
        have RP_0 : Hid (RdS w ao xs) := hr
        clear hr
        have hHB := HB_0.out.alloc HB_0.out.size (.cells #[.int .i64 c0, .int .i64 c1, .int .i64 c2] 25)
        have hRP := RP_0.out.later (balloc w (.cells #[.int .i64 c0, .int .i64 c1, .int .i64 c2] 25))
        have hA := x3_new w (.int .i64 c0) (.int .i64 c1) (.int .i64 c2) 25 w.heap.size rfl
        have hz : (w.alloc (.cells #[.int .i64 c0, .int .i64 c1, .int .i64 c2] 25)).heap.size = w.heap.size + 1 := by simp
        obtain ⟨w1, hV1⟩ : ∃ V, w.alloc (.cells #[.int .i64 c0, .int .i64 c1, .int .i64 c2] 25) = V := ⟨_, rfl⟩
        rw [hV1] at hHB hRP hA hz
        have HB_1 : Hid (Below w.heap.size w w1) := hHB
        have RP_1 : Hid (RdS w1 ao xs) := hRP
        have A_1 : Hid (X3 w1 w.heap.size (.int .i64 c0) (.int .i64 c1) (.int .i64 c2)) := hA
        have z1 : w.heap.size + 1 ≤ w1.heap.size := by omega
        clear HB_0 RP_0 hHB hRP hA hz
        go_enter Try.func20, Try.ntmps20
        go_wp2_with fail
        clear hV1
        refine (HQ1.out _ RP_1.out).mono ?_
        rintro e w2 ⟨rfl, hb⟩
        have hB : Below w1.heap.size w1 w2 := hb
        have HB_2 : Hid (Below w.heap.size w w2) := HB_1.out.trans (hB.mono HB_1.out.size)
        have RP_2 : Hid (RdS w2 ao xs) := RP_1.out.later hB
        have A_2 : Hid (X3 w2 w.heap.size (.int .i64 c0) (.int .i64 c1) (.int .i64 c2)) := A_1.out.later hB
        have z2 : w1.heap.size ≤ w2.heap.size := hB.size
        clear hb hB HB_1 RP_1 A_1 
        obtain ⟨⟨Aq0, Aq1, Aq2⟩, Af⟩ := id (A_2.out)
        clear Af
        go_wp2_with fail
        refine (HQ2.out _).mono ?_
        clear Aq0 Aq1 Aq2
        rintro e w3 ⟨rfl, hb⟩
        have hB : Below w2.heap.size w2 w3 := hb
        have HB_3 : Hid (Below w.heap.size w w3) := HB_2.out.trans (hB.mono HB_2.out.size)
        have RP_3 : Hid (RdS w3 ao xs) := RP_2.out.later hB
        have A_3 : Hid (X3 w3 w.heap.size (.int .i64 c0) (.int .i64 c1) (.int .i64 c2)) := A_2.out.later hB
        have z3 : w2.heap.size ≤ w3.heap.size := hB.size
        clear hb hB HB_2 RP_2 A_2 
        go_wp2_with fail
        refine (HQ3.out _).mono ?_
        rintro e w' ⟨rfl, hw⟩
        subst w'
        go_wp2
        refine bodyPost_ret (v := .tuple #[.bool false, .bool false]) (by simp [results, Try.results20, go_sem]; try rfl) rfl ?_
        exact ⟨rfl, HB_3.out⟩
      · skip
        have HB_0 : Hid (Below w.heap.size w w) := Below.refl _ _
        have RP_0 : Hid (RdS w ao xs) := hr
        clear hr
        have hHB := HB_0.out.alloc HB_0.out.size (.cells #[.int .i64 c0, .int .i64 c1, .int .i64 c2] 25)
        have hRP := RP_0.out.later (balloc w (.cells #[.int .i64 c0, .int .i64 c1, .int .i64 c2] 25))
        have hA := x3_new w (.int .i64 c0) (.int .i64 c1) (.int .i64 c2) 25 w.heap.size rfl
        have hz : (w.alloc (.cells #[.int .i64 c0, .int .i64 c1, .int .i64 c2] 25)).heap.size = w.heap.size + 1 := by simp
        obtain ⟨w1, hV1⟩ : ∃ V, w.alloc (.cells #[.int .i64 c0, .int .i64 c1, .int .i64 c2] 25) = V := ⟨_, rfl⟩
        rw [hV1] at hHB hRP hA hz
        have HB_1 : Hid (Below w.heap.size w w1) := hHB
        have RP_1 : Hid (RdS w1 ao xs) := hRP
        have A_1 : Hid (X3 w1 w.heap.size (.int .i64 c0) (.int .i64 c1) (.int .i64 c2)) := hA
        have z1 : w.heap.size + 1 ≤ w1.heap.size := by omega
        clear HB_0 RP_0 hHB hRP hA hz
        go_enter Try.func20, Try.ntmps20
        go_wp2_with fail
        clear hV1
        refine (HQ1.out _ RP_1.out).mono ?_
        rintro e w2 ⟨rfl, hb⟩
        have hB : Below w1.heap.size w1 w2 := hb
        have HB_2 : Hid (Below w.heap.size w w2) := HB_1.out.trans (hB.mono HB_1.out.size)
        have RP_2 : Hid (RdS w2 ao xs) := RP_1.out.later hB
        have A_2 : Hid (X3 w2 w.heap.size (.int .i64 c0) (.int .i64 c1) (.int .i64 c2)) := A_1.out.later hB
        have z2 : w1.heap.size ≤ w2.heap.size := hB.size
        clear hb hB HB_1 RP_1 A_1 
        obtain ⟨⟨Aq0, Aq1, Aq2⟩, Af⟩ := id (A_2.out)
        clear Af
        go_wp2_with fail
        refine (HQ2.out _).mono ?_
        clear Aq0 Aq1 Aq2
        rintro e w3 ⟨rfl, hb⟩
        have hB : Below w2.heap.size w2 w3 := hb
        have HB_3 : Hid (Below w.heap.size w w3) := HB_2.out.trans (hB.mono HB_2.out.size)
        have RP_3 : Hid (RdS w3 ao xs) := RP_2.out.later hB
        have A_3 : Hid (X3 w3 w.heap.size (.int .i64 c0) (.int .i64 c1) (.int .i64 c2)) := A_2.out.later hB
        have z3 : w2.heap.size ≤ w3.heap.size := hB.size
        clear hb hB HB_2 RP_2 A_2 
        go_wp2_with fail
        refine (HQ3.out _).mono ?_
        rintro e w' ⟨rfl, hw⟩
        subst w'
        obtain ⟨⟨Aq0, Aq1, Aq2⟩, Af⟩ := id (A_3.out)
        clear Af
        go_wp2_with fail
        refine (HQ4.out _ RP_3.out).mono ?_
        clear Aq0 Aq1 Aq2
        rintro e w4 ⟨a', c', rfl, _, hb⟩
        have hB : Below w3.heap.size w3 w4 := hb
        have HB_4 : Hid (Below w.heap.size w w4) := HB_3.out.trans (hB.mono HB_3.out.size)
        have RP_4 : Hid (RdS w4 ao xs) := RP_3.out.later hB
        have A_4 : Hid (X3 w4 w.heap.size (.int .i64 c0) (.int .i64 c1) (.int .i64 c2)) := A_3.out.later hB
        have z4 : w3.heap.size ≤ w4.heap.size := hB.size
        clear hb hB HB_3 RP_3 A_3 
        go_wp2
        refine bodyPost_ret (v := .tuple #[.bool (decide (f < (q : Int))), .bool true]) (by simp [results, Try.results20, go_sem]; try rfl) rfl ?_
        exact ⟨rfl, HB_4.out⟩

end Go.Proofs.Ytofdlggohnfgaaa
