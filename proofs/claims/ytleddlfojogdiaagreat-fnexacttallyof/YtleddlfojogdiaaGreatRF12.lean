/- Chapter 12: RefusedBy and IsProved of the program. -/
import Derived.Test.YtleddlfojogdiaaGreatWH12
import Derived.Test.YtleddlfojogdiaaGreatTM12
import Derived.Test.YtleddlfojogdiaaGreatG12
namespace Go.Proofs.YtleddlfojogdiaaGreat
set_option linter.unusedVariables false
set_option maxRecDepth 1000000
set_option linter.unusedSimpArgs false
open Go.RowKit Go.Maps

set_option maxHeartbeats 4000000 in
theorem implRefused_no (ao : Option Addr) (n c : Nat) (xs : List St) (c0 c1 c2 : Int) (w : World) (hx : xs.length = n) (hn : n ≤ 17592186044416) (hr : RdS w ao xs) (h : ¬ (stsB xs = true ∧ clB (c0, c1, c2) = true)) :
    Calls Tryz.prog 46 #[.slice ao n c, .agg #[.int .i64 c0, .int .i64 c1, .int .i64 c2]] w fun e w' => ∃ a' c', e = .returned (.tuple #[.slice a' 0 c', .bool false]) ∧ Own w' w.heap.size (.slice a' 0 c') [] ∧ Below w.heap.size w w' := by
  have HQ1 : Hid (∀ wx, RdS wx ao xs → Calls Tryz.prog 35 #[.slice ao n c] wx fun e w' => e = .returned (.bool (stsB xs)) ∧ Below wx.heap.size wx w') := fun wx h => areStatements_c ao n c xs wx hx hn h
  have HQ2 : Hid (∀ wx, Calls Tryz.prog 34 #[.agg #[.int .i64 c0, .int .i64 c1, .int .i64 c2]] wx fun e w' => e = .returned (.bool (clB (c0, c1, c2))) ∧ Below wx.heap.size wx w') := fun wx => implGood_c c0 c1 c2 wx
  have HX : Hid (xs.length = n) := hx
  generalize stsB xs = x at HQ1 h
  generalize clB (c0, c1, c2) = y at HQ2 h
  clear hx
  cases x
  · skip
    have HB_0 : Hid (Below w.heap.size w w) := Below.refl _ _
    have RP_0 : Hid (RdS w ao xs) := hr
    clear hr
    have hHB := HB_0.out.alloc HB_0.out.size (.cells #[.int .i64 c0, .int .i64 c1, .int .i64 c2] 32)
    have hRP := RP_0.out.later (balloc w (.cells #[.int .i64 c0, .int .i64 c1, .int .i64 c2] 32))
    have hA := x3_new w (.int .i64 c0) (.int .i64 c1) (.int .i64 c2) 32 w.heap.size rfl
    have hz : (w.alloc (.cells #[.int .i64 c0, .int .i64 c1, .int .i64 c2] 32)).heap.size = w.heap.size + 1 := by simp
    obtain ⟨w1, hV1⟩ : ∃ V, w.alloc (.cells #[.int .i64 c0, .int .i64 c1, .int .i64 c2] 32) = V := ⟨_, rfl⟩
    rw [hV1] at hHB hRP hA hz
    have HB_1 : Hid (Below w.heap.size w w1) := hHB
    have RP_1 : Hid (RdS w1 ao xs) := hRP
    have A_1 : Hid (X3 w1 w.heap.size (.int .i64 c0) (.int .i64 c1) (.int .i64 c2)) := hA
    have z1 : w.heap.size + 1 ≤ w1.heap.size := by omega
    clear HB_0 RP_0 hHB hRP hA hz
    go_enter Tryz.func46, Tryz.ntmps46
    go_wp2_with fail
    clear hV1
    refine (HQ1.out _ RP_1.out).mono ?_
    rintro e w2 ⟨rfl, hb⟩
    have hB : Below w1.heap.size w1 w2 := hb
    have HB_2 : Hid (Below w.heap.size w w2) := HB_1.out.trans (hB.mono HB_1.out.size)
    have RP_2 : Hid (RdS w2 ao xs) := RP_1.out.later hB
    have A_2 : Hid (X3 w2 w.heap.size (.int .i64 c0) (.int .i64 c1) (.int .i64 c2)) := A_1.out.later hB
    have z2 : w1.heap.size ≤ w2.heap.size := hB.size
    clear hb hB HB_1 RP_1 A_1 
    go_wp2
    refine bodyPost_ret (v := .tuple #[.slice none 0 0, .bool false]) (by simp [results, Tryz.results46, go_sem]; try rfl) rfl ?_
    exact ⟨none, 0, rfl, own_nilI _ _, HB_2.out⟩
  · cases y
    case true => exact absurd ⟨rfl, rfl⟩ h
    have HB_0 : Hid (Below w.heap.size w w) := Below.refl _ _
    have RP_0 : Hid (RdS w ao xs) := hr
    clear hr
    have hHB := HB_0.out.alloc HB_0.out.size (.cells #[.int .i64 c0, .int .i64 c1, .int .i64 c2] 32)
    have hRP := RP_0.out.later (balloc w (.cells #[.int .i64 c0, .int .i64 c1, .int .i64 c2] 32))
    have hA := x3_new w (.int .i64 c0) (.int .i64 c1) (.int .i64 c2) 32 w.heap.size rfl
    have hz : (w.alloc (.cells #[.int .i64 c0, .int .i64 c1, .int .i64 c2] 32)).heap.size = w.heap.size + 1 := by simp
    obtain ⟨w1, hV1⟩ : ∃ V, w.alloc (.cells #[.int .i64 c0, .int .i64 c1, .int .i64 c2] 32) = V := ⟨_, rfl⟩
    rw [hV1] at hHB hRP hA hz
    have HB_1 : Hid (Below w.heap.size w w1) := hHB
    have RP_1 : Hid (RdS w1 ao xs) := hRP
    have A_1 : Hid (X3 w1 w.heap.size (.int .i64 c0) (.int .i64 c1) (.int .i64 c2)) := hA
    have z1 : w.heap.size + 1 ≤ w1.heap.size := by omega
    clear HB_0 RP_0 hHB hRP hA hz
    go_enter Tryz.func46, Tryz.ntmps46
    go_wp2_with fail
    clear hV1
    refine (HQ1.out _ RP_1.out).mono ?_
    rintro e w2 ⟨rfl, hb⟩
    have hB : Below w1.heap.size w1 w2 := hb
    have HB_2 : Hid (Below w.heap.size w w2) := HB_1.out.trans (hB.mono HB_1.out.size)
    have RP_2 : Hid (RdS w2 ao xs) := RP_1.out.later hB
    have A_2 : Hid (X3 w2 w.heap.size (.int .i64 c0) (.int .i64 c1) (.int .i64 c2)) := A_1.out.later hB
    have z2 : w1.heap.size ≤ w2.heap.size := hB.size
    clear hb hB HB_1 RP_1 A_1 
    obtain ⟨⟨Aq0, Aq1, Aq2⟩, Af⟩ := id (A_2.out)
    clear Af
    go_wp2_with fail
    refine (HQ2.out _).mono ?_
    clear Aq0 Aq1 Aq2
    rintro e w3 ⟨rfl, hb⟩
    have hB : Below w2.heap.size w2 w3 := hb
    have HB_3 : Hid (Below w.heap.size w w3) := HB_2.out.trans (hB.mono HB_2.out.size)
    have RP_3 : Hid (RdS w3 ao xs) := RP_2.out.later hB
    have A_3 : Hid (X3 w3 w.heap.size (.int .i64 c0) (.int .i64 c1) (.int .i64 c2)) := A_2.out.later hB
    have z3 : w2.heap.size ≤ w3.heap.size := hB.size
    clear hb hB HB_2 RP_2 A_2 
    go_wp2
    refine bodyPost_ret (v := .tuple #[.slice none 0 0, .bool false]) (by simp [results, Tryz.results46, go_sem]; try rfl) rfl ?_
    exact ⟨none, 0, rfl, own_nilI _ _, HB_3.out⟩

set_option maxHeartbeats 4000000 in
theorem implRefused_go (ao : Option Addr) (n c : Nat) (xs : List St) (c0 c1 c2 : Int) (w : World) (hx : xs.length = n) (hn : n ≤ 17592186044416) (hr : RdS w ao xs) (h1 : stsB xs = true) (h2 : clB (c0, c1, c2) = true) (q : Nat) (hq : (refL xs (c0, c1, c2)).length = q) :
    Calls Tryz.prog 46 #[.slice ao n c, .agg #[.int .i64 c0, .int .i64 c1, .int .i64 c2]] w fun e w' => ∃ a' c', e = .returned (.tuple #[.slice a' q c', .bool true]) ∧ Own w' w.heap.size (.slice a' q c') (refL xs (c0, c1, c2)) ∧ Below w.heap.size w w' := by
  have HQ1 : Hid (∀ wx, RdS wx ao xs → Calls Tryz.prog 35 #[.slice ao n c] wx fun e w' => e = .returned (.bool (stsB xs)) ∧ Below wx.heap.size wx w') := fun wx h => areStatements_c ao n c xs wx hx hn h
  have HQ2 : Hid (∀ wx, Calls Tryz.prog 34 #[.agg #[.int .i64 c0, .int .i64 c1, .int .i64 c2]] wx fun e w' => e = .returned (.bool (clB (c0, c1, c2))) ∧ Below wx.heap.size wx w') := fun wx => implGood_c c0 c1 c2 wx
  have HX : Hid (xs.length = n) := hx
  have HAl : Hid (xs.all stB = true) := by have := h1; unfold stsB at this; rw [Bool.and_eq_true] at this; exact this.1
  have hn60 : n ≤ 60 := by have := h1; unfold stsB at this; rw [Bool.and_eq_true] at this; have := of_decide_eq_true this.2; omega
  have HQq : Hid ((refL xs (c0, c1, c2)).length = q) := hq
  rw [h1] at HQ1
  rw [h2] at HQ2
  clear hx h1 h2 hq
  have HB_0 : Hid (Below w.heap.size w w) := Below.refl _ _
  have RP_0 : Hid (RdS w ao xs) := hr
  clear hr
  have hHB := HB_0.out.alloc HB_0.out.size (.cells #[.int .i64 c0, .int .i64 c1, .int .i64 c2] 32)
  have hRP := RP_0.out.later (balloc w (.cells #[.int .i64 c0, .int .i64 c1, .int .i64 c2] 32))
  have hA := x3_new w (.int .i64 c0) (.int .i64 c1) (.int .i64 c2) 32 w.heap.size rfl
  have hz : (w.alloc (.cells #[.int .i64 c0, .int .i64 c1, .int .i64 c2] 32)).heap.size = w.heap.size + 1 := by simp
  obtain ⟨w1, hV1⟩ : ∃ V, w.alloc (.cells #[.int .i64 c0, .int .i64 c1, .int .i64 c2] 32) = V := ⟨_, rfl⟩
  rw [hV1] at hHB hRP hA hz
  have HB_1 : Hid (Below w.heap.size w w1) := hHB
  have RP_1 : Hid (RdS w1 ao xs) := hRP
  have A_1 : Hid (X3 w1 w.heap.size (.int .i64 c0) (.int .i64 c1) (.int .i64 c2)) := hA
  have z1 : w.heap.size + 1 ≤ w1.heap.size := by omega
  clear HB_0 RP_0 hHB hRP hA hz
  go_enter Tryz.func46, Tryz.ntmps46
  go_wp2_with fail
  clear hV1
  refine (HQ1.out _ RP_1.out).mono ?_
  rintro e w2 ⟨rfl, hb⟩
  have hB : Below w1.heap.size w1 w2 := hb
  have HB_2 : Hid (Below w.heap.size w w2) := HB_1.out.trans (hB.mono HB_1.out.size)
  have RP_2 : Hid (RdS w2 ao xs) := RP_1.out.later hB
  have A_2 : Hid (X3 w2 w.heap.size (.int .i64 c0) (.int .i64 c1) (.int .i64 c2)) := A_1.out.later hB
  have z2 : w1.heap.size ≤ w2.heap.size := hB.size
  clear hb hB HB_1 RP_1 A_1 
  obtain ⟨⟨Aq0, Aq1, Aq2⟩, Af⟩ := id (A_2.out)
  clear Af
  go_wp2_with fail
  refine (HQ2.out _).mono ?_
  clear Aq0 Aq1 Aq2
  rintro e w3 ⟨rfl, hb⟩
  have hB : Below w2.heap.size w2 w3 := hb
  have HB_3 : Hid (Below w.heap.size w w3) := HB_2.out.trans (hB.mono HB_2.out.size)
  have RP_3 : Hid (RdS w3 ao xs) := RP_2.out.later hB
  have A_3 : Hid (X3 w3 w.heap.size (.int .i64 c0) (.int .i64 c1) (.int .i64 c2)) := A_2.out.later hB
  have z3 : w2.heap.size ≤ w3.heap.size := hB.size
  clear hb hB HB_2 RP_2 A_2 
  obtain ⟨⟨Aq0, Aq1, Aq2⟩, Af⟩ := id (A_3.out)
  clear Af
  go_wp2_with fail
  refine (testimony_c ao n c xs c0 c1 c2 _ HX.out hn60 HAl.out RP_3.out).mono ?_
  clear Aq0 Aq1 Aq2
  rintro e w4 ⟨b, rfl, hbb, hm, hb⟩
  have hB : Below w3.heap.size w3 w4 := hb
  have HB_4 : Hid (Below w.heap.size w w4) := HB_3.out.trans (hB.mono HB_3.out.size)
  have RP_4 : Hid (RdS w4 ao xs) := RP_3.out.later hB
  have A_4 : Hid (X3 w4 w.heap.size (.int .i64 c0) (.int .i64 c1) (.int .i64 c2)) := A_3.out.later hB
  have z4 : w3.heap.size ≤ w4.heap.size := hB.size
  have M_4 : Hid (MT w4 b n (gOf xs (c0, c1, c2))) := hm
  clear hb hB HB_3 RP_3 A_3 hm
  have hbw : w.heap.size ≤ b := by have := HB_4.out.size; omega
  go_wp2_with fail
  refine (delContra_c b n _ _ M_4.out).mono ?_
  rintro e wz ⟨rfl, hm2, hg⟩
  have HBz : Hid (Below w.heap.size w wz) := Below.grown HB_4.out hg (by have := HB_4.out.size; omega) (fun k e => by have e2 := Option.some.inj e; omega)
  have HMz : Hid (MT wz b n (cleanT (gOf xs (c0, c1, c2)))) := hm2
  clear hm2 hg HB_4 RP_4 A_4 M_4
  go_wp2_with fail
  refine (whoSay_c b n _ _ HMz.out (by omega) (keysOk_clean (gOf_keys HAl.out)) q (by rw [ref_clean]; exact HQq.out)).mono ?_
  rintro e wv ⟨a', c', rfl, ho, hb⟩
  rw [ref_clean] at ho
  have HOv : Hid (Own wv wz.heap.size (.slice a' q c') (refL xs (c0, c1, c2))) := ho
  have HBv : Hid (Below w.heap.size w wv) := HBz.out.trans (hb.mono HBz.out.size)
  clear ho hb HMz
  go_wp2
  refine bodyPost_ret (v := .tuple #[.slice a' q c', .bool true]) (by simp [results, Tryz.results46, go_sem]; try rfl) rfl ?_
  exact ⟨a', c', rfl, HOv.out.mono HBz.out.size, HBv.out⟩

theorem implRefused_c (ao : Option Addr) (n c : Nat) (xs : List St) (c0 c1 c2 : Int) (w : World) (hx : xs.length = n) (hn : n ≤ 17592186044416) (hr : RdS w ao xs) (q : Nat) (hq : (refV xs (c0, c1, c2)).length = q) :
    Calls Tryz.prog 46 #[.slice ao n c, .agg #[.int .i64 c0, .int .i64 c1, .int .i64 c2]] w fun e w' => ∃ a' c', e = .returned (.tuple #[.slice a' q c', .bool (refOk xs (c0, c1, c2))]) ∧ Own w' w.heap.size (.slice a' q c') (refV xs (c0, c1, c2)) ∧ Below w.heap.size w w' := by
  by_cases h : stsB xs = true ∧ clB (c0, c1, c2) = true
  · have e1 : refOk xs (c0, c1, c2) = true := by unfold refOk; rw [h.1, h.2]; rfl
    have e2 : refV xs (c0, c1, c2) = refL xs (c0, c1, c2) := by unfold refV; rw [if_pos e1]
    rw [e1, e2]
    rw [e2] at hq
    exact implRefused_go ao n c xs c0 c1 c2 w hx hn hr h.1 h.2 q hq
  · have e1 : refOk xs (c0, c1, c2) = false := by rw [Bool.eq_false_iff]; intro g; unfold refOk at g; rw [Bool.and_eq_true] at g; exact h g
    have e2 : refV xs (c0, c1, c2) = [] := by unfold refV; rw [e1]; rfl
    rw [e1, e2]
    rw [e2] at hq
    obtain rfl : q = 0 := hq.symm
    exact implRefused_no ao n c xs c0 c1 c2 w hx hn hr h

set_option maxHeartbeats 4000000 in
theorem implProved_c (f : Int) (ao : Option Addr) (n c : Nat) (xs : List St) (c0 c1 c2 : Int) (w : World) (hx : xs.length = n) (hn : n ≤ 17592186044416) (hr : RdS w ao xs) :
    Calls Tryz.prog 11 #[.int .i64 f, .slice ao n c, .agg #[.int .i64 c0, .int .i64 c1, .int .i64 c2]] w fun e w' => e = .returned (.tuple #[.bool (provedV f xs (c0, c1, c2)), .bool (provedOk f xs (c0, c1, c2))]) ∧ Below w.heap.size w w' := by
  obtain ⟨q, hq⟩ : ∃ q, (refV xs (c0, c1, c2)).length = q := ⟨_, rfl⟩
  have HQ1 : Hid (∀ wx, RdS wx ao xs → Calls Tryz.prog 46 #[.slice ao n c, .agg #[.int .i64 c0, .int .i64 c1, .int .i64 c2]] wx fun e w' => ∃ a' c', e = .returned (.tuple #[.slice a' q c', .bool (refOk xs (c0, c1, c2))]) ∧ Own w' wx.heap.size (.slice a' q c') (refV xs (c0, c1, c2)) ∧ Below wx.heap.size wx w') := fun wx h => implRefused_c ao n c xs c0 c1 c2 wx hx hn h q hq
  have HQ2 : Hid (∀ wx, Calls Tryz.prog 32 #[.int .i64 f] wx fun e w' => e = .returned (.bool (inB f 0 2)) ∧ w' = wx) := fun wx => isFaults_c f wx
  have e1 : provedOk f xs (c0, c1, c2) = (refOk xs (c0, c1, c2) && inB f 0 2) := by unfold provedOk refOk; rw [Bool.and_assoc]
  have e2 : provedV f xs (c0, c1, c2) = if (refOk xs (c0, c1, c2) && inB f 0 2) = true then decide (f < (q : Int)) else false := by
    unfold provedV
    rw [e1]
    by_cases hh : (refOk xs (c0, c1, c2) && inB f 0 2) = true
    · rw [if_pos hh, if_pos hh]
      rw [Bool.and_eq_true] at hh
      unfold refV at hq
      rw [if_pos hh.1] at hq
      unfold provedB
      rw [hq]
    · rw [if_neg hh, if_neg hh]
  rw [e1, e2]
  have hq7 : q ≤ 7 := by
    rw [← hq]
    unfold refV
    split
    · exact refTo_length _ _ 7
    · simp
  clear e1 e2 hq hx
  generalize refV xs (c0, c1, c2) = rv at HQ1
  generalize refOk xs (c0, c1, c2) = x at HQ1 ⊢
  generalize inB f 0 2 = y at HQ2 ⊢
  cases x
  · skip
    have HB_0 : Hid (Below w.heap.size w w) := Below.refl _ _
    have RP_0 : Hid (RdS w ao xs) := hr
    clear hr
    have hHB := HB_0.out.alloc HB_0.out.size (.cells #[.int .i64 c0, .int .i64 c1, .int .i64 c2] 32)
    have hRP := RP_0.out.later (balloc w (.cells #[.int .i64 c0, .int .i64 c1, .int .i64 c2] 32))
    have hA := x3_new w (.int .i64 c0) (.int .i64 c1) (.int .i64 c2) 32 w.heap.size rfl
    have hz : (w.alloc (.cells #[.int .i64 c0, .int .i64 c1, .int .i64 c2] 32)).heap.size = w.heap.size + 1 := by simp
    obtain ⟨w1, hV1⟩ : ∃ V, w.alloc (.cells #[.int .i64 c0, .int .i64 c1, .int .i64 c2] 32) = V := ⟨_, rfl⟩
    rw [hV1] at hHB hRP hA hz
    have HB_1 : Hid (Below w.heap.size w w1) := hHB
    have RP_1 : Hid (RdS w1 ao xs) := hRP
    have A_1 : Hid (X3 w1 w.heap.size (.int .i64 c0) (.int .i64 c1) (.int .i64 c2)) := hA
    have z1 : w.heap.size + 1 ≤ w1.heap.size := by omega
    clear HB_0 RP_0 hHB hRP hA hz
    go_enter Tryz.func11, Tryz.ntmps11
    obtain ⟨⟨Aq0, Aq1, Aq2⟩, Af⟩ := id (A_1.out)
    clear Af
    go_wp2_with fail
    clear hV1
    refine (HQ1.out _ RP_1.out).mono ?_
    clear Aq0 Aq1 Aq2
    rintro e w2 ⟨a', c', rfl, _, hb⟩
    have hB : Below w1.heap.size w1 w2 := hb
    have HB_2 : Hid (Below w.heap.size w w2) := HB_1.out.trans (hB.mono HB_1.out.size)
    have RP_2 : Hid (RdS w2 ao xs) := RP_1.out.later hB
    have A_2 : Hid (X3 w2 w.heap.size (.int .i64 c0) (.int .i64 c1) (.int .i64 c2)) := A_1.out.later hB
    have z2 : w1.heap.size ≤ w2.heap.size := hB.size
    clear hb hB HB_1 RP_1 A_1 
    go_wp2
    refine bodyPost_ret (v := .tuple #[.bool false, .bool false]) (by simp [results, Tryz.results11, go_sem]; try rfl) rfl ?_
    exact ⟨rfl, HB_2.out⟩
  · cases y
    · skip
      have HB_0 : Hid (Below w.heap.size w w) := Below.refl _ _
      have RP_0 : Hid (RdS w ao xs) := hr
      clear hr
      have hHB := HB_0.out.alloc HB_0.out.size (.cells #[.int .i64 c0, .int .i64 c1, .int .i64 c2] 32)
      have hRP := RP_0.out.later (balloc w (.cells #[.int .i64 c0, .int .i64 c1, .int .i64 c2] 32))
      have hA := x3_new w (.int .i64 c0) (.int .i64 c1) (.int .i64 c2) 32 w.heap.size rfl
      have hz : (w.alloc (.cells #[.int .i64 c0, .int .i64 c1, .int .i64 c2] 32)).heap.size = w.heap.size + 1 := by simp
      obtain ⟨w1, hV1⟩ : ∃ V, w.alloc (.cells #[.int .i64 c0, .int .i64 c1, .int .i64 c2] 32) = V := ⟨_, rfl⟩
      rw [hV1] at hHB hRP hA hz
      have HB_1 : Hid (Below w.heap.size w w1) := hHB
      have RP_1 : Hid (RdS w1 ao xs) := hRP
      have A_1 : Hid (X3 w1 w.heap.size (.int .i64 c0) (.int .i64 c1) (.int .i64 c2)) := hA
      have z1 : w.heap.size + 1 ≤ w1.heap.size := by omega
      clear HB_0 RP_0 hHB hRP hA hz
      go_enter Tryz.func11, Tryz.ntmps11
      obtain ⟨⟨Aq0, Aq1, Aq2⟩, Af⟩ := id (A_1.out)
      clear Af
      go_wp2_with fail
      clear hV1
      refine (HQ1.out _ RP_1.out).mono ?_
      clear Aq0 Aq1 Aq2
      rintro e w2 ⟨a', c', rfl, _, hb⟩
      have hB : Below w1.heap.size w1 w2 := hb
      have HB_2 : Hid (Below w.heap.size w w2) := HB_1.out.trans (hB.mono HB_1.out.size)
      have RP_2 : Hid (RdS w2 ao xs) := RP_1.out.later hB
      have A_2 : Hid (X3 w2 w.heap.size (.int .i64 c0) (.int .i64 c1) (.int .i64 c2)) := A_1.out.later hB
      have z2 : w1.heap.size ≤ w2.heap.size := hB.size
      clear hb hB HB_1 RP_1 A_1 
      go_wp2_with fail
      refine (HQ2.out _).mono ?_
      rintro e w' ⟨rfl, hw⟩
      subst w'
      go_wp2
      refine bodyPost_ret (v := .tuple #[.bool false, .bool false]) (by simp [results, Tryz.results11, go_sem]; try rfl) rfl ?_
      exact ⟨rfl, HB_2.out⟩
    · skip
      have HB_0 : Hid (Below w.heap.size w w) := Below.refl _ _
      have RP_0 : Hid (RdS w ao xs) := hr
      clear hr
      have hHB := HB_0.out.alloc HB_0.out.size (.cells #[.int .i64 c0, .int .i64 c1, .int .i64 c2] 32)
      have hRP := RP_0.out.later (balloc w (.cells #[.int .i64 c0, .int .i64 c1, .int .i64 c2] 32))
      have hA := x3_new w (.int .i64 c0) (.int .i64 c1) (.int .i64 c2) 32 w.heap.size rfl
      have hz : (w.alloc (.cells #[.int .i64 c0, .int .i64 c1, .int .i64 c2] 32)).heap.size = w.heap.size + 1 := by simp
      obtain ⟨w1, hV1⟩ : ∃ V, w.alloc (.cells #[.int .i64 c0, .int .i64 c1, .int .i64 c2] 32) = V := ⟨_, rfl⟩
      rw [hV1] at hHB hRP hA hz
      have HB_1 : Hid (Below w.heap.size w w1) := hHB
      have RP_1 : Hid (RdS w1 ao xs) := hRP
      have A_1 : Hid (X3 w1 w.heap.size (.int .i64 c0) (.int .i64 c1) (.int .i64 c2)) := hA
      have z1 : w.heap.size + 1 ≤ w1.heap.size := by omega
      clear HB_0 RP_0 hHB hRP hA hz
      go_enter Tryz.func11, Tryz.ntmps11
      obtain ⟨⟨Aq0, Aq1, Aq2⟩, Af⟩ := id (A_1.out)
      clear Af
      go_wp2_with fail
      clear hV1
      refine (HQ1.out _ RP_1.out).mono ?_
      clear Aq0 Aq1 Aq2
      rintro e w2 ⟨a', c', rfl, _, hb⟩
      have hB : Below w1.heap.size w1 w2 := hb
      have HB_2 : Hid (Below w.heap.size w w2) := HB_1.out.trans (hB.mono HB_1.out.size)
      have RP_2 : Hid (RdS w2 ao xs) := RP_1.out.later hB
      have A_2 : Hid (X3 w2 w.heap.size (.int .i64 c0) (.int .i64 c1) (.int .i64 c2)) := A_1.out.later hB
      have z2 : w1.heap.size ≤ w2.heap.size := hB.size
      clear hb hB HB_1 RP_1 A_1 
      go_wp2_with fail
      refine (HQ2.out _).mono ?_
      rintro e w' ⟨rfl, hw⟩
      subst w'
      go_wp2
      refine bodyPost_ret (v := .tuple #[.bool (decide (f < (q : Int))), .bool true]) (by simp [results, Tryz.results11, go_sem]; try rfl) rfl ?_
      exact ⟨rfl, HB_2.out⟩

end Go.Proofs.YtleddlfojogdiaaGreat
