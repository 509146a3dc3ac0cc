/- Chapter 9: SignOf, LengthOf, CyclesOf of both sides, whole. -/
import Derived.Test.YtlepejafednlfaaSC9
import Derived.Test.YtlepejafednlfaaCK9
namespace Go.Proofs.Ytlepejafednlfaa
set_option linter.unusedVariables false
set_option maxRecDepth 1000000
set_option linter.unusedSimpArgs false
open Go.RowKit

theorem OwnII.nil (w : World) (base : Nat) : OwnII w base (.slice none 0 0) [] := ⟨[], rfl, World.ownsRow_nil _ _ _ _, fun j h => absurd h (by simp), fun i j _ h => absurd h (by simp)⟩

theorem cyclesIn_c (a : Option Addr) (len cap : Nat) (w : World) :
    Calls Try.prog 84 #[.slice a len cap] w fun e w' => e = .returned (.func (.func 103) #[] #[.pointer (some ⟨w.heap.size, 0, none⟩)]) ∧ w' = w.alloc (.cells #[.slice a len cap] 23) :=
  callsIn_wide.1 (cyclesIn_in Fence.wide 2 trivial rfl a len cap w)

theorem collect_c (Bs m cap : Nat) (ao : Option Addr) (xs : List Int) (w : World) (hx : xs.length = m) (hox : ordB xs = true) (hBs : w.cell? ⟨Bs, 0, none⟩ = some (.slice ao m cap)) (hR : Rd w ao xs) :
    Calls Try.prog 86 #[.func (.func 103) #[] #[.pointer (some ⟨Bs, 0, none⟩)]] w fun e w' => ∃ v, e = .returned v ∧ OwnII w' w.heap.size v (cycL xs) ∧ Below w.heap.size w w' := by
  have q := appendSeq_c Bs m cap ao xs w hx hox hBs hR
  clear hx hox hBs hR
  go_enter Try.func86, Try.ntmps86
  go_wp2_with fail
  refine q.mono ?_
  clear q
  rintro e w1 ⟨v, rfl, ho, hb⟩
  have HO : Hid (OwnII w1 w.heap.size v (cycL xs)) := ho
  have HB : Hid (Below w.heap.size w w1) := hb
  clear ho hb
  go_wp2
  go_ret
  exact ⟨v, rfl, HO.out, HB.out⟩

set_option maxHeartbeats 2000000 in
theorem implCycles_c (ao : Option Addr) (n c : Nat) (xs : List Int) (w : World) (hx : xs.length = n) (hn : n ≤ 17592186044416) (hcx : n ≤ c ∧ c ≤ maxLen) (hr : Rd w ao xs) (zss : List (List Int)) (fb : Bool) (p : Nat) (hF : cyclesF xs = (zss, fb)) (hp : zss.length = p) :
    Calls Try.prog 35 #[.slice ao n c] w fun e w' => ∃ a' c', e = .returned (.tuple #[.slice a' p c', .bool fb]) ∧ OwnII w' w.heap.size (.slice a' p c') zss ∧ Below w.heap.size w w' := by
  have q1 := isOrder_c ao n c xs w hx hn hcx hr
  unfold cyclesF at hF
  by_cases h : ordB xs = true
  · rw [if_pos h] at hF
    simp only [Prod.mk.injEq] at hF
    obtain ⟨rfl, rfl⟩ := hF
    rw [h] at q1
    have HQ : Hid (∀ wx, Below w.heap.size w wx → Calls Try.prog 86 #[.func (.func 103) #[] #[.pointer (some ⟨wx.heap.size, 0, none⟩)]] (wx.alloc (.cells #[.slice ao n c] 23)) fun e w' => ∃ v, e = .returned v ∧ OwnII w' (wx.alloc (.cells #[.slice ao n c] 23)).heap.size v (cycL xs) ∧ Below (wx.alloc (.cells #[.slice ao n c] 23)).heap.size (wx.alloc (.cells #[.slice ao n c] 23)) w') := fun wx hb => collect_c wx.heap.size n c ao xs _ hx h (by simp) ((hr.later hb).later (balloc wx _))
    have HP : Hid ((cycL xs).length = p) := hp
    clear hx hr hp h
    go_enter Try.func35, Try.ntmps35
    go_wp2_with fail
    refine q1.mono ?_
    clear q1
    rintro e w1 ⟨rfl, hb1⟩
    have HB1 : Hid (Below w.heap.size w w1) := hb1
    clear hb1
    go_wp2_with fail
    refine (cyclesIn_c _ _ _ _).mono ?_
    rintro e w2 ⟨rfl, hw⟩
    have q2 := HQ.out w1 HB1.out
    have HB2 : Hid (Below w.heap.size w w2) := by show Below _ _ _; rw [hw]; exact HB1.out.alloc HB1.out.size _
    rw [← hw] at q2
    clear hw HQ
    go_wp2_with fail
    refine q2.mono ?_
    clear q2
    rintro e w3 ⟨v, rfl, ho, hb3⟩
    have hoo := ho.mono HB2.out.size
    obtain ⟨a', c', hv, _⟩ := ho.rd
    rw [HP.out] at hv
    subst hv
    have HO : Hid (OwnII w3 w.heap.size (.slice a' p c') (cycL xs)) := hoo
    have HB3 : Hid (Below w.heap.size w w3) := HB2.out.trans (hb3.mono HB2.out.size)
    clear ho hoo hb3
    go_wp2
    refine bodyPost_ret (v := .tuple #[.slice a' p c', .bool true]) (by simp [results, Try.results35, go_sem]; try rfl) rfl ?_
    exact ⟨a', c', rfl, HO.out, HB3.out⟩
  · rw [if_neg h] at hF
    simp only [Prod.mk.injEq] at hF
    obtain ⟨rfl, rfl⟩ := hF
    simp at hp
    subst hp
    rw [Bool.eq_false_iff.2 h] at q1
    clear h
    go_enter Try.func35, Try.ntmps35
    go_wp2_with fail
    refine q1.mono ?_
    rintro e w1 ⟨rfl, hb⟩
    have HB : Hid (Below w.heap.size w w1) := hb
    clear hb q1
    go_wp2
    refine bodyPost_ret (v := .tuple #[.slice none 0 0, .bool false]) (by simp [results, Try.results35, go_sem]; try rfl) rfl ?_
    exact ⟨none, 0, rfl, OwnII.nil _ _, HB.out⟩

set_option maxHeartbeats 2000000 in
theorem specCycles_c (ao : Option Addr) (n c : Nat) (xs : List Int) (w : World) (hx : xs.length = n) (hn : n ≤ 17592186044416) (hcx : n ≤ c ∧ c ≤ maxLen) (hr : Rd w ao xs) (zss : List (List Int)) (fb : Bool) (p : Nat) (hF : cyclesF xs = (zss, fb)) (hp : zss.length = p) :
    Calls Try.prog 36 #[.slice ao n c] w fun e w' => ∃ a' c', e = .returned (.tuple #[.slice a' p c', .bool fb]) ∧ OwnII w' w.heap.size (.slice a' p c') zss ∧ Below w.heap.size w w' := by
  have q1 := l4Order_c ao n c xs w hx hn hcx hr
  unfold cyclesF at hF
  by_cases h : ordB xs = true
  · rw [if_pos h] at hF
    simp only [Prod.mk.injEq] at hF
    obtain ⟨rfl, rfl⟩ := hF
    rw [h] at q1
    have q2 := l9Cycles_c ao n c xs w hx h hr
    have HP : Hid ((cycL xs).length = p) := hp
    clear hx hr hp h
    go_enter Try.func36, Try.ntmps36
    go_wp2_with fail
    refine q1.mono ?_
    clear q1
    rintro e w' ⟨rfl, hw⟩
    subst w'
    go_wp2_with fail
    refine q2.mono ?_
    clear q2
    rintro e w3 ⟨v, rfl, ho, hb3⟩
    obtain ⟨a', c', hv, _⟩ := ho.rd
    rw [HP.out] at hv
    subst hv
    have HO : Hid (OwnII w3 w.heap.size (.slice a' p c') (cycL xs)) := ho
    have HB3 : Hid (Below w.heap.size w w3) := hb3
    clear ho hb3
    go_wp2
    refine bodyPost_ret (v := .tuple #[.slice a' p c', .bool true]) (by simp [results, Try.results36, go_sem]; try rfl) rfl ?_
    exact ⟨a', c', rfl, HO.out, HB3.out⟩
  · rw [if_neg h] at hF
    simp only [Prod.mk.injEq] at hF
    obtain ⟨rfl, rfl⟩ := hF
    simp at hp
    subst hp
    rw [Bool.eq_false_iff.2 h] at q1
    clear h
    go_enter Try.func36, Try.ntmps36
    go_wp2_with fail
    refine q1.mono ?_
    clear q1
    rintro e w' ⟨rfl, hw⟩
    subst w'
    go_wp2
    refine bodyPost_ret (v := .tuple #[.slice none 0 0, .bool false]) (by simp [results, Try.results36, go_sem]; try rfl) rfl ?_
    exact ⟨none, 0, rfl, OwnII.nil _ _, Below.refl _ _⟩

theorem implSign_c (ao : Option Addr) (n c : Nat) (xs : List Int) (w : World) (hx : xs.length = n) (hn : n ≤ 17592186044416) (hcx : n ≤ c ∧ c ≤ maxLen) (hr : Rd w ao xs) (r : Int) (fb : Bool) (hF : signF xs = (r, fb)) :
    Calls Try.prog 32 #[.slice ao n c] w fun e w' => e = .returned (.tuple #[.int .i64 r, .bool fb]) ∧ Below w.heap.size w w' := by
  unfold signF at hF
  by_cases h : ordB xs = true
  · rw [if_pos h] at hF
    simp only [Prod.mk.injEq] at hF
    obtain ⟨rfl, rfl⟩ := hF
    exact implSign_at ao n c xs w hx (by have := ord_len h; omega) hcx h hr
  · rw [if_neg h] at hF
    simp only [Prod.mk.injEq] at hF
    obtain ⟨rfl, rfl⟩ := hF
    have q1 := isOrder_c ao n c xs w hx hn hcx hr
    rw [Bool.eq_false_iff.2 h] at q1
    clear h
    go_enter Try.func32, Try.ntmps32
    go_wp2_with fail
    refine q1.mono ?_
    rintro e w1 ⟨rfl, hb⟩
    have HB : Hid (Below w.heap.size w w1) := hb
    clear hb q1
    go_wp2
    refine bodyPost_ret (v := .tuple #[.int .i64 0, .bool false]) (by simp [results, Try.results32, go_sem]; try rfl) rfl ?_
    exact ⟨rfl, HB.out⟩

set_option maxHeartbeats 2000000 in
theorem specSign_c (ao : Option Addr) (n c : Nat) (xs : List Int) (w : World) (hx : xs.length = n) (hn : n ≤ 17592186044416) (hcx : n ≤ c ∧ c ≤ maxLen) (hr : Rd w ao xs) (r : Int) (fb : Bool) (hF : signF xs = (r, fb)) :
    Calls Try.prog 37 #[.slice ao n c] w fun e w' => e = .returned (.tuple #[.int .i64 r, .bool fb]) ∧ Below w.heap.size w w' := by
  have q1 := l4Order_c ao n c xs w hx hn hcx hr
  unfold signF at hF
  by_cases h : ordB xs = true
  · rw [if_pos h] at hF
    simp only [Prod.mk.injEq] at hF
    obtain ⟨rfl, rfl⟩ := hF
    rw [h] at q1
    have q2 := l9Cycles_c ao n c xs w hx h hr
    have hfew := cycs_few xs xs.length
    rw [show (cycs xs xs.length).1 = cycL xs from rfl, hx] at hfew
    have h9 : n ≤ 9 := by have := ord_len h; omega
    have HSG : Hid (signI xs = if (n - (cycL xs).length) % 2 = 1 then -1 else 1) := by show _ = _; rw [signI, hx]
    clear hx hr h
    generalize hzs : cycL xs = zs at q2 hfew HSG
    clear hzs
    go_enter Try.func37, Try.ntmps37
    go_wp2_with fail
    refine q1.mono ?_
    clear q1
    rintro e w' ⟨rfl, hw⟩
    subst w'
    go_wp2_with fail
    refine q2.mono ?_
    clear q2
    rintro e w3 ⟨v, rfl, ho, hb3⟩
    obtain ⟨a', c', hv, _⟩ := ho.rd
    have HB3 : Hid (Below w.heap.size w w3) := hb3
    generalize zs.length = q at hv hfew HSG
    clear ho hb3
    subst hv
    obtain ⟨d, hd⟩ : ∃ d : Nat, n - q = d := ⟨_, rfl⟩
    rw [hd] at HSG
    have hdi : (n : Int) - (q : Int) = (d : Int) := by omega
    have hdm : (d : Int) % 2 = ((d % 2 : Nat) : Int) := by omega
    have hdt : Int.tmod (d : Int) 2 = ((d % 2 : Nat) : Int) := by rw [Int.tmod_eq_emod_of_nonneg (by omega)]; exact hdm
    have hd9 : d ≤ 9 := by omega
    by_cases h1 : d % 2 = 1
    · rw [if_pos h1] at HSG
      have hb : (Int.tmod (d : Int) 2 == 0) = false := by rw [hdt, h1]; rfl
      have hb2 : ((d : Int) % 2 == 0) = false := by rw [hdm, h1]; rfl
      go_wp2
      refine bodyPost_ret (v := .tuple #[.int .i64 (-1), .bool true]) (by simp [results, Try.results37, go_sem]; try rfl) rfl ?_
      exact ⟨by rw [HSG.out], HB3.out⟩
    · rw [if_neg h1] at HSG
      have h0 : d % 2 = 0 := by omega
      have hb : (Int.tmod (d : Int) 2 == 0) = true := by rw [hdt, h0]; rfl
      have hb2 : ((d : Int) % 2 == 0) = true := by rw [hdm, h0]; rfl
      go_wp2
      refine bodyPost_ret (v := .tuple #[.int .i64 1, .bool true]) (by simp [results, Try.results37, go_sem]; try rfl) rfl ?_
      exact ⟨by rw [HSG.out], HB3.out⟩
  · rw [if_neg h] at hF
    simp only [Prod.mk.injEq] at hF
    obtain ⟨rfl, rfl⟩ := hF
    rw [Bool.eq_false_iff.2 h] at q1
    clear h
    go_enter Try.func37, Try.ntmps37
    go_wp2_with fail
    refine q1.mono ?_
    clear q1
    rintro e w' ⟨rfl, hw⟩
    subst w'
    go_wp2
    refine bodyPost_ret (v := .tuple #[.int .i64 0, .bool false]) (by simp [results, Try.results37, go_sem]; try rfl) rfl ?_
    exact ⟨rfl, Below.refl _ _⟩

theorem implLength_c (ao : Option Addr) (n c : Nat) (xs : List Int) (w : World) (hx : xs.length = n) (hn : n ≤ 17592186044416) (hcx : n ≤ c ∧ c ≤ maxLen) (hr : Rd w ao xs) (r : Int) (fb : Bool) (hF : lengthF xs = (r, fb)) :
    Calls Try.prog 33 #[.slice ao n c] w fun e w' => e = .returned (.tuple #[.int .i64 r, .bool fb]) ∧ Below w.heap.size w w' := by
  unfold lengthF at hF
  by_cases h : ordB xs = true
  · rw [if_pos h] at hF
    simp only [Prod.mk.injEq] at hF
    obtain ⟨rfl, rfl⟩ := hF
    exact implLength_at ao n c xs w hx (by have := ord_len h; omega) hcx h hr
  · rw [if_neg h] at hF
    simp only [Prod.mk.injEq] at hF
    obtain ⟨rfl, rfl⟩ := hF
    have q1 := isOrder_c ao n c xs w hx hn hcx hr
    rw [Bool.eq_false_iff.2 h] at q1
    clear h
    go_enter Try.func33, Try.ntmps33
    go_wp2_with fail
    refine q1.mono ?_
    rintro e w1 ⟨rfl, hb⟩
    have HB : Hid (Below w.heap.size w w1) := hb
    clear hb q1
    go_wp2
    refine bodyPost_ret (v := .tuple #[.int .i64 0, .bool false]) (by simp [results, Try.results33, go_sem]; try rfl) rfl ?_
    exact ⟨rfl, HB.out⟩

end Go.Proofs.Ytlepejafednlfaa
