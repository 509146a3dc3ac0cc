/- Chapter 9: two orders put together, and the order that undoes one: both sides. -/
import Derived.Test.YtlepejafednlfaaP9
namespace Go.Proofs.Ytlepejafednlfaa
set_option linter.unusedVariables false
set_option maxRecDepth 1000000
set_option linter.unusedSimpArgs false
open Go.RowKit

set_option maxHeartbeats 4000000 in
theorem l9Then_c (ao bo : Option Addr) (n c d : Nat) (xs ys : List Int) (w : World) (hx : xs.length = n) (hy : ys.length = n) (hn : n ≤ 9) (hoy : ordB ys = true) (hr : Rd w ao xs) (hs : Rd w bo ys) :
    Calls Try.prog 83 #[.slice ao n c, .slice bo n d] w fun e w' => ∃ a' c', e = .returned (.slice a' n c') ∧ Own w' w.heap.size (.slice a' n c') (thenL xs ys) ∧ Below w.heap.size w w' := by
  obtain ⟨i0, hi, hz0, hz1, hz2⟩ := info_parts Try.infoInt
  have HX : Hid (xs.length = n) := hx
  have HY : Hid (ys.length = n) := hy
  have HR : Hid (Rd w ao xs) := hr
  have HS : Hid (Rd w bo ys) := hs
  have HIN : Hid (∀ k, k < n → 0 ≤ ys.getD k 0 ∧ ys.getD k 0 < (n : Int)) := fun k hk => by rw [← hy]; exact ord_in hoy (by rw [hy]; exact hk)
  clear hx hy hr hs hoy
  have HB0 : Hid (Below w.heap.size w w) := Below.refl _ _
  go_enter Try.func83, Try.ntmps83
  go_wp2
  go_loopw [5, 10] (fun v i wr => ∃ k : Nat, k ≤ n ∧ i = .int .i64 k ∧ Hid (Own wr w.heap.size v ((thenL xs ys).take k)) ∧ Hid (Below w.heap.size w wr)) (fun _ i _ => n - (intOf i).toNat)
  case atStart => exact ⟨0, Nat.zero_le _, rfl, World.ownsRow_nil _ _ _ _, HB0⟩
  case round =>
    obtain ⟨k, hk, rfl, hO, hB⟩ := hrel
    by_cases hlt : k < n
    · have hkl : k < ys.length := by rw [HY.out]; exact hlt
      obtain ⟨b, o, rfl, g1⟩ := (HS.out.later hB.out).get9 hkl
      have hin := HIN.out k hlt
      obtain ⟨b2, o2, rfl, g2⟩ := (HR.out.later hB.out).get9 (k := (ys.getD k 0).toNat) (by rw [HX.out]; omega)
      have HT : Hid ((thenL xs ys).take (k + 1) = (thenL xs ys).take k ++ [xs.getD (ys.getD k 0).toNat 0]) := by
        show _ = _
        rw [take_snoc9 0 (by rw [thenL_length]; exact hkl)]
        simp [thenL, List.getD, hkl]
      have HL : Hid (((thenL xs ys).take k).length = k) := by show _ = _; rw [List.length_take, thenL_length]; omega
      generalize (thenL xs ys).take k = out at hO HL HT
      generalize xs.getD (ys.getD k 0).toNat 0 = z at g2 HT
      have hin0 : 0 ≤ ys.getD k 0 := hin.1
      have hin1 : ys.getD k 0 < (n : Int) := hin.2
      generalize ys.getD k 0 = y at g1 g2 hin0 hin1
      obtain ⟨q, rfl⟩ : ∃ q : Nat, y = (q : Int) := ⟨y.toNat, by omega⟩
      rw [Int.toNat_natCast] at g2
      have hob : ∀ k', u5.ownBlock = some k' → w.heap.size ≤ k' := own_block_ge hO.out
      have hown : wr.ownsRow w.heap.size 3 1 u5 k (cellsI out) := by have h := hO.out; unfold Own at h; rw [HL.out] at h; exact h
      clear hkl hin
      go_wp2_with (at_builtin; refine wpList_append_own _ rfl _ _ 23 rfl w.heap.size 3 i0 (.int .i64 0) 1 8 Try.underlying23 hi hz0 hz1 hz2 rfl (by decide) _ _ _ rfl (hown.alloc _) ⟨wr.heap.size, 0, none⟩ 1 1 [.int .i64 z] rfl rfl (cell_new1 _ _ _) (ints_oneCell _ [z]) (by unfold maxLen; omega) (by omega) (by have := hB.out.size; simp; omega) ?_; intro v' w2 hown' hgrow _; have HO' : Hid (Own w2 w.heap.size v' (out ++ [z])) := own_push (w := wr) (v := u5) (by simpa [HL.out] using hown'); have HB' : Hid (Below w.heap.size w w2) := (hB.out.alloc hB.out.size _).grown hgrow (by have := hB.out.size; simp; omega) (fun k' e => hob k' e); clear hown' hgrow)
      go_roundw
      case rel => exact ⟨k + 1, by omega, by go_num, by show Own _ _ _ _; rw [HT.out]; exact HO'.out, HB'⟩
      case measure => simp [intOf]; omega
    · obtain rfl : k = n := by omega
      rw [List.take_of_length_le (by rw [thenL_length, HY.out]; exact Nat.le_refl _)] at hO
      obtain ⟨a', c', hv⟩ := hO.out.shape
      rw [thenL_length, HY.out] at hv
      subst hv
      go_wp2
      go_ret
      exact ⟨a', c', rfl, hO.out, hB.out⟩

set_option maxHeartbeats 4000000 in
theorem implThen_at (ao bo : Option Addr) (n c d : Nat) (xs ys : List Int) (w : World) (hx : xs.length = n) (hy : ys.length = n) (hn : n ≤ 9) (hcx : n ≤ c ∧ c ≤ maxLen) (hcy : n ≤ d ∧ d ≤ maxLen) (hox : ordB xs = true) (hoy : ordB ys = true) (hr : Rd w ao xs) (hs : Rd w bo ys) :
    Calls Try.prog 28 #[.slice ao n c, .slice bo n d] w fun e w' => ∃ a' c', e = .returned (.tuple #[.slice a' n c', .bool true]) ∧ Own w' w.heap.size (.slice a' n c') (thenL xs ys) ∧ Below w.heap.size w w' := by
  obtain ⟨i0, hi, hz0, hz1, hz2⟩ := info_parts Try.infoInt
  have q1 := isOrder_c ao n c xs w hx (by omega) hcx hr
  have q2 : ∀ wx, Below w.heap.size w wx → Calls Try.prog 62 #[.slice bo n d] wx fun e w' => e = .returned (.bool (ordB ys)) ∧ Below wx.heap.size wx w' := fun wx hb => isOrder_c bo n d ys wx hy (by omega) hcy (hs.later hb)
  rw [hox] at q1
  rw [hoy] at q2
  have hnn : ((n : Int) != (n : Int)) = false := by simp
  have HX : Hid (xs.length = n) := hx
  have HY : Hid (ys.length = n) := hy
  have HR : Hid (Rd w ao xs) := hr
  have HS : Hid (Rd w bo ys) := hs
  have HIN : Hid (∀ k, k < n → 0 ≤ ys.getD k 0 ∧ ys.getD k 0 < (n : Int)) := fun k hk => by rw [← hy]; exact ord_in hoy (by rw [hy]; exact hk)
  clear hx hy hr hs hoy hox hcx hcy
  go_enter Try.func28, Try.ntmps28
  go_wp2_with fail
  refine q1.mono ?_
  clear q1
  rintro e w1 ⟨rfl, hb1⟩
  go_wp2_with fail
  refine (q2 _ hb1).mono ?_
  clear q2
  rintro e w2 ⟨rfl, hb2⟩
  have HB0 : Hid (Below w.heap.size w w2) := hb1.trans (hb2.mono hb1.size)
  clear hb1 hb2
  go_wp2
  go_loopw [6, 26] (fun v i wr => ∃ k : Nat, k ≤ n ∧ i = .int .i64 k ∧ Hid (Own wr w.heap.size v ((thenL xs ys).take k)) ∧ Hid (Below w.heap.size w wr)) (fun _ i _ => n - (intOf i).toNat)
  case atStart => exact ⟨0, Nat.zero_le _, rfl, World.ownsRow_nil _ _ _ _, HB0⟩
  case round =>
    obtain ⟨k, hk, rfl, hO, hB⟩ := hrel
    by_cases hlt : k < n
    · have hkl : k < ys.length := by rw [HY.out]; exact hlt
      obtain ⟨b, o, rfl, g1⟩ := (HS.out.later hB.out).get9 hkl
      have hin := HIN.out k hlt
      obtain ⟨b2, o2, rfl, g2⟩ := (HR.out.later hB.out).get9 (k := (ys.getD k 0).toNat) (by rw [HX.out]; omega)
      have HT : Hid ((thenL xs ys).take (k + 1) = (thenL xs ys).take k ++ [xs.getD (ys.getD k 0).toNat 0]) := by
        show _ = _
        rw [take_snoc9 0 (by rw [thenL_length]; exact hkl)]
        simp [thenL, List.getD, hkl]
      have HL : Hid (((thenL xs ys).take k).length = k) := by show _ = _; rw [List.length_take, thenL_length]; omega
      generalize (thenL xs ys).take k = out at hO HL HT
      generalize xs.getD (ys.getD k 0).toNat 0 = z at g2 HT
      have hin0 : 0 ≤ ys.getD k 0 := hin.1
      have hin1 : ys.getD k 0 < (n : Int) := hin.2
      generalize ys.getD k 0 = y at g1 g2 hin0 hin1
      obtain ⟨q, rfl⟩ : ∃ q : Nat, y = (q : Int) := ⟨y.toNat, by omega⟩
      rw [Int.toNat_natCast] at g2
      have hob : ∀ k', u6.ownBlock = some k' → w.heap.size ≤ k' := own_block_ge hO.out
      have hown : wr.ownsRow w.heap.size 3 1 u6 k (cellsI out) := by have h := hO.out; unfold Own at h; rw [HL.out] at h; exact h
      clear hkl hin
      go_wp2_with (at_builtin; refine wpList_append_own _ rfl _ _ 23 rfl w.heap.size 3 i0 (.int .i64 0) 1 8 Try.underlying23 hi hz0 hz1 hz2 rfl (by decide) _ _ _ rfl (hown.alloc _) ⟨wr.heap.size, 0, none⟩ 1 1 [.int .i64 z] rfl rfl (cell_new1 _ _ _) (ints_oneCell _ [z]) (by unfold maxLen; omega) (by omega) (by have := hB.out.size; simp; omega) ?_; intro v' w2 hown' hgrow _; have HO' : Hid (Own w2 w.heap.size v' (out ++ [z])) := own_push (w := wr) (v := u6) (by simpa [HL.out] using hown'); have HB' : Hid (Below w.heap.size w w2) := (hB.out.alloc hB.out.size _).grown hgrow (by have := hB.out.size; simp; omega) (fun k' e => hob k' e); clear hown' hgrow)
      go_roundw
      case rel => exact ⟨k + 1, by omega, by go_num, by show Own _ _ _ _; rw [HT.out]; exact HO'.out, HB'⟩
      case measure => simp [intOf]; omega
    · obtain rfl : k = n := by omega
      rw [List.take_of_length_le (by rw [thenL_length, HY.out]; exact Nat.le_refl _)] at hO
      obtain ⟨a', c', hv⟩ := hO.out.shape
      rw [thenL_length, HY.out] at hv
      subst hv
      go_wp2
      refine bodyPost_ret (v := .tuple #[.slice a' k c', .bool true]) (by simp [results, Try.results28, go_sem]; try rfl) rfl ?_
      exact ⟨a', c', rfl, hO.out, hB.out⟩

theorem spec_then_bad (ao bo : Option Addr) (n m c d : Nat) (xs ys : List Int) (w : World) (hx : xs.length = n) (hy : ys.length = m) (hn : n ≤ 17592186044416) (hm : m ≤ 17592186044416) (hcx : n ≤ c ∧ c ≤ maxLen) (hcy : m ≤ d ∧ d ≤ maxLen) (hr : Rd w ao xs) (hs : Rd w bo ys) (hbad : ¬ (ordB xs = true ∧ ordB ys = true ∧ n = m)) :
    Calls Try.prog 29 #[.slice ao n c, .slice bo m d] w fun e w' => e = .returned (.tuple #[.slice none 0 0, .bool false]) ∧ Below w.heap.size w w' := by
  have q1 := l4Order_c ao n c xs w hx hn hcx hr
  have q2 := l4Order_c bo m d ys w hy hm hcy hs
  cases h1 : ordB xs with
  | false =>
    rw [h1] at q1
    clear hbad q2 h1
    go_enter Try.func29, Try.ntmps29
    go_wp2_with fail
    refine q1.mono ?_
    rintro e w' ⟨rfl, hw⟩
    subst w'
    go_wp2
    refine bodyPost_ret (v := .tuple #[.slice none 0 0, .bool false]) (by simp [results, Try.results29, go_sem]; try rfl) rfl ?_
    exact ⟨rfl, Below.refl _ _⟩
  | true =>
    rw [h1] at q1
    cases h2 : ordB ys with
    | false =>
      rw [h2] at q2
      clear hbad h1 h2
      go_enter Try.func29, Try.ntmps29
      go_wp2_with fail
      refine q1.mono ?_
      rintro e w' ⟨rfl, hw⟩
      subst w'
      go_wp2_with fail
      refine q2.mono ?_
      rintro e w' ⟨rfl, hw⟩
      subst w'
      go_wp2
      refine bodyPost_ret (v := .tuple #[.slice none 0 0, .bool false]) (by simp [results, Try.results29, go_sem]; try rfl) rfl ?_
      exact ⟨rfl, Below.refl _ _⟩
    | true =>
      rw [h2] at q2
      have hne : ((n : Int) != (m : Int)) = true := by
        rw [bne_iff_ne]; intro e; exact hbad ⟨h1, h2, by omega⟩
      clear hbad h1 h2
      go_enter Try.func29, Try.ntmps29
      go_wp2_with fail
      refine q1.mono ?_
      rintro e w' ⟨rfl, hw⟩
      subst w'
      go_wp2_with fail
      refine q2.mono ?_
      rintro e w' ⟨rfl, hw⟩
      subst w'
      go_wp2
      refine bodyPost_ret (v := .tuple #[.slice none 0 0, .bool false]) (by simp [results, Try.results29, go_sem]; try rfl) rfl ?_
      exact ⟨rfl, Below.refl _ _⟩

theorem impl_then_bad (ao bo : Option Addr) (n m c d : Nat) (xs ys : List Int) (w : World) (hx : xs.length = n) (hy : ys.length = m) (hn : n ≤ 17592186044416) (hm : m ≤ 17592186044416) (hcx : n ≤ c ∧ c ≤ maxLen) (hcy : m ≤ d ∧ d ≤ maxLen) (hr : Rd w ao xs) (hs : Rd w bo ys) (hbad : ¬ (ordB xs = true ∧ ordB ys = true ∧ n = m)) :
    Calls Try.prog 28 #[.slice ao n c, .slice bo m d] w fun e w' => e = .returned (.tuple #[.slice none 0 0, .bool false]) ∧ Below w.heap.size w w' := by
  have q1 := isOrder_c ao n c xs w hx hn hcx hr
  have q2 : ∀ wx, Below w.heap.size w wx → Calls Try.prog 62 #[.slice bo m d] wx fun e w' => e = .returned (.bool (ordB ys)) ∧ Below wx.heap.size wx w' := fun wx hb => isOrder_c bo m d ys wx hy hm hcy (hs.later hb)
  cases h1 : ordB xs with
  | false =>
    rw [h1] at q1
    clear hbad q2 h1
    go_enter Try.func28, Try.ntmps28
    go_wp2_with fail
    refine q1.mono ?_
    rintro e w1 ⟨rfl, hb⟩
    have HB : Hid (Below w.heap.size w w1) := hb
    clear hb q1
    go_wp2
    refine bodyPost_ret (v := .tuple #[.slice none 0 0, .bool false]) (by simp [results, Try.results28, go_sem]; try rfl) rfl ?_
    exact ⟨rfl, HB.out⟩
  | true =>
    rw [h1] at q1
    cases h2 : ordB ys with
    | false =>
      rw [h2] at q2
      clear hbad h1 h2
      go_enter Try.func28, Try.ntmps28
      go_wp2_with fail
      refine q1.mono ?_
      rintro e w1 ⟨rfl, hb1⟩
      clear q1
      go_wp2_with fail
      refine (q2 _ hb1).mono ?_
      rintro e w2 ⟨rfl, hb2⟩
      have HB : Hid (Below w.heap.size w w2) := hb1.trans (hb2.mono hb1.size)
      clear hb1 hb2 q2
      go_wp2
      refine bodyPost_ret (v := .tuple #[.slice none 0 0, .bool false]) (by simp [results, Try.results28, go_sem]; try rfl) rfl ?_
      exact ⟨rfl, HB.out⟩
    | true =>
      rw [h2] at q2
      have hne : ((n : Int) != (m : Int)) = true := by
        rw [bne_iff_ne]; intro e; exact hbad ⟨h1, h2, by omega⟩
      clear hbad h1 h2
      go_enter Try.func28, Try.ntmps28
      go_wp2_with fail
      refine q1.mono ?_
      rintro e w1 ⟨rfl, hb1⟩
      clear q1
      go_wp2_with fail
      refine (q2 _ hb1).mono ?_
      rintro e w2 ⟨rfl, hb2⟩
      have HB : Hid (Below w.heap.size w w2) := hb1.trans (hb2.mono hb1.size)
      clear hb1 hb2 q2
      go_wp2
      refine bodyPost_ret (v := .tuple #[.slice none 0 0, .bool false]) (by simp [results, Try.results28, go_sem]; try rfl) rfl ?_
      exact ⟨rfl, HB.out⟩

set_option maxHeartbeats 2000000 in
theorem implThen_c (ao : Option Addr) (n c : Nat) (bo : Option Addr) (m d : Nat) (xs ys : List Int) (w : World) (hx : xs.length = n) (hy : ys.length = m) (hn : n ≤ 17592186044416) (hm : m ≤ 17592186044416) (hcx : n ≤ c ∧ c ≤ maxLen) (hcy : m ≤ d ∧ d ≤ maxLen) (hr : Rd w ao xs) (hs : Rd w bo ys) (zs : List Int) (fb : Bool) (p : Nat) (hF : thenF xs ys = (zs, fb)) (hp : zs.length = p) :
    Calls Try.prog 28 #[.slice ao n c, .slice bo m d] w fun e w' => ∃ a' c', e = .returned (.tuple #[.slice a' p c', .bool fb]) ∧ Own w' w.heap.size (.slice a' p c') zs ∧ Below w.heap.size w w' := by
  unfold thenF at hF
  rw [hx, hy] at hF
  by_cases h : ordB xs = true ∧ ordB ys = true ∧ n = m
  · rw [if_pos h] at hF
    simp only [Prod.mk.injEq] at hF
    obtain ⟨rfl, rfl⟩ := hF
    have h9 : n ≤ 9 := by have := ord_len h.1; omega
    obtain rfl : n = m := h.2.2
    rw [thenL_length, hy] at hp
    subst hp
    · exact implThen_at ao bo n c d xs ys w hx hy h9 hcx hcy h.1 h.2.1 hr hs
  · rw [if_neg h] at hF
    simp only [Prod.mk.injEq] at hF
    obtain ⟨rfl, rfl⟩ := hF
    simp at hp
    subst hp
    refine (impl_then_bad ao bo n m c d xs ys w hx hy hn hm hcx hcy hr hs h).mono ?_
    rintro e w' ⟨rfl, hb⟩
    exact ⟨none, 0, rfl, World.ownsRow_nil _ _ _ _, hb⟩

set_option maxHeartbeats 2000000 in
theorem specThen_c (ao : Option Addr) (n c : Nat) (bo : Option Addr) (m d : Nat) (xs ys : List Int) (w : World) (hx : xs.length = n) (hy : ys.length = m) (hn : n ≤ 17592186044416) (hm : m ≤ 17592186044416) (hcx : n ≤ c ∧ c ≤ maxLen) (hcy : m ≤ d ∧ d ≤ maxLen) (hr : Rd w ao xs) (hs : Rd w bo ys) (zs : List Int) (fb : Bool) (p : Nat) (hF : thenF xs ys = (zs, fb)) (hp : zs.length = p) :
    Calls Try.prog 29 #[.slice ao n c, .slice bo m d] w fun e w' => ∃ a' c', e = .returned (.tuple #[.slice a' p c', .bool fb]) ∧ Own w' w.heap.size (.slice a' p c') zs ∧ Below w.heap.size w w' := by
  unfold thenF at hF
  rw [hx, hy] at hF
  by_cases h : ordB xs = true ∧ ordB ys = true ∧ n = m
  · rw [if_pos h] at hF
    simp only [Prod.mk.injEq] at hF
    obtain ⟨rfl, rfl⟩ := hF
    have h9 : n ≤ 9 := by have := ord_len h.1; omega
    obtain rfl : n = m := h.2.2
    rw [thenL_length, hy] at hp
    subst hp
    · have q1 := l4Order_c ao n c xs w hx hn hcx hr
      have q2 := l4Order_c bo n d ys w hy hm hcy hs
      rw [h.1] at q1
      rw [h.2.1] at q2
      have q3 := l9Then_c ao bo n c d xs ys w hx hy h9 h.2.1 hr hs
      have hnn : ((n : Int) != (n : Int)) = false := by simp
      clear hx hy hr hs h
      go_enter Try.func29, Try.ntmps29
      go_wp2_with fail
      refine q1.mono ?_
      clear q1
      rintro e w' ⟨rfl, hw⟩
      subst w'
      go_wp2_with fail
      refine q2.mono ?_
      clear q2
      rintro e w' ⟨rfl, hw⟩
      subst w'
      go_wp2_with fail
      refine q3.mono ?_
      clear q3
      rintro e w1 ⟨a', c', rfl, ho, hb⟩
      have HO : Hid (Own w1 w.heap.size (.slice a' n c') (thenL xs ys)) := ho
      have HB : Hid (Below w.heap.size w w1) := hb
      clear ho hb
      go_wp2
      refine bodyPost_ret (v := .tuple #[.slice a' n c', .bool true]) (by simp [results, Try.results29, go_sem]; try rfl) rfl ?_
      exact ⟨a', c', rfl, HO.out, HB.out⟩
  · rw [if_neg h] at hF
    simp only [Prod.mk.injEq] at hF
    obtain ⟨rfl, rfl⟩ := hF
    simp at hp
    subst hp
    refine (spec_then_bad ao bo n m c d xs ys w hx hy hn hm hcx hcy hr hs h).mono ?_
    rintro e w' ⟨rfl, hb⟩
    exact ⟨none, 0, rfl, World.ownsRow_nil _ _ _ _, hb⟩

end Go.Proofs.Ytlepejafednlfaa
