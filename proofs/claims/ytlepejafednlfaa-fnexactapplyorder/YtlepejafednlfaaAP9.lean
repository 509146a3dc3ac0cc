/- Chapter 9: texts in an order: both sides. -/
import Derived.Test.YtlepejafednlfaaP9
import Derived.Test.YtlepejafednlfaaCL9
namespace Go.Proofs.Ytlepejafednlfaa
set_option linter.unusedVariables false
set_option maxRecDepth 1000000
set_option linter.unusedSimpArgs false
open Go.RowKit

set_option maxHeartbeats 4000000 in
theorem specApply_at (ao bo : Option Addr) (n c d : Nat) (xs : List Int) (ls : List ByteArray) (w : World) (hx : xs.length = n) (hy : ls.length = n) (hn : n ≤ 9) (hcx : n ≤ c ∧ c ≤ maxLen) (ho : ordB xs = true) (hr : Rd w ao xs) (hs : RdS w bo ls) (hz : ∀ s ∈ ls, s.size ≤ 1048576) :
    Calls Try.prog 43 #[.slice ao n c, .slice bo n d] w fun e w' => ∃ a' c', e = .returned (.tuple #[.slice a' n c', .bool true]) ∧ OwnS w' w.heap.size (.slice a' n c') (applyL xs ls) ∧ Below w.heap.size w w' := by
  obtain ⟨i0, hi, hz0, hz1, hz2⟩ := info_parts Try.infoStr
  have q1 := l4Order_c ao n c xs w hx (by omega) hcx hr
  rw [ho] at q1
  have HX : Hid (xs.length = n) := hx
  have HY : Hid (ls.length = n) := hy
  have HR : Hid (Rd w ao xs) := hr
  have HS : Hid (RdS w bo ls) := hs
  have HZ : Hid (∀ s ∈ ls, s.size ≤ 1048576) := hz
  have HIN : Hid (∀ k, k < n → 0 ≤ xs.getD k 0 ∧ xs.getD k 0 < (n : Int)) := fun k hk => by rw [← hx]; exact ord_in ho (by rw [hx]; exact hk)
  have hnn : ((n : Int) != (n : Int)) = false := by simp
  clear hx hy hr hs ho hcx hz
  go_enter Try.func43, Try.ntmps43
  go_wp2_with fail
  refine q1.mono ?_
  clear q1
  rintro e w1 ⟨rfl, hw⟩
  have HB0 : Hid (Below w.heap.size w w1) := by show Below _ _ _; rw [hw]; exact Below.refl _ _
  clear hw
  go_wp2
  go_loopw [6, 21] (fun v i wr => ∃ k : Nat, k ≤ n ∧ i = .int .i64 k ∧ Hid (OwnS wr w.heap.size v ((applyL xs ls).take k)) ∧ Hid (Below w.heap.size w wr)) (fun _ i _ => n - (intOf i).toNat)
  case atStart => exact ⟨0, Nat.zero_le _, rfl, World.ownsRow_nil _ _ _ _, HB0⟩
  case round =>
    obtain ⟨k, hk, rfl, hO, hB⟩ := hrel
    by_cases hlt : k < n
    · have hkl : k < xs.length := by rw [HX.out]; exact hlt
      obtain ⟨b, o, rfl, g1⟩ := (HR.out.later hB.out).get9 hkl
      have hin := HIN.out k hlt
      have hql : (xs.getD k 0).toNat < ls.length := by rw [HY.out]; omega
      obtain ⟨b2, o2, rfl, g2⟩ := (HS.out.later hB.out).get9 (k := (xs.getD k 0).toNat) hql
      have hzk : (ls.getD (xs.getD k 0).toNat ByteArray.empty).size ≤ 1048576 := HZ.out _ (getD_mem9 _ hql)
      have HT : Hid ((applyL xs ls).take (k + 1) = (applyL xs ls).take k ++ [ls.getD (xs.getD k 0).toNat ByteArray.empty]) := by
        show _ = _
        rw [take_snoc9 ByteArray.empty (by rw [applyL_length]; exact hkl)]
        simp [applyL, List.getD, hkl]
      have HL : Hid (((applyL xs ls).take k).length = k) := by show _ = _; rw [List.length_take, applyL_length]; omega
      generalize (applyL xs ls).take k = out at hO HL HT
      generalize ls.getD (xs.getD k 0).toNat ByteArray.empty = z at g2 HT hzk
      have hin0 : 0 ≤ xs.getD k 0 := hin.1
      have hin1 : xs.getD k 0 < (n : Int) := hin.2
      clear hql
      generalize xs.getD k 0 = y at g1 g2 hin0 hin1
      obtain ⟨q, rfl⟩ : ∃ q : Nat, y = (q : Int) := ⟨y.toNat, by omega⟩
      rw [Int.toNat_natCast] at g2
      clear hkl hin
      have hob : ∀ k', u6.ownBlock = some k' → w.heap.size ≤ k' := own_block_geS hO.out
      have hown : wr.ownsRow w.heap.size 9 1 u6 k (cellsS out) := by have h := hO.out; unfold OwnS at h; rw [HL.out] at h; exact h
      go_wp2_with (at_builtin; refine wpList_append_own _ rfl _ _ 29 rfl w.heap.size 9 i0 (.string ByteArray.empty) 1 16 Try.underlying29 hi hz0 hz1 hz2 rfl (by decide) _ _ _ rfl (hown.alloc _) ⟨wr.heap.size, 0, none⟩ 1 1 [.string z] rfl rfl (cell_new1 _ _ _) (strs_oneCell [z]) (by unfold maxLen; omega) (by omega) (by have := hB.out.size; simp; omega) ?_; intro v' w2 hown' hgrow _; have HO' : Hid (OwnS w2 w.heap.size v' (out ++ [z])) := own_pushS (w := wr) (v := u6) (by simpa [HL.out] using hown'); have HB' : Hid (Below w.heap.size w w2) := (hB.out.alloc hB.out.size _).grown hgrow (by have := hB.out.size; simp; omega) (fun k' e => hob k' e); clear hown' hgrow)
      go_roundw
      case rel => exact ⟨k + 1, by omega, by go_num, by show OwnS _ _ _ _; rw [HT.out]; exact HO'.out, HB'⟩
      case measure => simp [intOf]; omega
    · obtain rfl : k = n := by omega
      rw [List.take_of_length_le (by rw [applyL_length, HX.out]; exact Nat.le_refl _)] at hO
      obtain ⟨a', c', hv⟩ := hO.out.shape
      rw [applyL_length, HX.out] at hv
      subst hv
      go_wp2
      refine bodyPost_ret (v := .tuple #[.slice a' k c', .bool true]) (by simp [results, Try.results43, go_sem]; try rfl) rfl ?_
      exact ⟨a', c', rfl, hO.out, hB.out⟩

theorem specApply_c (ao : Option Addr) (n c : Nat) (bo : Option Addr) (m d : Nat) (xs : List Int) (ls : List ByteArray) (w : World) (hx : xs.length = n) (hy : ls.length = m) (hn : n ≤ 17592186044416) (hm : m ≤ 17592186044416) (hcx : n ≤ c ∧ c ≤ maxLen) (hr : Rd w ao xs) (hs : RdS w bo ls) (hz : ∀ s ∈ ls, s.size ≤ 1048576) (zs : List ByteArray) (fb : Bool) (p : Nat) (hF : applyF xs ls = (zs, fb)) (hp : zs.length = p) :
    Calls Try.prog 43 #[.slice ao n c, .slice bo m d] w fun e w' => ∃ a' c', e = .returned (.tuple #[.slice a' p c', .bool fb]) ∧ OwnS w' w.heap.size (.slice a' p c') zs ∧ Below w.heap.size w w' := by
  unfold applyF at hF
  rw [hx, hy] at hF
  by_cases h : ordB xs = true ∧ m = n
  · rw [if_pos h] at hF
    simp only [Prod.mk.injEq] at hF
    obtain ⟨rfl, rfl⟩ := hF
    have h9 : n ≤ 9 := by have := ord_len h.1; omega
    obtain rfl : m = n := h.2
    rw [applyL_length, hx] at hp
    subst hp
    exact specApply_at ao bo m c d xs ls w hx hy h9 hcx h.1 hr hs hz
  · rw [if_neg h] at hF
    simp only [Prod.mk.injEq] at hF
    obtain ⟨rfl, rfl⟩ := hF
    simp at hp
    subst hp
    have q1 := l4Order_c ao n c xs w hx hn hcx hr
    cases h1 : ordB xs with
    | false =>
      rw [h1] at q1
      clear h h1 hs hz
      go_enter Try.func43, Try.ntmps43
      go_wp2_with fail
      refine q1.mono ?_
      clear q1
      rintro e w1 ⟨rfl, hw⟩
      have HB0 : Hid (Below w.heap.size w w1) := by show Below _ _ _; rw [hw]; exact Below.refl _ _
      clear hw
      go_wp2
      refine bodyPost_ret (v := .tuple #[.slice none 0 0, .bool false]) (by simp [results, Try.results43, go_sem]; try rfl) rfl ?_
      exact ⟨none, 0, rfl, World.ownsRow_nil _ _ _ _, HB0.out⟩
    | true =>
      rw [h1] at q1
      have hne : ((m : Int) != (n : Int)) = true := by
        rw [bne_iff_ne]; intro e; exact h ⟨h1, by omega⟩
      clear h h1 hs hz
      go_enter Try.func43, Try.ntmps43
      go_wp2_with fail
      refine q1.mono ?_
      clear q1
      rintro e w1 ⟨rfl, hw⟩
      have HB0 : Hid (Below w.heap.size w w1) := by show Below _ _ _; rw [hw]; exact Below.refl _ _
      clear hw
      go_wp2
      refine bodyPost_ret (v := .tuple #[.slice none 0 0, .bool false]) (by simp [results, Try.results43, go_sem]; try rfl) rfl ?_
      exact ⟨none, 0, rfl, World.ownsRow_nil _ _ _ _, HB0.out⟩

set_option maxHeartbeats 4000000 in
theorem implApply_at (ao bo : Option Addr) (n c d : Nat) (xs : List Int) (ls : List ByteArray) (w : World) (hx : xs.length = n) (hy : ls.length = n) (hn : n ≤ 9) (hcx : n ≤ c ∧ c ≤ maxLen) (ho : ordB xs = true) (hr : Rd w ao xs) (hs : RdS w bo ls) (hz : ∀ s ∈ ls, s.size ≤ 1048576) :
    Calls Try.prog 19 #[.slice ao n c, .slice bo n d] w fun e w' => ∃ a' c', e = .returned (.tuple #[.slice a' n c', .bool true]) ∧ OwnS w' w.heap.size (.slice a' n c') (applyL xs ls) ∧ Below w.heap.size w w' := by
  obtain ⟨i0, hi, hz0, hz1, hz2⟩ := info_parts Try.infoStr
  have q1 := isOrder_c ao n c xs w hx (by omega) hcx hr
  rw [ho] at q1
  have HX : Hid (xs.length = n) := hx
  have HY : Hid (ls.length = n) := hy
  have HR : Hid (Rd w ao xs) := hr
  have HS : Hid (RdS w bo ls) := hs
  have HZ : Hid (∀ s ∈ ls, s.size ≤ 1048576) := hz
  have HIN : Hid (∀ k, k < n → 0 ≤ xs.getD k 0 ∧ xs.getD k 0 < (n : Int)) := fun k hk => by rw [← hx]; exact ord_in ho (by rw [hx]; exact hk)
  have hnn : ((n : Int) != (n : Int)) = false := by simp
  clear hx hy hr hs ho hcx hz
  go_enter Try.func19, Try.ntmps19
  go_wp2_with fail
  refine q1.mono ?_
  clear q1
  rintro e w1 ⟨rfl, hb⟩
  have HB0 : Hid (Below w.heap.size w w1) := hb
  clear hb
  go_wp2
  go_loopw [6, 21] (fun v i wr => ∃ k : Nat, k ≤ n ∧ i = .int .i64 k ∧ Hid (OwnS wr w.heap.size v ((applyL xs ls).take k)) ∧ Hid (Below w.heap.size w wr)) (fun _ i _ => n - (intOf i).toNat)
  case atStart => exact ⟨0, Nat.zero_le _, rfl, World.ownsRow_nil _ _ _ _, HB0⟩
  case round =>
    obtain ⟨k, hk, rfl, hO, hB⟩ := hrel
    by_cases hlt : k < n
    · have hkl : k < xs.length := by rw [HX.out]; exact hlt
      obtain ⟨b, o, rfl, g1⟩ := (HR.out.later hB.out).get9 hkl
      have hin := HIN.out k hlt
      have hql : (xs.getD k 0).toNat < ls.length := by rw [HY.out]; omega
      obtain ⟨b2, o2, rfl, g2⟩ := (HS.out.later hB.out).get9 (k := (xs.getD k 0).toNat) hql
      have hzk : (ls.getD (xs.getD k 0).toNat ByteArray.empty).size ≤ 1048576 := HZ.out _ (getD_mem9 _ hql)
      have HT : Hid ((applyL xs ls).take (k + 1) = (applyL xs ls).take k ++ [ls.getD (xs.getD k 0).toNat ByteArray.empty]) := by
        show _ = _
        rw [take_snoc9 ByteArray.empty (by rw [applyL_length]; exact hkl)]
        simp [applyL, List.getD, hkl]
      have HL : Hid (((applyL xs ls).take k).length = k) := by show _ = _; rw [List.length_take, applyL_length]; omega
      generalize (applyL xs ls).take k = out at hO HL HT
      generalize ls.getD (xs.getD k 0).toNat ByteArray.empty = z at g2 HT hzk
      have hin0 : 0 ≤ xs.getD k 0 := hin.1
      have hin1 : xs.getD k 0 < (n : Int) := hin.2
      clear hql
      generalize xs.getD k 0 = y at g1 g2 hin0 hin1
      obtain ⟨q, rfl⟩ : ∃ q : Nat, y = (q : Int) := ⟨y.toNat, by omega⟩
      rw [Int.toNat_natCast] at g2
      clear hkl hin
      have qc := strClone9_c z wr hzk
      go_wp2_with fail
      refine qc.mono ?_
      clear qc
      rintro e w3 ⟨rfl, hb⟩
      have HO3 : Hid (OwnS w3 w.heap.size u6 out) := hO.out.later hb
      have HB3 : Hid (Below w.heap.size w w3) := hB.out.trans (hb.mono hB.out.size)
      clear hb hO hB
      have hob : ∀ k', u6.ownBlock = some k' → w.heap.size ≤ k' := own_block_geS HO3.out
      have hown : w3.ownsRow w.heap.size 9 1 u6 k (cellsS out) := by have h := HO3.out; unfold OwnS at h; rw [HL.out] at h; exact h
      go_wp2_with (at_builtin; refine wpList_append_own _ rfl _ _ 29 rfl w.heap.size 9 i0 (.string ByteArray.empty) 1 16 Try.underlying29 hi hz0 hz1 hz2 rfl (by decide) _ _ _ rfl (hown.alloc _) ⟨w3.heap.size, 0, none⟩ 1 1 [.string z] rfl rfl (cell_new1 _ _ _) (strs_oneCell [z]) (by unfold maxLen; omega) (by omega) (by have := HB3.out.size; simp; omega) ?_; intro v' w2 hown' hgrow _; have HO' : Hid (OwnS w2 w.heap.size v' (out ++ [z])) := own_pushS (w := w3) (v := u6) (by simpa [HL.out] using hown'); have HB' : Hid (Below w.heap.size w w2) := (HB3.out.alloc HB3.out.size _).grown hgrow (by have := HB3.out.size; simp; omega) (fun k' e => hob k' e); clear hown' hgrow)
      go_roundw
      case rel => exact ⟨k + 1, by omega, by go_num, by show OwnS _ _ _ _; rw [HT.out]; exact HO'.out, HB'⟩
      case measure => simp [intOf]; omega
    · obtain rfl : k = n := by omega
      rw [List.take_of_length_le (by rw [applyL_length, HX.out]; exact Nat.le_refl _)] at hO
      obtain ⟨a', c', hv⟩ := hO.out.shape
      rw [applyL_length, HX.out] at hv
      subst hv
      go_wp2
      refine bodyPost_ret (v := .tuple #[.slice a' k c', .bool true]) (by simp [results, Try.results19, go_sem]; try rfl) rfl ?_
      exact ⟨a', c', rfl, hO.out, hB.out⟩

theorem implApply_c (ao : Option Addr) (n c : Nat) (bo : Option Addr) (m d : Nat) (xs : List Int) (ls : List ByteArray) (w : World) (hx : xs.length = n) (hy : ls.length = m) (hn : n ≤ 17592186044416) (hm : m ≤ 17592186044416) (hcx : n ≤ c ∧ c ≤ maxLen) (hr : Rd w ao xs) (hs : RdS w bo ls) (hz : ∀ s ∈ ls, s.size ≤ 1048576) (zs : List ByteArray) (fb : Bool) (p : Nat) (hF : applyF xs ls = (zs, fb)) (hp : zs.length = p) :
    Calls Try.prog 19 #[.slice ao n c, .slice bo m d] w fun e w' => ∃ a' c', e = .returned (.tuple #[.slice a' p c', .bool fb]) ∧ OwnS w' w.heap.size (.slice a' p c') zs ∧ Below w.heap.size w w' := by
  unfold applyF at hF
  rw [hx, hy] at hF
  by_cases h : ordB xs = true ∧ m = n
  · rw [if_pos h] at hF
    simp only [Prod.mk.injEq] at hF
    obtain ⟨rfl, rfl⟩ := hF
    have h9 : n ≤ 9 := by have := ord_len h.1; omega
    obtain rfl : m = n := h.2
    rw [applyL_length, hx] at hp
    subst hp
    exact implApply_at ao bo m c d xs ls w hx hy h9 hcx h.1 hr hs hz
  · rw [if_neg h] at hF
    simp only [Prod.mk.injEq] at hF
    obtain ⟨rfl, rfl⟩ := hF
    simp at hp
    subst hp
    have q1 := isOrder_c ao n c xs w hx hn hcx hr
    cases h1 : ordB xs with
    | false =>
      rw [h1] at q1
      clear h h1 hs hz
      go_enter Try.func19, Try.ntmps19
      go_wp2_with fail
      refine q1.mono ?_
      clear q1
      rintro e w1 ⟨rfl, hb⟩
      have HB0 : Hid (Below w.heap.size w w1) := hb
      clear hb
      go_wp2
      refine bodyPost_ret (v := .tuple #[.slice none 0 0, .bool false]) (by simp [results, Try.results19, go_sem]; try rfl) rfl ?_
      exact ⟨none, 0, rfl, World.ownsRow_nil _ _ _ _, HB0.out⟩
    | true =>
      rw [h1] at q1
      have hne : ((m : Int) != (n : Int)) = true := by
        rw [bne_iff_ne]; intro e; exact h ⟨h1, by omega⟩
      clear h h1 hs hz
      go_enter Try.func19, Try.ntmps19
      go_wp2_with fail
      refine q1.mono ?_
      clear q1
      rintro e w1 ⟨rfl, hb⟩
      have HB0 : Hid (Below w.heap.size w w1) := hb
      clear hb
      go_wp2
      refine bodyPost_ret (v := .tuple #[.slice none 0 0, .bool false]) (by simp [results, Try.results19, go_sem]; try rfl) rfl ?_
      exact ⟨none, 0, rfl, World.ownsRow_nil _ _ _ _, HB0.out⟩

end Go.Proofs.Ytlepejafednlfaa
