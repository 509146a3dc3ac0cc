/- Chapter 8, the program: whether all of a pool is tagged; texts copied one by one. -/
import Derived.Test.YtnppmgnfignbcaaQ8
namespace Go.Proofs.Ytnppmgnfignbcaa
set_option linter.unusedVariables false
set_option maxRecDepth 1000000
set_option linter.unusedSimpArgs false
open Go.RowKit

theorem taggedB_step {seen acc : List Int} {pool : List ByteArray} {k : Nat} (hk : k < pool.length) : taggedB seen acc (pool.drop k) = if tagN (pool.getD k ByteArray.empty) ∈ acc ∨ tagN (pool.getD k ByteArray.empty) ∉ seen then false else taggedB seen (insL ltI (tagN (pool.getD k ByteArray.empty)) acc) (pool.drop (k + 1)) := by
  rw [List.drop_eq_getElem_cons hk, taggedB]
  simp [List.getD, hk]
theorem taggedB_end {seen acc : List Int} {pool : List ByteArray} {k : Nat} (hk : pool.length ≤ k) : taggedB seen acc (pool.drop k) = true := by
  rw [List.drop_of_length_le hk, taggedB]

set_option maxHeartbeats 4000000 in
theorem isTagged_c (po so : Option Addr) (n c m d : Nat) (xs : List ByteArray) (ys : List Int) (w : World) (hx : xs.length = n) (hy : ys.length = m) (hn : n ≤ 12) (hm : m ≤ 1000) (hr : RdS w po xs) (hs : Rd w so ys) (hz : ∀ s ∈ xs, s.size ≤ 9223372036854775807) (hR : Ris ltI ys) :
    Calls Try.prog 82 #[.slice po n c, .slice so m d] w fun e w' => e = .returned (.bool (taggedB ys [] xs)) ∧ Below w.heap.size w w' := by
  have HX : Hid (xs.length = n) := hx
  have HR : Hid (RdS w po xs) := hr
  have HZ : Hid (∀ s ∈ xs, s.size ≤ 9223372036854775807) := hz
  have HH : Hid (∀ t wx, Below w.heap.size w wx → Calls Try.prog 70 #[.slice so m d, .int .i64 t] wx fun e w' => e = .returned (.bool (decide (t ∈ ys))) ∧ Below wx.heap.size wx w') := fun t wx hb => has_c so m d ys t wx hy (by omega) (hs.later hb) hR
  have HV : Hid (taggedB ys [] (xs.drop 0) = taggedB ys [] xs) := rfl
  generalize taggedB ys [] xs = zb at HV ⊢
  clear hx hr hz hy hs hR
  go_enter Try.func82, Try.ntmps82
  go_wp2
  go_loopw [5, 11] (fun v iv wr => ∃ (k : Nat) (acc : List Int) (a' : Option Addr) (c' : Nat), k ≤ n ∧ iv = .int .i64 k ∧ v = .slice a' k c' ∧ Hid (acc.length = k) ∧ Hid (Ris ltI acc) ∧ Hid (Own wr w.heap.size (.slice a' k c') acc) ∧ Hid (taggedB ys acc (xs.drop k) = zb) ∧ Hid (Below w.heap.size w wr)) (fun _ iv _ => n - (intOf iv).toNat)
  case atStart => exact ⟨0, [], none, 0, Nat.zero_le _, rfl, rfl, rfl, List.Pairwise.nil, World.ownsRow_nil _ _ _ _, HV, Below.refl _ _⟩
  case round =>
    clear HV
    obtain ⟨k, acc, a', c', hk, rfl, rfl, HL, HS, HO, HV, HB⟩ := hrel
    by_cases hlt : k < n
    · have hkl : k < xs.length := by rw [HX.out]; exact hlt
      obtain ⟨b, o, rfl, g1⟩ := (HR.out.later HB.out).get hkl
      have hv := HV.out
      rw [taggedB_step hkl] at hv
      have hzk := HZ.out _ (mem_getD ByteArray.empty hkl)
      generalize xs.getD k ByteArray.empty = s at g1 hv hzk
      have q1 := fun wx => tagOfLetter_c s wx hzk
      generalize tagN s = t at q1 hv
      have HV2 : Hid ((if t ∈ acc ∨ t ∉ ys then false else taggedB ys (insL ltI t acc) (xs.drop (k + 1))) = zb) := hv
      have q2 := has_c a' k c' acc t wr HL.out (by omega) HO.out.rd'.2 HS.out
      clear hv HV hkl hzk
      go_wp2_with fail
      refine (q1 _).mono ?_
      clear q1
      rintro e w' ⟨rfl, hw⟩
      subst w'
      by_cases h1 : t ∈ acc
      · have HN : Hid (zb = false) := by show _ = _; rw [← HV2.out, if_pos (Or.inl h1)]
        rw [decide_eq_true h1] at q2
        clear h1
        go_wp2_with fail
        refine q2.mono ?_
        clear q2
        rintro e w1 ⟨rfl, hb⟩
        have HB1 : Hid (Below w.heap.size w w1) := HB.out.trans (hb.mono HB.out.size)
        clear hb
        go_wp2
        go_ret
        exact ⟨ret_bool HN.out.symm, HB1.out⟩
      · rw [decide_eq_false h1] at q2
        by_cases h2 : t ∈ ys
        · have HV3 : Hid (taggedB ys (insL ltI t acc) (xs.drop (k + 1)) = zb) := by show _ = _; rw [← HV2.out, if_neg (fun e => e.elim h1 (fun e => e h2))]
          have HIR : Hid (Ris ltI (insL ltI t acc)) := insL_ris ordI t HS.out h1
          have HIL : Hid ((insL ltI t acc).length = k + 1) := by show _ = _; rw [insL_length, HL.out]
          have HH2 : Hid (∀ wx, Below w.heap.size w wx → Calls Try.prog 70 #[.slice so m d, .int .i64 t] wx fun e w' => e = .returned (.bool true) ∧ Below wx.heap.size wx w') := fun wx hb => by have h := HH.out t wx hb; rw [decide_eq_true h2] at h; exact h
          clear h1 h2 HV2
          go_wp2_with fail
          refine q2.mono ?_
          clear q2
          rintro e w1 ⟨rfl, hb⟩
          have HB1 : Hid (Below w.heap.size w w1) := HB.out.trans (hb.mono HB.out.size)
          have HO1 : Hid (Own w1 w.heap.size (.slice a' k c') acc) := HO.out.later hb
          clear hb
          go_wp2_with fail
          refine (HH2.out _ HB1.out).mono ?_
          rintro e w2 ⟨rfl, hb⟩
          have HB2 : Hid (Below w.heap.size w w2) := HB1.out.trans (hb.mono HB1.out.size)
          have HO2 : Hid (Own w2 w.heap.size (.slice a' k c') acc) := HO1.out.later hb
          clear hb HH2
          have q3 := withI_c a' k c' acc t w2 HL.out (by omega) HO2.out.rd'.2 HO2.out.nil HS.out
          go_wp2_with fail
          refine q3.mono ?_
          clear q3
          rintro e w3 ⟨a3, c3, rfl, ho, hb⟩
          have HB3 : Hid (Below w.heap.size w w3) := HB2.out.trans (hb.mono HB2.out.size)
          have HO3 : Hid (Own w3 w.heap.size (.slice a3 (k + 1) c3) (insL ltI t acc)) := ho.mono HB2.out.size
          clear hb ho
          go_wp2
          go_roundw
          case rel => exact ⟨k + 1, _, a3, c3, by omega, by go_num, rfl, HIL, HIR, HO3, HV3, HB3⟩
          case measure => simp [intOf]; omega
        · have HN : Hid (zb = false) := by show _ = _; rw [← HV2.out, if_pos (Or.inr h2)]
          have HH2 : Hid (∀ wx, Below w.heap.size w wx → Calls Try.prog 70 #[.slice so m d, .int .i64 t] wx fun e w' => e = .returned (.bool false) ∧ Below wx.heap.size wx w') := fun wx hb => by have h := HH.out t wx hb; rw [decide_eq_false h2] at h; exact h
          clear h1 h2
          go_wp2_with fail
          refine q2.mono ?_
          clear q2
          rintro e w1 ⟨rfl, hb⟩
          have HB1 : Hid (Below w.heap.size w w1) := HB.out.trans (hb.mono HB.out.size)
          clear hb
          go_wp2_with fail
          refine (HH2.out _ HB1.out).mono ?_
          rintro e w2 ⟨rfl, hb⟩
          have HB2 : Hid (Below w.heap.size w w2) := HB1.out.trans (hb.mono HB1.out.size)
          clear hb HH2
          go_wp2
          go_ret
          exact ⟨ret_bool HN.out.symm, HB2.out⟩
    · have HN : Hid (zb = true) := by show _ = _; rw [← HV.out, taggedB_end (by rw [HX.out]; omega)]
      go_wp2
      go_ret
      exact ⟨ret_bool HN.out.symm, HB.out⟩

set_option maxHeartbeats 2000000 in
theorem each_c (ao : Option Addr) (n c : Nat) (xs : List ByteArray) (w : World) (hx : xs.length = n) (hn : n ≤ 1048576) (hr : RdS w ao xs) (hs : ∀ s ∈ xs, s.size ≤ 1000) :
    Calls Try.prog 64 #[.slice ao n c, .func (.func 65) #[] #[]] w fun e w' => ∃ a' c', e = .returned (.slice a' n c') ∧ OwnS w' w.heap.size (.slice a' n c') xs ∧ Below w.heap.size w w' := by
  obtain ⟨i0, hi, hz0, hz1, hz2⟩ := info_parts Try.infoStr
  have HX : Hid (xs.length = n) := hx
  have HR : Hid (RdS w ao xs) := hr
  have HZ : Hid (∀ s ∈ xs, s.size ≤ 1000) := hs
  clear hx hr hs
  go_enter Try.func64, Try.ntmps64
  go_wp2
  go_loopw [5, 10] (fun v i wr => ∃ k : Nat, k ≤ n ∧ i = .int .i64 k ∧ Hid (OwnS wr w.heap.size v (xs.take k)) ∧ Hid (Below w.heap.size w wr)) (fun _ i _ => n - (intOf i).toNat)
  case atStart => exact ⟨0, Nat.zero_le _, rfl, World.ownsRow_nil _ _ _ _, Below.refl _ _⟩
  case round =>
    obtain ⟨k, hk, rfl, hO, hB⟩ := hrel
    by_cases hlt : k < n
    · have hkl : k < xs.length := by rw [HX.out]; exact hlt
      obtain ⟨b, o, rfl, g1⟩ := (HR.out.later hB.out).get hkl
      have hzk := HZ.out _ (mem_getD ByteArray.empty hkl)
      have HT : Hid (xs.take (k + 1) = xs.take k ++ [xs.getD k ByteArray.empty]) := take_snoc ByteArray.empty hkl
      have hlen : (xs.take k).length = k := by rw [List.length_take]; omega
      generalize xs.getD k ByteArray.empty = x0 at g1 hzk HT
      have HL : Hid ((xs.take k).length = k) := hlen
      have qw := strClone_c x0 wr hzk
      generalize xs.take k = out at hO HL HT
      clear hlen hkl hzk
      go_wp2_with fail
      refine qw.mono ?_
      clear qw
      rintro e w1 ⟨rfl, hb⟩
      have HO1 : Hid (OwnS w1 w.heap.size u5 out) := hO.out.later hb
      have HB1 : Hid (Below w.heap.size w w1) := hB.out.trans (hb.mono hB.out.size)
      clear hb hO hB
      have hob : ∀ k', u5.ownBlock = some k' → w.heap.size ≤ k' := own_block_geS HO1.out
      have hown : w1.ownsRow w.heap.size 9 1 u5 k (cellsS out) := by have h := HO1.out; unfold OwnS at h; rw [HL.out] at h; exact h
      go_wp2_with (at_builtin; refine wpList_append_own _ rfl _ _ 29 rfl w.heap.size 9 i0 (.string ByteArray.empty) 1 16 Try.underlying29 hi hz0 hz1 hz2 rfl (by decide) _ _ _ rfl (hown.alloc _) ⟨w1.heap.size, 0, none⟩ 1 1 [.string x0] rfl rfl (cell_new1 _ _ _) (strs_oneCell [x0]) (by unfold maxLen; omega) (by omega) (by have := HB1.out.size; simp; omega) ?_; intro v' w2 hown' hgrow _; have HO' : Hid (OwnS w2 w.heap.size v' (out ++ [x0])) := own_pushS (w := w1) (v := u5) (by simpa [HL.out] using hown'); have HB' : Hid (Below w.heap.size w w2) := (HB1.out.alloc HB1.out.size _).grown hgrow (by have := HB1.out.size; simp; omega) (fun k' e => hob k' e); clear hown' hgrow)
      go_roundw
      case rel => exact ⟨k + 1, by omega, by go_num, by show OwnS _ _ _ _; rw [HT.out]; exact HO'.out, HB'⟩
      case measure => simp [intOf]; omega
    · obtain rfl : k = n := by omega
      rw [List.take_of_length_le (by rw [HX.out]; exact Nat.le_refl _)] at hO
      obtain ⟨a', c', hv⟩ := hO.out.shape
      rw [HX.out] at hv
      subst hv
      go_wp2
      go_ret
      exact ⟨a', c', rfl, hO.out, hB.out⟩

end Go.Proofs.Ytnppmgnfignbcaa
