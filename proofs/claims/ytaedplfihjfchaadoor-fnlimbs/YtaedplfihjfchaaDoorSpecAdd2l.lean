/- The contract of the specification's l1Add: limbs of the sum. -/
import Derived.Test.YtaedplfihjfchaaDoorSpecAddl
namespace Go.Proofs.YtaedplfihjfchaaDoor
set_option linter.unusedVariables false
set_option maxRecDepth 1000000
set_option linter.unusedSimpArgs false
open Go.RowKit

theorem cell_new1 (w : World) (v : Value) (t : TypeId) : ∀ j u, [v][j]? = some u → (w.alloc (.cells #[v] t)).cell? ((⟨w.heap.size, 0, none⟩ : Addr).add j) = some u := by
  intro j u hj
  match j, hj with
  | 0, hj => simp at hj; subst hj; simp [Addr.add]

theorem own_push {w w1 : World} {base : Nat} {v v' : Value} {out : List Int} {x : Int} (h : w1.ownsRow base 3 1 v' (out.length + 1) (cellsI out ++ [.int .i64 x])) : Own w1 base v' (out ++ [x]) := by
  unfold Own
  have e : cellsI (out ++ [x]) = cellsI out ++ [.int .i64 x] := by simp [cellsI]
  rw [e]; simpa using h

theorem own_block_ge {w : World} {base : Nat} {v : Value} {xs : List Int} (h : Own w base v xs) : ∀ k, v.ownBlock = some k → base ≤ k := fun k hk => (World.ownsRow.lt h k hk).1

set_option maxHeartbeats 1000000 in
theorem l1Add_c (ao bo : Option Addr) (n m c d : Nat) (xs ys : List Int) (w : World) (hx : xs.length = n) (hy : ys.length = m) (hn : n ≤ 1000000000) (hm : m ≤ 1000000000) (hr : Rd w ao xs) (hs : Rd w bo ys) (dx : Digs xs) (dy : Digs ys) (p : Nat) (hp : (bigL (val xs + val ys)).length = p) :
    Calls Tryd.prog 33 #[.slice ao n c, .slice bo m d] w fun e w' => ∃ a' c', e = .returned (.slice a' p c') ∧ Own w' w.heap.size (.slice a' p c') (bigL (val xs + val ys)) ∧ Below w.heap.size w w' := by
  obtain ⟨i0, hi, hz0, hz1, hz2⟩ := info_parts Tryd.infoInt
  obtain ⟨M, hM1, hM2, hM3⟩ : ∃ M : Nat, n ≤ M ∧ m ≤ M ∧ M ≤ 1000000000 := ⟨max n m, by omega, by omega, by omega⟩
  have HX : Hid (xs.length = n) := hx
  have HY : Hid (ys.length = m) := hy
  have HR : Hid (Rd w ao xs) := hr
  have HS : Hid (Rd w bo ys) := hs
  have HD : Hid (Digs xs ∧ Digs ys) := ⟨dx, dy⟩
  have HP : Hid ((bigL (val xs + val ys)).length = p) := hp
  clear hx hy hr hs dx dy hp
  go_enter Tryd.func33, Tryd.ntmps33
  go_wp2
  go_loopw [5, 6, 7] (fun v cv i wr => ∃ (k : Nat) (cy : Int) (out : List Int), i = .int .i64 k ∧ cv = .int .i64 cy ∧ 0 ≤ cy ∧ cy ≤ 1 ∧ k ≤ M + 1 ∧ (k = M + 1 → cy = 0) ∧ Hid (Own wr w.heap.size v out) ∧ Hid (out.length = k ∧ Digs out ∧ val (out ++ [val (xs.drop k) + val (ys.drop k) + cy]) = val xs + val ys) ∧ Hid (Below w.heap.size w wr)) (fun _ _ i _ => M + 2 - (intOf i).toNat)
  case atStart => exact ⟨0, 0, [], rfl, rfl, by omega, by omega, by omega, fun _ => rfl, World.ownsRow_nil _ _ _ _, ⟨rfl, digs_nil, by simp [val]⟩, Below.refl _ _⟩
  case round =>
    obtain ⟨k, cy, out, rfl, rfl, c0, c1, hk, hk2, hO, hV, hB⟩ := hrel
    by_cases hgo : k < n ∨ k < m ∨ 0 < cy
    · have hkM : k ≤ M := by rcases Nat.lt_or_ge M k with h | h <;> omega
      have dX := HD.out.1.getD k
      have dY := HD.out.2.getD k
      have HS1 : Hid (val ((out ++ [(xs.getD k 0 + ys.getD k 0 + cy) % 65536]) ++ [val (xs.drop (k + 1)) + val (ys.drop (k + 1)) + (xs.getD k 0 + ys.getD k 0 + cy) / 65536]) = val xs + val ys) := add_round hV.out.2.2
      generalize hgx : xs.getD k 0 = x at dX HS1
      generalize hgy : ys.getD k 0 = y at dY HS1
      have HGX : Hid (xs.getD k 0 = x) := hgx
      have HGY : Hid (ys.getD k 0 = y) := hgy
      have hend : k = M → (x + y + cy) / 65536 = 0 := fun e => by
        have e1 : x = 0 := by rw [← hgx]; simp [List.getD, List.getElem?_eq_none (show xs.length ≤ k by rw [HX.out]; omega)]
        have e2 : y = 0 := by rw [← hgy]; simp [List.getD, List.getElem?_eq_none (show ys.length ≤ k by rw [HY.out]; omega)]
        omega
      have HE : Hid (k = M → (x + y + cy) / 65536 = 0) := hend
      have HK2 : Hid (k = M + 1 → cy = 0) := hk2
      have hown : wr.ownsRow w.heap.size 3 1 u5 out.length (cellsI out) := hO.out
      have HOl : Hid (out.length = k) := hV.out.1
      have hob : ∀ k', u5.ownBlock = some k' → w.heap.size ≤ k' := own_block_ge hO.out
      clear hgx hgy hend hk2
      have hcond : k < n ∨ (¬ k < n ∧ k < m) ∨ (¬ k < n ∧ ¬ k < m ∧ 0 < cy) := by omega
      clear hgo
      have hol : out.length ≤ M := by rw [HOl.out]; exact hkM
      rcases hcond with h1 | ⟨h1, h2⟩ | ⟨h1, h2, h3⟩
      · go_wp2_with fail
        refine (l1At_c ao n c k xs _ HX.out (by omega) (by omega) (HR.out.later hB.out)).mono ?_
        rw [HGX.out]
        rintro e w1 ⟨rfl, hw⟩
        subst w1
        go_wp2_with fail
        refine (l1At_c bo m d k ys _ HY.out (by omega) (by omega) (HS.out.later hB.out)).mono ?_
        rw [HGY.out]
        rintro e w1 ⟨rfl, hw⟩
        subst w1
        go_wp2_with (at_builtin; refine wpList_append_own _ rfl _ _ 23 rfl w.heap.size 3 i0 (.int .i64 0) 1 8 Tryd.underlying23 hi hz0 hz1 hz2 rfl (by decide) _ _ _ rfl (hown.alloc _) ⟨wr.heap.size, 0, none⟩ 1 1 [.int .i64 ((x + y + cy) % 65536)] rfl rfl (cell_new1 _ _ _) (ints_oneCell .i64 [(x + y + cy) % 65536]) (by unfold maxLen; omega) (by omega) (by have := hB.out.size; simp; omega) ?_; intro v' w2 hown' hgrow _; have HO' : Hid (Own w2 w.heap.size v' (out ++ [(x + y + cy) % 65536])) := own_push (w := wr) (v := u5) hown'; have HB' : Hid (Below w.heap.size w w2) := (hB.out.alloc hB.out.size _).grown hgrow (by have := hB.out.size; simp; omega) (fun k' e => hob k' e); clear hown' hgrow)
        go_roundw
        case rel => exact ⟨k + 1, (x + y + cy) / 65536, out ++ [(x + y + cy) % 65536], by go_num, rfl, by omega, by omega, by omega, fun e => HE.out (by omega), HO', ⟨by simp; exact HOl.out, hV.out.2.1.append (digs_cons (by omega) (by omega) digs_nil), HS1.out⟩, HB'⟩
        case measure => simp [intOf]; omega
      · go_wp2_with fail
        refine (l1At_c ao n c k xs _ HX.out (by omega) (by omega) (HR.out.later hB.out)).mono ?_
        rw [HGX.out]
        rintro e w1 ⟨rfl, hw⟩
        subst w1
        go_wp2_with fail
        refine (l1At_c bo m d k ys _ HY.out (by omega) (by omega) (HS.out.later hB.out)).mono ?_
        rw [HGY.out]
        rintro e w1 ⟨rfl, hw⟩
        subst w1
        go_wp2_with (at_builtin; refine wpList_append_own _ rfl _ _ 23 rfl w.heap.size 3 i0 (.int .i64 0) 1 8 Tryd.underlying23 hi hz0 hz1 hz2 rfl (by decide) _ _ _ rfl (hown.alloc _) ⟨wr.heap.size, 0, none⟩ 1 1 [.int .i64 ((x + y + cy) % 65536)] rfl rfl (cell_new1 _ _ _) (ints_oneCell .i64 [(x + y + cy) % 65536]) (by unfold maxLen; omega) (by omega) (by have := hB.out.size; simp; omega) ?_; intro v' w2 hown' hgrow _; have HO' : Hid (Own w2 w.heap.size v' (out ++ [(x + y + cy) % 65536])) := own_push (w := wr) (v := u5) hown'; have HB' : Hid (Below w.heap.size w w2) := (hB.out.alloc hB.out.size _).grown hgrow (by have := hB.out.size; simp; omega) (fun k' e => hob k' e); clear hown' hgrow)
        go_roundw
        case rel => exact ⟨k + 1, (x + y + cy) / 65536, out ++ [(x + y + cy) % 65536], by go_num, rfl, by omega, by omega, by omega, fun e => HE.out (by omega), HO', ⟨by simp; exact HOl.out, hV.out.2.1.append (digs_cons (by omega) (by omega) digs_nil), HS1.out⟩, HB'⟩
        case measure => simp [intOf]; omega
      · go_wp2_with fail
        refine (l1At_c ao n c k xs _ HX.out (by omega) (by omega) (HR.out.later hB.out)).mono ?_
        rw [HGX.out]
        rintro e w1 ⟨rfl, hw⟩
        subst w1
        go_wp2_with fail
        refine (l1At_c bo m d k ys _ HY.out (by omega) (by omega) (HS.out.later hB.out)).mono ?_
        rw [HGY.out]
        rintro e w1 ⟨rfl, hw⟩
        subst w1
        go_wp2_with (at_builtin; refine wpList_append_own _ rfl _ _ 23 rfl w.heap.size 3 i0 (.int .i64 0) 1 8 Tryd.underlying23 hi hz0 hz1 hz2 rfl (by decide) _ _ _ rfl (hown.alloc _) ⟨wr.heap.size, 0, none⟩ 1 1 [.int .i64 ((x + y + cy) % 65536)] rfl rfl (cell_new1 _ _ _) (ints_oneCell .i64 [(x + y + cy) % 65536]) (by unfold maxLen; omega) (by omega) (by have := hB.out.size; simp; omega) ?_; intro v' w2 hown' hgrow _; have HO' : Hid (Own w2 w.heap.size v' (out ++ [(x + y + cy) % 65536])) := own_push (w := wr) (v := u5) hown'; have HB' : Hid (Below w.heap.size w w2) := (hB.out.alloc hB.out.size _).grown hgrow (by have := hB.out.size; simp; omega) (fun k' e => hob k' e); clear hown' hgrow)
        go_roundw
        case rel => exact ⟨k + 1, (x + y + cy) / 65536, out ++ [(x + y + cy) % 65536], by go_num, rfl, by omega, by omega, by omega, fun e => HE.out (by omega), HO', ⟨by simp; exact HOl.out, hV.out.2.1.append (digs_cons (by omega) (by omega) digs_nil), HS1.out⟩, HB'⟩
        case measure => simp [intOf]; omega
    · have h1 : ¬ k < n := fun h => hgo (Or.inl h)
      have h2 : ¬ k < m := fun h => hgo (Or.inr (Or.inl h))
      have h3 : cy = 0 := by omega
      subst h3
      clear hgo
      obtain ⟨a5, c5, hv5⟩ := hO.out.shape
      subst hv5
      have HN : Hid (val out = val xs + val ys) := by
        have := hV.out.2.2
        rw [List.drop_eq_nil_of_le (by rw [HX.out]; omega), List.drop_eq_nil_of_le (by rw [HY.out]; omega)] at this
        simp only [val, Int.add_zero, val_snoc_zero] at this
        exact this
      go_wp2_with fail
      refine (l1Trim_c a5 out.length c5 out _ (by rw [hV.out.1]; omega) hO.out.rdS).mono ?_
      have ht : trim out = bigL (val xs + val ys) := by rw [trim_bigL hV.out.2.1, HN.out]
      have hO2 := hO.out.trimmed
      rw [ht] at hO2
      rw [ht, HP.out]
      rw [HP.out] at hO2
      have HO2 : Hid (Own wr w.heap.size (.slice a5 p c5) (bigL (val xs + val ys))) := hO2
      clear ht hO2
      rintro e w1 ⟨rfl, hw, _⟩
      subst w1
      go_wp2
      go_ret
      exact ⟨a5, c5, rfl, HO2.out, hB.out⟩

end Go.Proofs.YtaedplfihjfchaaDoor
