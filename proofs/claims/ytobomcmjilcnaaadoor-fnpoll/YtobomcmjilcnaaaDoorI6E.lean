/- Chapter 6, the program's side: parts of all secrets, roots to all secrets; a part, a sum, a number opened. -/
import Derived.Test.YtobomcmjilcnaaaDoorI6S
namespace Go.Proofs.YtobomcmjilcnaaaDoor
set_option linter.unusedVariables false
set_option maxRecDepth 1000000
set_option linter.unusedSimpArgs false
open Go.RowKit

theorem partsOpening1_c (g : Nat) (x y : Int) (q : Nat) (w : World) (hC : C2 w g x y) (hx : 0 ≤ x ∧ x < 2999) (hq : q ≤ 1498) :
    Calls Tryd.prog 54 #[.int .i64 q, .pointer (some ⟨g, 0, none⟩)] w fun e w' => e = .returned (.int .i64 (pw x q)) ∧ w' = w := by
  obtain ⟨c0, c1, c2, c3⟩ := hC
  have HP : Hid (∀ wx, Calls Tryd.prog 55 #[.int .i64 x, .int .i64 q] wx fun e w' => e = .returned (.int .i64 (pw x q)) ∧ w' = wx) := fun wx => powerOfRest_c x q wx hx.1 hx.2 (by omega)
  generalize pw x q = r at HP ⊢
  go_enter Tryd.func54, Tryd.ntmps54
  go_wp2_with fail
  refine (HP.out _).mono ?_
  rintro e w' ⟨rfl, hw⟩
  subst w'
  go_wp2
  go_ret
  exact ⟨rfl, rfl⟩

theorem rootL_take {xs : List Int} {k : Nat} (h : k < xs.length) : rootL (xs.take (k + 1)) = rootL (xs.take k) ++ [pw 4 (xs.getD k 0).toNat] := by
  rw [take_snoc h, rootL, List.map_append, List.map_singleton]
  rfl

set_option maxHeartbeats 2000000 in
theorem eachParts_c (ao : Option Addr) (n c : Nat) (xs : List Int) (g : Nat) (x y : Int) (w : World) (hx : xs.length = n) (hn : n ≤ 17592186044416) (hr : Rd w ao xs) (ha : allB xs 1 1498 = true) (hC : C2 w g x y) (hxb : 0 ≤ x ∧ x < 2999) :
    Calls Tryd.prog 34 #[.slice ao n c, .func (.func 54) #[] #[.pointer (some ⟨g, 0, none⟩)]] w fun e w' => ∃ a' c', e = .returned (.slice a' n c') ∧ Own w' w.heap.size (.slice a' n c') (partL x xs) ∧ Below w.heap.size w w' := by
  obtain ⟨i0, hi, hz0, hz1, hz2⟩ := info_parts Tryd.infoInt
  have HX : Hid (xs.length = n) := hx
  have HR : Hid (Rd w ao xs) := hr
  have HA : Hid (allB xs 1 1498 = true) := ha
  have HC : Hid (C2 w g x y) := hC
  clear hC
  clear hx hr ha
  go_enter Tryd.func34, Tryd.ntmps34
  go_wp2
  go_loopw [5, 10] (fun v i wr => ∃ k : Nat, k ≤ n ∧ i = .int .i64 k ∧ Hid (Own wr w.heap.size v (partL x (xs.take k))) ∧ Hid (Below w.heap.size w wr)) (fun _ i _ => n - (intOf i).toNat)
  case atStart => exact ⟨0, Nat.zero_le _, rfl, World.ownsRow_nil _ _ _ _, Below.refl _ _⟩
  case round =>
    obtain ⟨k, hk, rfl, hO, hB⟩ := hrel
    by_cases hlt : k < n
    · have hkl : k < xs.length := by rw [HX.out]; exact hlt
      obtain ⟨b, o, rfl, g1⟩ := Rd.get (HR.out.later hB.out) hkl
      have hxk := allB_getD HA.out k hkl
      have HT : Hid (partL x (xs.take (k + 1)) = partL x (xs.take k) ++ [pw x (xs.getD k 0).toNat]) := partL_snoc x hkl
      have hlen : (partL x (xs.take k)).length = k := by simp only [partL, rootL, List.length_map, List.length_take]; omega
      generalize xs.getD k 0 = v at g1 hxk HT
      obtain ⟨q, rfl⟩ : ∃ q : Nat, v = q := ⟨v.toNat, by omega⟩
      rw [Int.toNat_natCast] at HT
      have hob : ∀ k', u5.ownBlock = some k' → w.heap.size ≤ k' := own_block_ge hO.out
      have hown : wr.ownsRow w.heap.size 3 1 u5 k (cellsI (partL x (xs.take k))) := by have h := hO.out; unfold Own at h; rw [hlen] at h; exact h
      have HL : Hid ((partL x (xs.take k)).length = k) := hlen
      have qw := partsOpening1_c g x y q wr (HC.out.keep hB.out) hxb (by omega)
      generalize pw x q = x0 at qw HT
      generalize partL x (xs.take k) = out at hown HL HT
      clear hlen hkl
      go_wp2_with fail
      refine qw.mono ?_
      clear qw
      rintro e w' ⟨rfl, hw⟩
      subst w'
      go_wp2_with (at_builtin; refine wpList_append_own _ rfl _ _ 23 rfl w.heap.size 3 i0 (.int .i64 0) 1 8 Tryd.underlying23 hi hz0 hz1 hz2 rfl (by decide) _ _ _ rfl (hown.alloc _) ⟨wr.heap.size, 0, none⟩ 1 1 [.int .i64 x0] rfl rfl (cell_new1 _ _ _) (ints_oneCell .i64 [x0]) (by unfold maxLen; omega) (by omega) (by have := hB.out.size; simp; omega) ?_; intro v' w2 hown' hgrow _; have HO' : Hid (Own w2 w.heap.size v' (out ++ [x0])) := own_push (w := wr) (v := u5) (by simpa [HL.out] using hown'); have HB' : Hid (Below w.heap.size w w2) := (hB.out.alloc hB.out.size _).grown hgrow (by have := hB.out.size; simp; omega) (fun k' e => hob k' e); clear hown' hgrow)
      go_roundw
      case rel => exact ⟨k + 1, by omega, by go_num, by show Own _ _ _ _; rw [HT.out]; exact HO'.out, HB'⟩
      case measure => simp [intOf]; omega
    · obtain rfl : k = n := by omega
      rw [List.take_of_length_le (by rw [HX.out]; exact Nat.le_refl _)] at hO
      obtain ⟨a', c', hv⟩ := hO.out.shape
      rw [show (partL x xs).length = k by simp only [partL, rootL, List.length_map]; exact HX.out] at hv
      subst hv
      go_wp2
      go_ret
      exact ⟨a', c', rfl, hO.out, hB.out⟩

set_option maxHeartbeats 2000000 in
theorem eachRoot_c (ao : Option Addr) (n c : Nat) (xs : List Int)  (w : World) (hx : xs.length = n) (hn : n ≤ 17592186044416) (hr : Rd w ao xs) (ha : allB xs 1 1498 = true) (ht : Tab w) :
    Calls Tryd.prog 34 #[.slice ao n c, .func (.func 35) #[] #[]] w fun e w' => ∃ a' c', e = .returned (.slice a' n c') ∧ Own w' w.heap.size (.slice a' n c') (rootL xs) ∧ Below w.heap.size w w' := by
  obtain ⟨i0, hi, hz0, hz1, hz2⟩ := info_parts Tryd.infoInt
  have HX : Hid (xs.length = n) := hx
  have HR : Hid (Rd w ao xs) := hr
  have HA : Hid (allB xs 1 1498 = true) := ha
  have HT0 : Hid (Tab w) := ht
  clear ht
  clear hx hr ha
  go_enter Tryd.func34, Tryd.ntmps34
  go_wp2
  go_loopw [5, 10] (fun v i wr => ∃ k : Nat, k ≤ n ∧ i = .int .i64 k ∧ Hid (Own wr w.heap.size v (rootL (xs.take k))) ∧ Hid (Below w.heap.size w wr)) (fun _ i _ => n - (intOf i).toNat)
  case atStart => exact ⟨0, Nat.zero_le _, rfl, World.ownsRow_nil _ _ _ _, Below.refl _ _⟩
  case round =>
    obtain ⟨k, hk, rfl, hO, hB⟩ := hrel
    by_cases hlt : k < n
    · have hkl : k < xs.length := by rw [HX.out]; exact hlt
      obtain ⟨b, o, rfl, g1⟩ := Rd.get (HR.out.later hB.out) hkl
      have hxk := allB_getD HA.out k hkl
      have HT : Hid (rootL (xs.take (k + 1)) = rootL (xs.take k) ++ [pw 4 (xs.getD k 0).toNat]) := rootL_take hkl
      have hlen : (rootL (xs.take k)).length = k := by simp only [partL, rootL, List.length_map, List.length_take]; omega
      generalize xs.getD k 0 = v at g1 hxk HT
      obtain ⟨q, rfl⟩ : ∃ q : Nat, v = q := ⟨v.toNat, by omega⟩
      rw [Int.toNat_natCast] at HT
      have hob : ∀ k', u5.ownBlock = some k' → w.heap.size ≤ k' := own_block_ge hO.out
      have hown : wr.ownsRow w.heap.size 3 1 u5 k (cellsI (rootL (xs.take k))) := by have h := hO.out; unfold Own at h; rw [hlen] at h; exact h
      have HL : Hid ((rootL (xs.take k)).length = k) := hlen
      have qw := rootTo_c q wr (by omega) (HT0.out.keep hB.out)
      generalize pw 4 q = x0 at qw HT
      generalize rootL (xs.take k) = out at hown HL HT
      clear hlen hkl
      go_wp2_with fail
      refine qw.mono ?_
      clear qw
      rintro e w' ⟨rfl, hw⟩
      subst w'
      go_wp2_with (at_builtin; refine wpList_append_own _ rfl _ _ 23 rfl w.heap.size 3 i0 (.int .i64 0) 1 8 Tryd.underlying23 hi hz0 hz1 hz2 rfl (by decide) _ _ _ rfl (hown.alloc _) ⟨wr.heap.size, 0, none⟩ 1 1 [.int .i64 x0] rfl rfl (cell_new1 _ _ _) (ints_oneCell .i64 [x0]) (by unfold maxLen; omega) (by omega) (by have := hB.out.size; simp; omega) ?_; intro v' w2 hown' hgrow _; have HO' : Hid (Own w2 w.heap.size v' (out ++ [x0])) := own_push (w := wr) (v := u5) (by simpa [HL.out] using hown'); have HB' : Hid (Below w.heap.size w w2) := (hB.out.alloc hB.out.size _).grown hgrow (by have := hB.out.size; simp; omega) (fun k' e => hob k' e); clear hown' hgrow)
      go_roundw
      case rel => exact ⟨k + 1, by omega, by go_num, by show Own _ _ _ _; rw [HT.out]; exact HO'.out, HB'⟩
      case measure => simp [intOf]; omega
    · obtain rfl : k = n := by omega
      rw [List.take_of_length_le (by rw [HX.out]; exact Nat.le_refl _)] at hO
      obtain ⟨a', c', hv⟩ := hO.out.shape
      rw [show (rootL xs).length = k by simp only [partL, rootL, List.length_map]; exact HX.out] at hv
      subst hv
      go_wp2
      go_ret
      exact ⟨a', c', rfl, hO.out, hB.out⟩

set_option maxHeartbeats 1000000 in
theorem partsOpening_c (ao : Option Addr) (n c : Nat) (xs : List Int) (x y : Int) (w : World) (hx : xs.length = n) (hn : n ≤ 17592186044416) (hr : Rd w ao xs) (ha : allB xs 1 1498 = true) (hxb : 0 ≤ x ∧ x < 2999) :
    Calls Tryd.prog 25 #[.slice ao n c, .agg #[.int .i64 x, .int .i64 y]] w fun e w' => ∃ a' c', e = .returned (.slice a' n c') ∧ Own w' w.heap.size (.slice a' n c') (partL x xs) ∧ Below w.heap.size w w' := by
  have hmf : ∀ (fn : Fn) (first cap : Array Value) (w : World), (Instr.makeFunc fn first cap).run Tryd.prog w = .ok (.func fn first cap) w := fun _ _ _ _ => rfl
  have HB : Hid (Below w.heap.size w (w.alloc (Obj.cells #[Value.int .i64 x, Value.int .i64 y] 31))) := below_one _ _
  have q := eachParts_c ao n c xs w.heap.size x y (w.alloc (Obj.cells #[Value.int .i64 x, Value.int .i64 y] 31)) hx hn (hr.later (below_one _ _)) ha (c2_new w x y 31 w.heap.size rfl) hxb
  clear hr ha hx
  go_enter Tryd.func25, Tryd.ntmps25
  go_wp2_with fail
  refine q.mono ?_
  clear q
  rintro e w1 ⟨a', c', rfl, ho, hb⟩
  have HB1 : Hid (Below w.heap.size w w1) := HB.out.trans (hb.mono (by simp))
  have HO : Hid (Own w1 w.heap.size (.slice a' n c') (partL x xs)) := ho.mono (by simp)
  clear hb ho
  go_wp2
  go_ret
  exact ⟨a', c', rfl, HO.out, HB1.out⟩

set_option maxHeartbeats 1000000 in
theorem implPart_c (s x y : Int) (w : World) : Calls Tryd.prog 13 #[.int .i64 s, .agg #[.int .i64 x, .int .i64 y]] w fun e w' => e = .returned (.tuple #[.int .i64 (partI s x y), .bool (openB s x y)]) ∧ Below w.heap.size w w' := by
  have HB : Hid (Below w.heap.size w (w.alloc (Obj.cells #[Value.int .i64 x, Value.int .i64 y] 31))) := below_one _ _
  cases g1 : sealB x y
  · have hb : openB s x y = false := by simp only [openB, g1, Bool.and_false]
    have hi : partI s x y = 0 := by simp only [partI, hb, Bool.false_eq_true, if_false]
    rw [hb, hi]; clear hb hi
    go_enter Tryd.func13, Tryd.ntmps13
    go_wp2_with (go_at_call 39; refine (isSealed_c x y _).mono ?_; rw [g1]; clear g1; rintro e w1 ⟨rfl, hb⟩; have HB1 : Hid (Below w.heap.size w w1) := HB.out.trans (hb.mono (by simp)); clear hb)
    refine bodyPost_ret (v := .tuple #[.int .i64 0, .bool false]) (by simp [results, Tryd.results13, go_sem]; try rfl) rfl ?_
    exact ⟨rfl, HB1.out⟩
  · have hm : memB x = true := by simp only [sealB, Bool.and_eq_true] at g1; exact g1.1
    have hb : openB s x y = shareB s x := by simp only [openB, shareB, g1, hm]
    have hi : partI s x y = (if shareB s x = true then pw x s.toNat else 0) := by simp only [partI, hb]
    rw [hb, hi]; clear hb hi hm
    have q := fun wx => implShared_c s x wx
    generalize (if shareB s x = true then pw x s.toNat else 0) = zi at q ⊢
    generalize shareB s x = zb at q ⊢
    have HQ : Hid (∀ wx, Calls Tryd.prog 42 #[.int .i64 s, .int .i64 x] wx fun e w' => e = .returned (.tuple #[.int .i64 zi, .bool zb]) ∧ w' = wx) := q
    clear q
    go_enter Tryd.func13, Tryd.ntmps13
    go_wp2_with (first | (go_at_call 39; refine (isSealed_c x y _).mono ?_; rw [g1]; clear g1; rintro e w1 ⟨rfl, hb⟩; have HB1 : Hid (Below w.heap.size w w1) := HB.out.trans (hb.mono (by simp)); obtain ⟨c0, c1, c2, c3⟩ := (c2_new w x y 31 w.heap.size rfl).keep hb; clear hb) | (go_at_call 42; refine (HQ.out _).mono ?_; rintro e w' ⟨rfl, hw⟩; subst w'))
    refine bodyPost_ret (v := .tuple #[.int .i64 zi, .bool zb]) (by simp [results, Tryd.results13, go_sem]; try rfl) rfl ?_
    exact ⟨rfl, HB1.out⟩

theorem mems_bd {xs : List Int} (h : memsB xs = true) : ∀ v ∈ xs, 0 ≤ v ∧ v < 2999 := fun v hv => by
  unfold memsB at h
  rw [List.all_eq_true] at h
  exact mem_bd (h v hv)
theorem sumOk_eq {x y : Int} {xs : List Int} (g1 : sealB x y = true) : sumOk x y xs = (decide (xs.length ≤ 5) && xs.all memB) := by
  unfold sumOk memsB
  rw [g1, Bool.and_true, Bool.and_comm]

set_option maxHeartbeats 2000000 in
theorem implSum_c (x y : Int) (ao : Option Addr) (n c : Nat) (xs : List Int) (most : Int) (w : World) (hx : xs.length = n) (hn : n ≤ 17592186044416) (hr : Rd w ao xs) :
    Calls Tryd.prog 14 #[.agg #[.int .i64 x, .int .i64 y], .slice ao n c, .int .i64 most] w fun e w' => e = .returned (.tuple #[.int .i64 (sumI x y xs most), .bool (sumB x y xs most)]) ∧ Below w.heap.size w w' := by
  have HB : Hid (Below w.heap.size w (w.alloc (Obj.cells #[Value.int .i64 x, Value.int .i64 y] 31))) := below_one _ _
  have HC : Hid (C2 (w.alloc (Obj.cells #[Value.int .i64 x, Value.int .i64 y] 31)) w.heap.size x y) := c2_new w x y 31 w.heap.size rfl
  have HX : Hid (xs.length = n) := hx
  have HR : Hid (Rd w ao xs) := hr
  clear hx hr
  cases g1 : sealB x y
  · have hN : sumOk x y xs = false := by simp only [sumOk, g1, Bool.false_and, Bool.and_false]
    rw [(sum_no hN most).1, (sum_no hN most).2]
    clear hN
    go_enter Tryd.func14, Tryd.ntmps14
    go_wp2_with fail
    refine (isSealed_c x y _).mono ?_
    rw [g1]
    clear g1
    rintro e w1 ⟨rfl, hb⟩
    have HB1 : Hid (Below w.heap.size w w1) := HB.out.trans (hb.mono (by simp))
    clear hb
    go_wp2
    refine bodyPost_ret (v := .tuple #[.int .i64 0, .bool false]) (by simp [results, Tryd.results14, go_sem]; try rfl) rfl ?_
    exact ⟨rfl, HB1.out⟩
  · have H1 : Hid (∀ wx, Rd wx ao xs → Calls Tryd.prog 43 #[.slice ao n c, .int .i64 5, .func (.func 44) #[] #[]] wx fun e w' => e = .returned (.bool (sumOk x y xs)) ∧ w' = wx) := fun wx h => by
      rw [sumOk_eq g1]
      exact areFewMem_c ao n c xs wx HX.out hn h
    cases hN : sumOk x y xs
    · rw [(sum_no hN most).1, (sum_no hN most).2]
      rw [hN] at H1
      clear hN
      go_enter Tryd.func14, Tryd.ntmps14
      go_wp2_with fail
      refine (isSealed_c x y _).mono ?_
      rw [g1]
      clear g1
      rintro e w1 ⟨rfl, hb⟩
      have HB1 : Hid (Below w.heap.size w w1) := HB.out.trans (hb.mono (by simp))
      clear hb
      go_wp2_with fail
      refine (H1.out _ (HR.out.later HB1.out)).mono ?_
      rintro e w' ⟨rfl, hw⟩
      subst w'
      go_wp2
      refine bodyPost_ret (v := .tuple #[.int .i64 0, .bool false]) (by simp [results, Tryd.results14, go_sem]; try rfl) rfl ?_
      exact ⟨rfl, HB1.out⟩
    · have hms : memsB xs = true := by
        have := hN
        unfold sumOk at this
        rw [Bool.and_eq_true, Bool.and_eq_true] at this
        exact this.1.1
      have hy := (sealB_in g1).2
      have H2 : Hid (∀ wx, Rd wx ao xs → Calls Tryd.prog 46 #[.agg #[.int .i64 x, .int .i64 y], .slice ao n c] wx fun e w' => e = .returned (.int .i64 (lessI y xs)) ∧ Below wx.heap.size wx w') := fun wx h => withoutParts_c x y ao n c xs wx HX.out hn h (mems_bd hms) ⟨by omega, by omega⟩
      rw [(sum_yes hN most).1, (sum_yes hN most).2]
      rw [hN] at H1
      clear hN hms hy
      generalize lessI y xs = m at H2 ⊢
      have H3 : Hid (∀ wx, Calls Tryd.prog 45 #[.int .i64 m, .int .i64 most] wx fun e w' => e = .returned (.tuple #[.int .i64 (logI m most), .bool (logB m most)]) ∧ w' = wx) := fun wx => implLog_c m most wx
      generalize logI m most = li at H3 ⊢
      generalize logB m most = lb at H3 ⊢
      go_enter Tryd.func14, Tryd.ntmps14
      go_wp2_with fail
      refine (isSealed_c x y _).mono ?_
      rw [g1]
      clear g1
      rintro e w1 ⟨rfl, hb⟩
      have HB1 : Hid (Below w.heap.size w w1) := HB.out.trans (hb.mono (by simp))
      obtain ⟨c0, c1, c2, c3⟩ := HC.out.keep hb
      clear hb
      go_wp2_with fail
      refine (H1.out _ (HR.out.later HB1.out)).mono ?_
      rintro e w' ⟨rfl, hw⟩
      subst w'
      go_wp2_with fail
      refine (H2.out _ (HR.out.later HB1.out)).mono ?_
      rintro e w2 ⟨rfl, hb⟩
      have HB2 : Hid (Below w.heap.size w w2) := HB1.out.trans (hb.mono HB1.out.size)
      clear hb c0 c1 c2 c3
      go_wp2_with fail
      refine (H3.out _).mono ?_
      rintro e w' ⟨rfl, hw⟩
      subst w'
      go_wp2
      refine bodyPost_ret (v := .tuple #[.int .i64 li, .bool lb]) (by simp [results, Tryd.results14, go_sem]; try rfl) rfl ?_
      exact ⟨rfl, HB2.out⟩

end Go.Proofs.YtobomcmjilcnaaaDoor
