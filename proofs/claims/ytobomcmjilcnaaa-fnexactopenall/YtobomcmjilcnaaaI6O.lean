/- Chapter 6, the program's side: a number opened by all. -/
import Derived.Test.YtobomcmjilcnaaaI6E
namespace Go.Proofs.Ytobomcmjilcnaaa
set_option linter.unusedVariables false
set_option maxRecDepth 1000000
set_option linter.unusedSimpArgs false
open Go.RowKit

theorem partL_length (x : Int) (xs : List Int) : (partL x xs).length = xs.length := by simp [partL]

set_option maxHeartbeats 4000000 in
theorem implAll_c (ao : Option Addr) (n c : Nat) (xs : List Int) (x y : Int) (w : World) (hx : xs.length = n) (hn : n ≤ 17592186044416) (hr : Rd w ao xs) :
    Calls Try.prog 10 #[.slice ao n c, .agg #[.int .i64 x, .int .i64 y]] w fun e w' => e = .returned (.tuple #[.int .i64 (allI x y xs), .bool (allOk x y xs)]) ∧ Below w.heap.size w w' := by
  have HB : Hid (Below w.heap.size w (w.alloc (Obj.cells #[Value.int .i64 x, Value.int .i64 y] 25))) := below_one _ _
  have HC : Hid (C2 (w.alloc (Obj.cells #[Value.int .i64 x, Value.int .i64 y] 25)) w.heap.size x y) := c2_new w x y 25 w.heap.size rfl
  have HR : Hid (Rd w ao xs) := hr
  have HX : Hid (xs.length = n) := hx
  clear hx hr
  have HQ : Hid (∀ wx, Rd wx ao xs → Calls Try.prog 35 #[.slice ao n c] wx fun e w' => e = .returned (.bool (secsB xs)) ∧ w' = wx) := fun wx h => areSecrets_c ao n c xs wx HX.out hn h
  cases g0 : secsB xs
  · have hb : allOk x y xs = false := by simp only [allOk, g0, Bool.false_and]
    have hi : allI x y xs = 0 := by simp only [allI, hb, Bool.false_eq_true, if_false]
    rw [hb, hi]; clear hb hi
    rw [g0] at HQ
    go_enter Try.func10, Try.ntmps10
    go_wp2_with fail
    refine (HQ.out _ (HR.out.later HB.out)).mono ?_
    rintro e w' ⟨rfl, hw⟩
    subst w'
    go_wp2
    refine bodyPost_ret (v := .tuple #[.int .i64 0, .bool false]) (by simp [results, Try.results10, go_sem]; try rfl) rfl ?_
    exact ⟨rfl, HB.out⟩
  · cases g1 : sealB x y
    · have hb : allOk x y xs = false := by simp only [allOk, g1, Bool.and_false]
      have hi : allI x y xs = 0 := by simp only [allI, hb, Bool.false_eq_true, if_false]
      rw [hb, hi]; clear hb hi
      rw [g0] at HQ
      go_enter Try.func10, Try.ntmps10
      go_wp2_with fail
      refine (HQ.out _ (HR.out.later HB.out)).mono ?_
      rintro e w' ⟨rfl, hw⟩
      subst w'
      go_wp2_with fail
      refine (isSealed_c x y _).mono ?_
      rw [g1]
      clear g1
      rintro e w1 ⟨rfl, hb⟩
      have HB1 : Hid (Below w.heap.size w w1) := HB.out.trans (hb.mono (by simp))
      clear hb
      go_wp2
      refine bodyPost_ret (v := .tuple #[.int .i64 0, .bool false]) (by simp [results, Try.results10, go_sem]; try rfl) rfl ?_
      exact ⟨rfl, HB1.out⟩
    · have hb : allOk x y xs = true := by simp only [allOk, g0, g1, Bool.and_self]
      have hm := sealB_in g1
      have hmx : memB x = true := by have := g1; simp only [sealB, Bool.and_eq_true] at this; exact this.1
      have hi : allI x y xs = lessI y (partL x xs) := by
        rw [← openI_eq]
        simp only [allI, hb, if_true]
      rw [hb, hi]; clear hb hi
      have H2 : Hid (∀ wx, Rd wx ao xs → Calls Try.prog 38 #[.slice ao n c, .agg #[.int .i64 x, .int .i64 y]] wx fun e w' => ∃ a' c', e = .returned (.slice a' n c') ∧ Own w' wx.heap.size (.slice a' n c') (partL x xs) ∧ Below wx.heap.size wx w') := fun wx h => partsOpening_c ao n c xs x y wx HX.out hn h (secs_all g0) ⟨by omega, by omega⟩
      have H3 : Hid (∀ wx a' c', Rd wx a' (partL x xs) → Calls Try.prog 37 #[.agg #[.int .i64 x, .int .i64 y], .slice a' n c'] wx fun e w' => e = .returned (.int .i64 (lessI y (partL x xs))) ∧ Below wx.heap.size wx w') := fun wx a' c' h => withoutParts_c x y a' n c' (partL x xs) wx (by rw [partL_length]; exact HX.out) hn h (fun v hv => mem_bd (partL_mem hmx xs v hv)) ⟨by omega, by omega⟩
      rw [g0] at HQ
      generalize lessI y (partL x xs) = z at H3 ⊢
      clear g0 hmx hm
      go_enter Try.func10, Try.ntmps10
      go_wp2_with fail
      refine (HQ.out _ (HR.out.later HB.out)).mono ?_
      rintro e w' ⟨rfl, hw⟩
      subst w'
      go_wp2_with fail
      refine (isSealed_c x y _).mono ?_
      rw [g1]
      clear g1
      rintro e w1 ⟨rfl, hb⟩
      have HB1 : Hid (Below w.heap.size w w1.drew) := (HB.out.trans (hb.mono (by simp))).drew
      have HC1 : Hid (C2 w1.drew w.heap.size x y) := HC.out.keep hb.drew
      have HR1 : Hid (Rd w1.drew ao xs) := HR.out.later HB1.out
      obtain ⟨c0, c1, c2, c3⟩ := HC.out.keep hb
      clear hb HB HC HR HQ
      go_wp2_with fail
      go_region_held3 (fun w' => w'.cell? ⟨w.heap.size, 0, none⟩ = some (.int .i64 x) ∧ w'.cell? ⟨w.heap.size, 1, none⟩ = some (.int .i64 y)) (first | exact ⟨f0, f1⟩ | exact ⟨d0, d1⟩ | go_keep) (first
        | (go_at_call 38; refine (H2.out _ HR1.out).mono ?_; rintro e w2 ⟨a', c', rfl, ho, hb⟩; have HB2 : Hid (Below w.heap.size w w2) := HB1.out.trans (hb.mono HB1.out.size); have HC2 : Hid (C2 w2 w.heap.size x y) := HC1.out.keep hb; have HO2 : Hid (Rd w2 a' (partL x xs)) := (ho.rd').2; obtain ⟨d0, d1, d2, d3⟩ := HC2.out; clear hb ho)
        | (go_at_call 37; refine (H3.out _ _ _ HO2.out).mono ?_; rintro e w3 ⟨rfl, hb⟩; have HB3 : Hid (Below w.heap.size w w3) := HB2.out.trans (hb.mono HB2.out.size); obtain ⟨f0, f1, f2, f3⟩ := HC2.out.keep hb; clear hb))
      all_goals go_wp2
      all_goals refine bodyPost_ret (v := .tuple #[.int .i64 z, .bool true]) (by simp [results, Try.results10, go_sem]; try rfl) rfl ?_
      all_goals exact ⟨rfl, HB3.out⟩

end Go.Proofs.Ytobomcmjilcnaaa
