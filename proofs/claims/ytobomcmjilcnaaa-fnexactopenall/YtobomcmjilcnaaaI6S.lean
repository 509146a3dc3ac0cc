/- Chapter 6, the program's side: lists of sealed numbers looked at and multiplied; votes added. -/
import Derived.Test.YtobomcmjilcnaaaI6
namespace Go.Proofs.Ytobomcmjilcnaaa
set_option linter.unusedVariables false
set_option maxRecDepth 1000000
set_option linter.unusedSimpArgs false
open Go.RowKit

theorem RdP.keep {w w' : World} {B : Nat} {ao : Option Addr} {xs : List (Int × Int)} (h : RdP w ao xs) (hb : Below B w w') (hB : w.heap.size ≤ B) : RdP w' ao xs := h.later (hb.mono hB)

set_option maxHeartbeats 2000000 in
theorem areFewSealed_c (ao : Option Addr) (n c : Nat) (xs : List (Int × Int)) (w : World) (hx : xs.length = n) (hn : n ≤ 17592186044416) (hr : RdP w ao xs) :
    Calls Try.prog 59 #[.slice ao n c, .int .i64 12, .func (.func 36) #[] #[]] w fun e w' => e = .returned (.bool (addB xs)) ∧ Below w.heap.size w w' := by
  have HX : Hid (xs.length = n) := hx
  have HR : Hid (RdP w ao xs) := hr
  have hA : addB xs = (decide (n ≤ 12) && xs.all fun p => sealB p.1 p.2) := by rw [← hx]; rfl
  rw [hA]
  clear hx hr hA
  by_cases h5 : 12 < n
  · have h5' : (12 : Int) < (n : Int) := by omega
    rw [decide_eq_false (show ¬ n ≤ 12 by omega), Bool.false_and]
    go_enter Try.func59, Try.ntmps59
    go_wp2
    go_ret
    exact ⟨rfl, Below.refl _ _⟩
  · have h5' : ¬ (12 : Int) < (n : Int) := by omega
    rw [decide_eq_true (show n ≤ 12 by omega), Bool.true_and]
    have HF : Hid (∀ k, k < n → sealB (xs.getD k (0, 0)).1 (xs.getD k (0, 0)).2 = false → (xs.all fun p => sealB p.1 p.2) = false) := fun k hk h => all_out (d := (0, 0)) (by rw [HX.out]; exact hk) h
    have HE : Hid ((∀ j, j < n → sealB (xs.getD j (0, 0)).1 (xs.getD j (0, 0)).2 = true) → (xs.all fun p => sealB p.1 p.2) = true) := fun h => all_end (d := (0, 0)) (fun j hj => h j (by rw [HX.out] at hj; exact hj))
    generalize (xs.all fun p => sealB p.1 p.2) = zb at HF HE ⊢
    go_enter Try.func59, Try.ntmps59
    go_wp2
    go_loopw [15] (fun iv wr => ∃ (k : Nat), k ≤ n ∧ iv = .int .i64 k ∧ Hid (Below w.heap.size w wr) ∧ Hid (∀ j, j < k → sealB (xs.getD j (0, 0)).1 (xs.getD j (0, 0)).2 = true)) (fun iv _ => n - (intOf iv).toNat)
    case atStart => exact ⟨0, Nat.zero_le _, rfl, Below.refl _ _, fun j h => absurd h (by omega)⟩
    case round =>
      obtain ⟨k, hk, rfl, HB, HS⟩ := hrel
      by_cases hlt : k < n
      · have hkl : k < xs.length := by rw [HX.out]; exact hlt
        obtain ⟨b, o, rfl, g1, g2⟩ := RdP.get (HR.out.later HB.out) hkl
        obtain ⟨x, y, hxy⟩ : ∃ x y, xs.getD k (0, 0) = (x, y) := ⟨_, _, rfl⟩
        have HXY : Hid (xs.getD k (0, 0) = (x, y)) := hxy
        rw [hxy] at g1 g2
        dsimp only at g1 g2
        clear hxy hkl
        cases gm : sealB x y
        · have HN : Hid (zb = false) := HF.out k hlt (by rw [HXY.out]; exact gm)
          go_wp2_with fail
          refine (isSealed_c x y _).mono ?_
          rw [gm]
          clear gm
          rintro e w1 ⟨rfl, hb⟩
          have HB1 : Hid (Below w.heap.size w w1) := (HB.out.alloc HB.out.size _).trans (hb.mono (by have := HB.out.size; simp; omega))
          clear hb
          go_wp2
          go_ret
          exact ⟨ret_bool HN.out.symm, HB1.out⟩
        · have HS2 : Hid (∀ j, j < k + 1 → sealB (xs.getD j (0, 0)).1 (xs.getD j (0, 0)).2 = true) := fun j hj => by
            by_cases e : j = k
            · rw [e, HXY.out]; exact gm
            · exact HS.out j (by omega)
          go_wp2_with fail
          refine (isSealed_c x y _).mono ?_
          rw [gm]
          clear gm
          rintro e w1 ⟨rfl, hb⟩
          have HB1 : Hid (Below w.heap.size w w1) := (HB.out.alloc HB.out.size _).trans (hb.mono (by have := HB.out.size; simp; omega))
          clear hb
          go_wp2
          go_roundw
          case rel => exact ⟨k + 1, by omega, by go_num, HB1, HS2⟩
          case measure => simp [intOf]; omega
      · obtain rfl : k = n := by omega
        have HM : Hid (zb = true) := HE.out HS.out
        go_wp2
        go_ret
        exact ⟨ret_bool HM.out.symm, HB.out⟩

set_option maxHeartbeats 2000000 in
theorem productSealed_c (ao : Option Addr) (n c : Nat) (xs : List (Int × Int)) (w : World) (hx : xs.length = n) (hn : n ≤ 17592186044416) (hr : RdP w ao xs) (ha : addB xs = true) :
    Calls Try.prog 60 #[.slice ao n c, .agg #[.int .i64 1, .int .i64 1], .func (.func 61) #[] #[]] w fun e w' => e = .returned (.agg #[.int .i64 (addX xs), .int .i64 (addY xs)]) ∧ Below w.heap.size w w' := by
  have HX : Hid (xs.length = n) := hx
  have HR : Hid (RdP w ao xs) := hr
  have HA : Hid (∀ k, k < n → sealB (xs.getD k (0, 0)).1 (xs.getD k (0, 0)).2 = true) := fun k hk => by
    unfold addB at ha
    rw [Bool.and_eq_true] at ha
    exact all_at (d := (0, 0)) ha.2 (by rw [hx]; exact hk)
  clear hx hr ha
  go_enter Try.func60, Try.ntmps60
  go_wp2
  obtain ⟨W, hW⟩ : ∃ W, ((w.alloc (Obj.cells #[Value.int .i64 1, Value.int .i64 1] 25)).alloc (Obj.cells #[Value.int .i64 0, Value.int .i64 0] 25)).alloc (Obj.cells #[Value.int .i64 1, Value.int .i64 1] 25) = W := ⟨_, rfl⟩
  have HB : Hid (Below w.heap.size w W) := by rw [← hW]; exact below_three _ _ _ _
  have HC : Hid (C2 W (w.heap.size + 1) 0 0) := by rw [← hW]; exact (c2_new _ 0 0 _ _ (by simp)).alloc _
  have HD : Hid (C2 W (w.heap.size + 1 + 1) 1 1) := by rw [← hW]; exact c2_new _ 1 1 _ _ (by simp)
  rw [hW]
  clear hW
  go_loopw [13] (fun i wr => ∃ k : Nat, k ≤ n ∧ i = .int .i64 k ∧ Hid (Below w.heap.size w wr) ∧ Hid (C2 wr (w.heap.size + 1) 0 0) ∧ Hid (C2 wr (w.heap.size + 1 + 1) (addX (xs.take k)) (addY (xs.take k)))) (fun i _ => n - (intOf i).toNat)
  case atStart => exact ⟨0, Nat.zero_le _, rfl, HB, HC, HD⟩
  case round =>
    clear HB HC HD
    obtain ⟨k, hk, rfl, HB, HC, HD⟩ := hrel
    by_cases hlt : k < n
    · have hkl : k < xs.length := by rw [HX.out]; exact hlt
      obtain ⟨b, o, rfl, g1, g2⟩ := RdP.get (HR.out.later HB.out) hkl
      obtain ⟨x, y, hxy⟩ : ∃ x y, xs.getD k (0, 0) = (x, y) := ⟨_, _, rfl⟩
      have HP : Hid (addX (xs.take (k + 1)) = addX (xs.take k) * x % 2999 ∧ addY (xs.take (k + 1)) = addY (xs.take k) * y % 2999) := ⟨addX_snoc hkl hxy, addY_snoc hkl hxy⟩
      have hs := HA.out k hlt
      rw [hxy] at g1 g2 hs
      dsimp only at g1 g2 hs
      have hm := sealB_in hs
      have a0 := addX_bd (xs.take k)
      have b0 := addY_bd (xs.take k)
      generalize addX (xs.take k) = A at HD HP a0
      generalize addY (xs.take k) = B at HD HP b0
      clear hkl hxy hs
      obtain ⟨c0, c1, c2, c3⟩ := HD.out
      have lt := HD.out.lt
      go_wp2_with fail
      refine (timesBoth_c A B x y _ a0 b0 (by omega) (by omega)).mono ?_
      clear c0 c1 c2 c3 lt
      rintro e w1 ⟨rfl, hb⟩
      have HB1 : Hid (Below w.heap.size w w1) := (HB.out.alloc HB.out.size _).trans (hb.mono (by have := HB.out.size; simp; omega))
      have HC1 : Hid (C2 w1 (w.heap.size + 1) 0 0) := HC.out.alloc2 hb
      have HD1 : Hid (C2 w1 (w.heap.size + 1 + 1) A B) := HD.out.alloc2 hb
      obtain ⟨c0, c1, c2, c3⟩ := HD1.out
      clear hb
      go_wp2
      go_roundw
      case rel => exact ⟨k + 1, by omega, by go_num, (HB1.out.setCell (p := ⟨w.heap.size + 1 + 1, 0, none⟩) (by simp; omega) _).setCell (p := ⟨w.heap.size + 1 + 1, 1, none⟩) (by simp; omega) _, (HC1.out.other (by omega) _ _).other (by omega) _ _, by show C2 _ _ _ _; rw [HP.out.1, HP.out.2]; exact HD1.out.set _ _⟩
      case measure => simp [intOf]; omega
    · obtain rfl : k = n := by omega
      rw [List.take_of_length_le (by rw [HX.out]; exact Nat.le_refl _)] at HD
      obtain ⟨c0, c1, c2, c3⟩ := HC.out
      obtain ⟨d0, d1, d2, d3⟩ := HD.out
      go_wp2
      refine bodyPost_ret (v := .agg #[.int .i64 (addX xs), .int .i64 (addY xs)]) (by simp [results, Try.results60, go_sem, c0, c1]; try rfl) rfl ?_
      exact ⟨rfl, (HB.out.setCell (p := ⟨w.heap.size + 1, 0, none⟩) (by simp) _).setCell (p := ⟨w.heap.size + 1, 1, none⟩) (by simp) _⟩

set_option maxHeartbeats 2000000 in
theorem implVotes_c (ao : Option Addr) (n c : Nat) (xs : List (Int × Int)) (w : World) (hx : xs.length = n) (hn : n ≤ 17592186044416) (hr : RdP w ao xs) :
    Calls Try.prog 20 #[.slice ao n c] w fun e w' => e = .returned (.tuple #[.agg #[.int .i64 (addXI xs), .int .i64 (addYI xs)], .bool (addB xs)]) ∧ Below w.heap.size w w' := by
  have HR : Hid (RdP w ao xs) := hr
  have HX : Hid (xs.length = n) := hx
  have hc := c2_new w 0 0 25 w.heap.size rfl
  have HC : Hid (C2 (w.alloc (Obj.cells #[Value.int .i64 0, Value.int .i64 0] 25)) w.heap.size 0 0) := hc
  have HB : Hid (Below w.heap.size w (w.alloc (Obj.cells #[Value.int .i64 0, Value.int .i64 0] 25))) := below_one _ _
  have H1 : Hid (∀ wx, RdP wx ao xs → Calls Try.prog 59 #[.slice ao n c, .int .i64 12, .func (.func 36) #[] #[]] wx fun e w' => e = .returned (.bool (addB xs)) ∧ Below wx.heap.size wx w') := fun wx h => areFewSealed_c ao n c xs wx HX.out hn h
  clear hx hr hc
  cases ha : addB xs
  · rw [(add_no ha).1, (add_no ha).2]
    rw [ha] at H1
    clear ha
    go_enter Try.func20, Try.ntmps20
    go_wp2_with fail
    refine (H1.out _ (HR.out.later HB.out)).mono ?_
    rintro e w1 ⟨rfl, hb⟩
    have HB1 : Hid (Below w.heap.size w w1) := HB.out.trans (hb.mono (by simp))
    obtain ⟨c0, c1, c2, c3⟩ := HC.out.keep hb
    clear hb
    go_wp2
    refine bodyPost_ret (v := .tuple #[.agg #[.int .i64 0, .int .i64 0], .bool false]) (by simp [results, Try.results20, go_sem, c0, c1]; try rfl) rfl ?_
    refine ⟨rfl, ?_⟩
    first | exact HB1.out | exact (HB1.out.setCell (p := ⟨w.heap.size, 0, none⟩) (Nat.le_refl _) _).setCell (p := ⟨w.heap.size, 1, none⟩) (Nat.le_refl _) _
  · rw [(add_yes ha).1, (add_yes ha).2]
    have H2 : Hid (∀ wx, RdP wx ao xs → Calls Try.prog 60 #[.slice ao n c, .agg #[.int .i64 1, .int .i64 1], .func (.func 61) #[] #[]] wx fun e w' => e = .returned (.agg #[.int .i64 (addX xs), .int .i64 (addY xs)]) ∧ Below wx.heap.size wx w') := fun wx h => productSealed_c ao n c xs wx HX.out hn h ha
    rw [ha] at H1
    clear ha
    generalize addX xs = A at H2 ⊢
    generalize addY xs = B at H2 ⊢
    go_enter Try.func20, Try.ntmps20
    go_wp2_with fail
    refine (H1.out _ (HR.out.later HB.out)).mono ?_
    rintro e w1 ⟨rfl, hb⟩
    have HB1 : Hid (Below w.heap.size w w1) := HB.out.trans (hb.mono (by simp))
    have HC1 : Hid (C2 w1 w.heap.size 0 0) := HC.out.keep hb
    clear hb HB HC
    go_wp2_with fail
    refine (H2.out _ (HR.out.later HB1.out)).mono ?_
    rintro e w2 ⟨rfl, hb⟩
    have HB2 : Hid (Below w.heap.size w w2) := HB1.out.trans (hb.mono HB1.out.size)
    obtain ⟨c0, c1, c2, c3⟩ := HC1.out.keep hb
    clear hb
    go_wp2
    refine bodyPost_ret (v := .tuple #[.agg #[.int .i64 A, .int .i64 B], .bool true]) (by simp [results, Try.results20, go_sem, c0, c1]; try rfl) rfl ?_
    exact ⟨rfl, (HB2.out.setCell (p := ⟨w.heap.size, 0, none⟩) (Nat.le_refl _) _).setCell (p := ⟨w.heap.size, 1, none⟩) (Nat.le_refl _) _⟩

end Go.Proofs.Ytobomcmjilcnaaa
