/- Chapter 8: texts sorted: the program's way (the library's insertion sort). -/
import Derived.Test.YtelchkoplncmaaaSO8
import Derived.BigRegion
namespace Go.Proofs.Ytelchkoplncmaaa
set_option linter.unusedVariables false
set_option maxRecDepth 1000000
set_option linter.unusedSimpArgs false
open Go.RowKit

def swapS (l : List ByteArray) (k i : Nat) : List ByteArray := (l.set k (l.getD i ByteArray.empty)).set i (l.getD k ByteArray.empty)
theorem swapS_length (l : List ByteArray) (k i : Nat) : (swapS l k i).length = l.length := by simp [swapS]
theorem OwnS.stored2 {w : World} {base g c n : Nat} {l : List ByteArray} (h : OwnS w base (.slice (some ⟨g, 0, none⟩) n c) l) (k i : Nat) : OwnS ((w.setCell ⟨g, k, none⟩ (.string (l.getD i ByteArray.empty))).setCell ⟨g, i, none⟩ (.string (l.getD k ByteArray.empty))) base (.slice (some ⟨g, 0, none⟩) n c) (swapS l k i) := by
  have hl := h.rd'.1
  unfold OwnS at *
  rw [hl] at h
  rw [swapS_length, hl]
  have h1 := World.ownsRow.stored h k (.string (l.getD i ByteArray.empty))
  rw [cellsS_set] at h1
  have h2 := World.ownsRow.stored h1.1 i (.string (l.getD k ByteArray.empty))
  rw [cellsS_set] at h2
  exact h2.1

/-- The element at place j goes down through what stands ahead of it, up to i. -/
def InsI (cur : List ByteArray) (i j : Nat) : Prop := ∃ A x B C, cur = A ++ x :: (B ++ C) ∧ A.length = j ∧ A.length + B.length = i ∧ WS (A ++ B) ∧ ∀ b ∈ B, ltS x b = true
theorem ins_start {cur : List ByteArray} {i : Nat} (h : WS (cur.take i)) (hi : i < cur.length) : InsI cur i i :=
  ⟨cur.take i, cur[i], [], cur.drop (i + 1), by rw [List.nil_append, ← List.drop_eq_getElem_cons hi, List.take_append_drop], by rw [List.length_take]; omega, by rw [List.length_take]; simp; omega, by rw [List.append_nil]; exact h, by simp⟩
theorem swap_mid (A R : List ByteArray) (a x : ByteArray) : swapS (A ++ a :: x :: R) (A.length + 1) A.length = A ++ x :: a :: R := by
  unfold swapS
  have e1 : (A ++ a :: x :: R).getD A.length ByteArray.empty = a := by simp [List.getD]
  have e2 : (A ++ a :: x :: R).getD (A.length + 1) ByteArray.empty = x := by simp [List.getD, List.getElem?_append_right]
  rw [e1, e2, List.set_append_right _ _ (by omega), show A.length + 1 - A.length = 1 by omega]
  show (A ++ a :: a :: R).set A.length x = _
  rw [List.set_append_right _ _ (by omega), Nat.sub_self]
  rfl
theorem ins_step {cur : List ByteArray} {i j : Nat} (h : InsI cur i (j + 1)) (hl : ltS (cur.getD (j + 1) ByteArray.empty) (cur.getD j ByteArray.empty) = true) : InsI (swapS cur (j + 1) j) i j ∧ (swapS cur (j + 1) j).Perm cur := by
  obtain ⟨A, x, B, C, rfl, hA, hi, hw, hb⟩ := h
  obtain ⟨A', a, rfl⟩ : ∃ A' a, A = A' ++ [a] := ⟨A.dropLast, A.getLast (by intro e; rw [e] at hA; simp at hA), (List.dropLast_concat_getLast _).symm⟩
  have hA' : A'.length = j := by simpa using hA
  subst hA'
  rw [show A' ++ [a] ++ x :: (B ++ C) = A' ++ a :: x :: (B ++ C) by simp] at hl ⊢
  rw [swap_mid]
  have e1 : (A' ++ a :: x :: (B ++ C)).getD A'.length ByteArray.empty = a := by simp [List.getD]
  have e2 : (A' ++ a :: x :: (B ++ C)).getD (A'.length + 1) ByteArray.empty = x := by simp [List.getD, List.getElem?_append_right]
  rw [e1, e2] at hl
  refine ⟨⟨A', x, a :: B, C, rfl, rfl, by simp at hi ⊢; omega, by simpa using hw, fun b hbm => ?_⟩, ?_⟩
  · rcases List.mem_cons.1 hbm with e | e
    · rw [e]; exact hl
    · exact hb b e
  · exact List.Perm.append_left A' (List.Perm.swap a x (B ++ C))
theorem ins_stop {cur : List ByteArray} {i j : Nat} (h : InsI cur i j) (hl : j = 0 ∨ ltS (cur.getD j ByteArray.empty) (cur.getD (j - 1) ByteArray.empty) = false) : WS (cur.take (i + 1)) := by
  obtain ⟨A, x, B, C, rfl, hA, hi, hw, hb⟩ := h
  have et : (A ++ x :: (B ++ C)).take (i + 1) = A ++ x :: B := by
    rw [show A ++ x :: (B ++ C) = (A ++ x :: B) ++ C by simp]
    rw [List.take_append_of_le_length (by simp; omega), List.take_of_length_le (by simp; omega)]
  rw [et]
  unfold WS at hw ⊢
  obtain ⟨wA, wB, wAB⟩ := List.pairwise_append.1 hw
  have hxA : ∀ a ∈ A, ltS x a = false := by
    rcases hl with rfl | hl
    · have : A = [] := List.length_eq_zero_iff.1 hA
      subst this; simp
    · by_cases e0 : j = 0
      · have : A = [] := List.length_eq_zero_iff.1 (hA.trans e0)
        subst this; simp
      · obtain ⟨A', a0, rfl⟩ : ∃ A' a0, A = A' ++ [a0] := ⟨A.dropLast, A.getLast (by intro e; rw [e] at hA; simp at hA; omega), (List.dropLast_concat_getLast _).symm⟩
        have hA' : A'.length + 1 = j := by simpa using hA
        subst hA'
        rw [show A' ++ [a0] ++ x :: (B ++ C) = A' ++ a0 :: x :: (B ++ C) by simp] at hl
        have e1 : (A' ++ a0 :: x :: (B ++ C)).getD (A'.length + 1 - 1) ByteArray.empty = a0 := by simp [List.getD]
        have e2 : (A' ++ a0 :: x :: (B ++ C)).getD (A'.length + 1) ByteArray.empty = x := by simp [List.getD, List.getElem?_append_right]
        rw [e1, e2] at hl
        intro a ha
        rcases List.mem_append.1 ha with h | h
        · have := (List.pairwise_append.1 wA).2.2 a h a0 (by simp)
          exact ordS.le_le this hl
        · simp at h; rw [h]; exact hl
  refine List.pairwise_append.2 ⟨wA, List.pairwise_cons.2 ⟨fun b hbm => ordS.asym (hb b hbm), wB⟩, fun a ha y hy => ?_⟩
  rcases List.mem_cons.1 hy with e | e
  · rw [e]; exact hxA a ha
  · exact wAB a ha y e

set_option maxHeartbeats 2000000 in
theorem insSort_c (g n c base : Nat) (xs : List ByteArray) (w : World) (hx : xs.length = n) (hn : n ≤ 12) (ho : OwnS w base (.slice (some ⟨g, 0, none⟩) n c) xs) :
    Calls Try.prog 110 #[.slice (some ⟨g, 0, none⟩) n c, .int .i64 0, .int .i64 n] w fun e w' => e = .returned (.tuple #[]) ∧ OwnS w' base (.slice (some ⟨g, 0, none⟩) n c) (sortF xs) ∧ w.grownBy w' (some g) := by
  have HX : Hid (xs.length = n) := hx
  have HO : Hid (OwnS w base (.slice (some ⟨g, 0, none⟩) n c) xs) := ho
  clear hx ho
  go_enter Try.func110, Try.ntmps110
  go_wp2
  go_loopw [6] (fun iv wr => ∃ (i : Nat) (cur : List ByteArray), 1 ≤ i ∧ (i ≤ n ∨ i = 1) ∧ iv = .int .i64 i ∧ Hid (WS (cur.take i)) ∧ Hid (cur.Perm xs) ∧ Hid (OwnS wr base (.slice (some ⟨g, 0, none⟩) n c) cur) ∧ Hid (w.grownBy wr (some g))) (fun iv _ => n - (intOf iv).toNat)
  case atStart => exact ⟨1, xs, Nat.le_refl _, Or.inr rfl, rfl, by show WS _; cases xs with | nil => simp [WS] | cons a r => simp [WS], List.Perm.refl _, HO, World.grownBy.refl _ _⟩
  case round =>
    clear HO
    obtain ⟨i, cur, hi1, hi, rfl, HW, HP, HO, HG⟩ := hrel
    by_cases hlt : i < n
    · obtain ⟨Y, hY⟩ : ∃ Y, Y = wr := ⟨_, rfl⟩
      have HI0 : Hid (InsI cur i i) := ins_start HW.out (by rw [HP.out.length_eq, HX.out]; exact hlt)
      have hil : (i : Int) < (n : Int) := by omega
      have HYG : Hid (w.grownBy Y (some g)) := by rw [hY]; exact HG
      have HYO : Hid (OwnS Y base (.slice (some ⟨g, 0, none⟩) n c) cur) := by rw [hY]; exact HO
      subst hY
      clear HG HO
      go_wp2
      go_loopw [7] (fun jv wr => ∃ (j : Nat) (cu : List ByteArray), j ≤ i ∧ jv = .int .i64 j ∧ Hid (InsI cu i j) ∧ Hid (cu.Perm xs) ∧ Hid (OwnS wr base (.slice (some ⟨g, 0, none⟩) n c) cu) ∧ Hid (w.grownBy wr (some g))) (fun jv _ => (intOf jv).toNat)
      case atStart => exact ⟨i, cur, Nat.le_refl _, rfl, HI0, HP, HYO, HYG⟩
      case round =>
        clear HI0 HYO HYG HW HP
        obtain ⟨j, cu, hj, rfl, HI, HP, HO, HG⟩ := hrel
        have HCL : Hid (cu.length = n) := by show _ = _; rw [HP.out.length_eq, HX.out]
        by_cases hj0 : j = 0
        · have HWS : Hid (WS (cu.take (i + 1))) := ins_stop HI.out (Or.inl hj0)
          have hd : decide (0 < j) = false := decide_eq_false (by omega)
          have hd2 : decide ((0 : Int) < (j : Int)) = false := decide_eq_false (by omega)
          clear hj0
          go_wp2
          go_quiet (fail)
          go_wp2
          go_roundw
          case rel => exact ⟨i + 1, cu, by omega, Or.inl (by omega), by go_num, HWS, HP, HO.out.later (below_drewN (Below.refl _ _) _), by have h := HG.out; exact ⟨h.os, h.tape, h.output, h.size, h.block⟩⟩
          case measure => first | (simp [intOf]; done) | (simp [intOf]; omega)
        · obtain ⟨p, rfl⟩ : ∃ p, j = p + 1 := ⟨j - 1, by omega⟩
          have hd : decide ((0 : Int) < ((p : Int) + 1)) = true := decide_eq_true (by omega)
          have c1 := OwnS.cell (g := g) (cap := c) (xs := cu) (by rw [HCL.out]; exact HO.out) (p + 1) (by rw [HCL.out]; omega)
          have c0 := OwnS.cell (g := g) (cap := c) (xs := cu) (by rw [HCL.out]; exact HO.out) p (by rw [HCL.out]; omega)
          have f1 := OwnS.free (g := g) (cap := c) (xs := cu) (by rw [HCL.out]; exact HO.out) (p + 1)
          have f0 := OwnS.free (g := g) (cap := c) (xs := cu) (by rw [HCL.out]; exact HO.out) p
          have b0 : (0 : Int) ≤ (p : Int) := by omega
          have b1 : (p : Int) < (n : Int) := by omega
          have b2 : (0 : Int) ≤ (p : Int) + 1 := by omega
          have b3 : (p : Int) + 1 < (n : Int) := by omega
          have b4 : (p : Int) + 1 - 1 = (p : Int) := by omega
          cases hl : ltS (cu.getD (p + 1) ByteArray.empty) (cu.getD p ByteArray.empty) with
          | false =>
            have HWS : Hid (WS (cu.take (i + 1))) := ins_stop HI.out (Or.inr (by rw [show p + 1 - 1 = p by omega]; exact hl))
            generalize cu.getD (p + 1) ByteArray.empty = x at c1 hl
            generalize cu.getD p ByteArray.empty = y at c0 hl
            have HQ : Hid (∀ wx, Calls Try.prog 116 #[.string x, .string y] wx fun e w' => e = .returned (.bool false) ∧ w' = wx) := fun wx => by have h := LessT_c x y wx; rw [hl] at h; exact h
            clear hl f0 f1 hj0
            go_wp2
            go_quiet (first | (go_at_call 116; exact Calls.quiet_of_same (HQ.out _)))
            go_wp2
            go_roundw
            case rel => exact ⟨i + 1, cu, by omega, Or.inl (by omega), by go_num, HWS, HP, HO.out.later (below_drewN (Below.refl _ _) _), by have h := HG.out; exact ⟨h.os, h.tape, h.output, h.size, h.block⟩⟩
            case measure => first | (simp [intOf]; done) | (simp [intOf]; omega)
          | true =>
            obtain ⟨hs1, hs2⟩ := ins_step HI.out hl
            have HS1 : Hid (InsI (swapS cu (p + 1) p) i p) := hs1
            have HS2 : Hid ((swapS cu (p + 1) p).Perm xs) := hs2.trans HP.out
            have HST : Hid (∀ k, OwnS (((wr.drewN k).setCell ⟨g, p + 1, none⟩ (.string (cu.getD p ByteArray.empty))).setCell ⟨g, p, none⟩ (.string (cu.getD (p + 1) ByteArray.empty))) base (.slice (some ⟨g, 0, none⟩) n c) (swapS cu (p + 1) p)) := fun k => OwnS.stored2 (HO.out.later (below_drewN (Below.refl _ _) k)) (p + 1) p
            have HSG : Hid (∀ k, w.grownBy (((wr.drewN k).setCell ⟨g, p + 1, none⟩ (.string (cu.getD p ByteArray.empty))).setCell ⟨g, p, none⟩ (.string (cu.getD (p + 1) ByteArray.empty))) (some g)) := fun k => grown_trans (grown_trans (by have h := HG.out; exact ⟨h.os, h.tape, h.output, h.size, h.block⟩) (grown_setCell _ _ _ _)) (grown_setCell _ _ _ _)
            generalize cu.getD (p + 1) ByteArray.empty = x at c1 hl HST HSG
            generalize cu.getD p ByteArray.empty = y at c0 hl HST HSG
            have HQ : Hid (∀ wx, Calls Try.prog 116 #[.string x, .string y] wx fun e w' => e = .returned (.bool true) ∧ w' = wx) := fun wx => by have h := LessT_c x y wx; rw [hl] at h; exact h
            clear hl hs1 hs2 hj0
            go_wp2
            go_quiet (first | (go_at_call 116; exact Calls.quiet_of_same (HQ.out _)))
            go_wp2_with fail
            go_region
            go_wp2
            go_roundw
            case rel => exact ⟨p, swapS cu (p + 1) p, by omega, by go_num, HS1, HS2, (by have h := HST.out; show OwnS _ _ _ _; exact (h _).drew), (by have h := HSG.out; exact ⟨(h _).os, (h _).tape, (h _).output, (h _).size, (h _).block⟩)⟩
            case measure => first | (simp [intOf]; done) | (simp [intOf]; omega)
    · have hE : WS cur := by have h := HW.out; rwa [List.take_of_length_le (by rw [HP.out.length_eq, HX.out]; omega)] at h
      have HE : Hid (cur = sortF xs) := ws_ext hE (sort_good xs).1 (HP.out.trans (sort_good xs).2.symm)
      have hlt' : ¬ (i : Int) < (n : Int) := by omega
      clear hE hlt
      go_wp2
      go_end0
      exact ⟨rfl, by rw [← HE.out]; exact HO.out, HG.out⟩

theorem bLen64_c (x : Nat) (w : World) (hx : x ≤ 12) : Calls Try.prog 120 #[.int .u64 x] w fun e w' => (∃ r : Int, e = .returned (.int .i64 r)) ∧ w' = w := by
  have h1 : ¬ (4294967296 : Int) ≤ (x : Int) := by omega
  have h2 : ¬ (65536 : Int) ≤ (x : Int) := by omega
  have h3 : ¬ (256 : Int) ≤ (x : Int) := by omega
  have h4 : (x : Int) % 256 = x := by omega
  have h5 : (0 : Int) ≤ (x : Int) := by omega
  have h6 : (x : Int) < 256 := by omega
  go_enter Try.func120, Try.ntmps120
  go_wp2
  go_ret
  exact ⟨⟨_, rfl⟩, rfl⟩

theorem bLen_c (x : Nat) (w : World) (hx : x ≤ 12) : Calls Try.prog 101 #[.int .u64 x] w fun e w' => (∃ r : Int, e = .returned (.int .i64 r)) ∧ w' = w := by
  go_enter Try.func101, Try.ntmps101
  go_wp2_with fail
  refine (bLen64_c x _ hx).mono ?_
  rintro e w' ⟨⟨r, rfl⟩, hw⟩
  subst w'
  go_wp2
  go_ret
  exact ⟨⟨_, rfl⟩, rfl⟩

set_option maxHeartbeats 1000000 in
theorem pdq_c (g n c base : Nat) (r : Int) (xs : List ByteArray) (w : World) (hx : xs.length = n) (hn : n ≤ 12) (ho : OwnS w base (.slice (some ⟨g, 0, none⟩) n c) xs) :
    Calls Try.prog 100 #[.slice (some ⟨g, 0, none⟩) n c, .int .i64 0, .int .i64 n, .int .i64 r] w fun e w' => e = .returned (.tuple #[]) ∧ OwnS w' base (.slice (some ⟨g, 0, none⟩) n c) (sortF xs) ∧ w.grownBy w' (some g) := by
  have q := insSort_c g n c base xs w hx hn ho
  have h12 : (n : Int) ≤ 12 := by omega
  clear ho hx
  generalize sortF xs = zs at q ⊢
  go_enter Try.func100, Try.ntmps100
  go_wp2
  refine wp_loop_rounds 1 ?_
  rw [rounds_succ]
  go_wp2_with fail
  refine q.mono ?_
  clear q
  rintro e w' ⟨rfl, ho, hg⟩
  have HO : Hid (OwnS w' base (.slice (some ⟨g, 0, none⟩) n c) zs) := ho
  have HG : Hid (w.grownBy w' (some g)) := hg
  clear ho hg
  go_wp2
  refine bodyPost_ret (v := .tuple #[]) (by simp [results, Try.results100, go_sem, results]; try rfl) rfl ?_
  exact ⟨rfl, HO.out, HG.out⟩

theorem pdq_nil (r : Int) (w : World) :
    Calls Try.prog 100 #[.slice none 0 0, .int .i64 0, .int .i64 0, .int .i64 r] w fun e w' => e = .returned (.tuple #[]) ∧ w' = w := by
  have q : Calls Try.prog 110 #[.slice none 0 0, .int .i64 0, .int .i64 0] w fun e w' => e = .returned (.tuple #[]) ∧ w' = w := by
    go_enter Try.func110, Try.ntmps110
    go_wp2
    refine wp_loop_rounds 1 ?_
    rw [rounds_succ]
    go_wp2
    go_end0
    exact ⟨rfl, rfl⟩
  go_enter Try.func100, Try.ntmps100
  go_wp2
  refine wp_loop_rounds 1 ?_
  rw [rounds_succ]
  go_wp2_with fail
  refine q.mono ?_
  clear q
  rintro e w' ⟨rfl, hw⟩
  subst w'
  go_wp2
  refine bodyPost_ret (v := .tuple #[]) (by simp [results, Try.results100, go_sem, results]; try rfl) rfl ?_
  exact ⟨rfl, rfl⟩

set_option maxHeartbeats 1000000 in
theorem sortT_c (ao : Option Addr) (n c base : Nat) (xs : List ByteArray) (w : World) (hx : xs.length = n) (hn : n ≤ 12) (hb : base ≤ w.heap.size) (ho : OwnS w base (.slice ao n c) xs) :
    Calls Try.prog 66 #[.slice ao n c] w fun e w' => e = .returned (.tuple #[]) ∧ OwnS w' base (.slice ao n c) (sortF xs) ∧ Below base w w' := by
  have q1 := fun wx => bLen_c n wx hn
  have hw : ((n : Int) % 18446744073709551616) = n := by omega
  rcases ho.addr with ⟨rfl, rfl, rfl, rfl⟩ | ⟨g, rfl, hgB, hgw⟩
  · clear hx hb
    go_enter Try.func66, Try.ntmps66
    go_wp2_with fail
    refine (q1 _).mono ?_
    clear q1
    rintro e w' ⟨⟨r, rfl⟩, hw⟩
    subst w'
    go_wp2_with fail
    refine (pdq_nil r _).mono ?_
    rintro e w' ⟨rfl, hw⟩
    subst w'
    go_wp2
    go_end0
    exact ⟨rfl, ho, Below.refl _ _⟩
  · have HQ : Hid (∀ r, Calls Try.prog 100 #[.slice (some ⟨g, 0, none⟩) n c, .int .i64 0, .int .i64 n, .int .i64 r] w fun e w' => e = .returned (.tuple #[]) ∧ OwnS w' base (.slice (some ⟨g, 0, none⟩) n c) (sortF xs) ∧ w.grownBy w' (some g)) := fun r => pdq_c g n c base r xs w hx hn ho
    generalize sortF xs = zs at HQ ⊢
    clear ho hx
    go_enter Try.func66, Try.ntmps66
    go_wp2_with fail
    refine (q1 _).mono ?_
    clear q1
    rintro e w' ⟨⟨r, rfl⟩, hw⟩
    subst w'
    go_wp2_with fail
    refine (HQ.out r).mono ?_
    clear HQ
    rintro e w' ⟨rfl, ho, hg⟩
    have HO : Hid (OwnS w' base (.slice (some ⟨g, 0, none⟩) n c) zs) := ho
    have HB : Hid (Below base w w') := below_grown hg hgB hb
    clear ho hg
    go_wp2
    go_end0
    exact ⟨rfl, HO.out, HB.out⟩

theorem implSort_c (ao : Option Addr) (n c : Nat) (xs : List ByteArray) (w : World) (hx : xs.length = n) (hn : n ≤ 17592186044416) (hr : RdS w ao xs) (hs : ∀ s ∈ xs, s.size ≤ 9223372036854775807) (zs : List ByteArray) (fb : Bool) (p : Nat) (hF : sortR xs = (zs, fb)) (hp : zs.length = p) :
    Calls Try.prog 19 #[.slice ao n c] w fun e w' => ∃ a' c', e = .returned (.tuple #[.slice a' p c', .bool fb]) ∧ OwnS w' w.heap.size (.slice a' p c') zs ∧ Below w.heap.size w w' := by
  have q1 := fewS_c ao n c xs w hx hn hr hs
  unfold sortR at hF
  cases hb : poolB xs with
  | false =>
    rw [hb] at q1 hF
    simp only [Bool.false_eq_true, if_false, Prod.mk.injEq] at hF
    obtain ⟨rfl, rfl⟩ := hF
    simp at hp
    subst hp
    clear hb hr hs hx
    go_enter Try.func19, Try.ntmps19
    go_wp2_with (go_at_call 55; refine q1.mono ?_; clear q1; rintro e w' ⟨rfl, hw⟩; subst w')
    refine bodyPost_ret (v := .tuple #[.slice none 0 0, .bool false]) (by simp [results, Try.results19, go_sem]; try rfl) rfl ?_
    exact ⟨none, 0, rfl, World.ownsRow_nil _ _ _ _, Below.refl _ _⟩
  | true =>
    have h := hb
    simp only [poolB, Bool.and_eq_true, decide_eq_true_eq, List.all_eq_true] at h
    have h12 : n ≤ 12 := by omega
    have h24 : ∀ s ∈ xs, s.size ≤ 1000 := fun s hs => by have := h.2 s hs; simp only [shortB, decide_eq_true_eq] at this; omega
    rw [hb] at q1 hF
    simp only [if_true, Prod.mk.injEq] at hF
    obtain ⟨rfl, rfl⟩ := hF
    have q2 := each_c ao n c xs w hx (by omega) hr h24
    have HX : Hid (xs.length = n) := hx
    obtain rfl : n = p := by rw [← hp, sortF_length, hx]
    clear hb hr hs hx hp h h24
    go_enter Try.func19, Try.ntmps19
    go_wp2_with (go_at_call 55; refine q1.mono ?_; clear q1; rintro e w' ⟨rfl, hw⟩; subst w')
    refine q2.mono ?_
    clear q2
    rintro e w1 ⟨a1, c1, rfl, ho, hb⟩
    have HB1 : Hid (Below w.heap.size w w1) := hb
    have q3 := sortT_c a1 n c1 w.heap.size xs w1 HX.out h12 hb.size ho
    clear ho hb
    go_wp2_with fail
    refine q3.mono ?_
    clear q3
    rintro e w2 ⟨rfl, ho, hb⟩
    have HO2 : Hid (OwnS w2 w.heap.size (.slice a1 n c1) (sortF xs)) := ho
    have HB2 : Hid (Below w.heap.size w w2) := HB1.out.trans hb
    clear ho hb
    go_wp2
    refine bodyPost_ret (v := .tuple #[.slice a1 n c1, .bool true]) (by simp [results, Try.results19, go_sem]; try rfl) rfl ?_
    exact ⟨a1, c1, rfl, HO2.out, HB2.out⟩

end Go.Proofs.Ytelchkoplncmaaa
