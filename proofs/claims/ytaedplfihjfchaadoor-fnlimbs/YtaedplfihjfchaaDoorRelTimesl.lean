/- sameInts, sameBig. -/
import Derived.Test.YtaedplfihjfchaaDoorBaseBl
import Derived.Test.YtaedplfihjfchaaDoorImplTimes2l
namespace Go.Proofs.YtaedplfihjfchaaDoor
set_option linter.unusedVariables false
set_option maxRecDepth 1000000
set_option linter.unusedSimpArgs false
open Go.RowKit

theorem sameInts_ne (ao bo : Option Addr) (n m c d : Nat) (w : World) (hnm : n ≠ m) (hn : n ≤ 140737488355328) (hm : m ≤ 140737488355328) :
    Calls Tryd.prog 36 #[.slice ao n c, .slice bo m d] w fun e w' => e = .returned (.bool false) ∧ w' = w := by
  have hx : ((n : Int) != (m : Int)) = true := by rw [bne_iff_ne]; omega
  go_enter Tryd.func36, Tryd.ntmps36
  go_wp2
  go_ret
  exact ⟨rfl, rfl⟩

theorem sameInts_nil (ao bo : Option Addr) (c d : Nat) (w : World) :
    Calls Tryd.prog 36 #[.slice ao 0 c, .slice bo 0 d] w fun e w' => e = .returned (.bool true) ∧ w' = w := by
  go_enter Tryd.func36, Tryd.ntmps36
  go_wp2
  refine wp_loop_rounds 1 ?_
  rw [rounds_succ]
  go_wp2
  go_ret
  exact ⟨rfl, rfl⟩


set_option maxHeartbeats 400000 in
theorem sameInts_at (b o n c b' o' d : Nat) (xs ys : List Int) (w : World) (hx : xs.length = n) (hy : ys.length = n) (hn : n ≤ 140737488355328)
    (hcx : ∀ j, j < n → w.cell? ⟨b, o + j, none⟩ = some (.int .i64 (xs.getD j 0))) (hcy : ∀ j, j < n → w.cell? ⟨b', o' + j, none⟩ = some (.int .i64 (ys.getD j 0))) :
    Calls Tryd.prog 36 #[.slice (some ⟨b, o, none⟩) n c, .slice (some ⟨b', o', none⟩) n d] w fun e w' => e = .returned (.bool (decide (xs = ys))) ∧ Below w.heap.size w w' := by
  have HX : Hid (xs.length = n) := hx
  have HY : Hid (ys.length = n) := hy
  clear hx hy
  go_enter Tryd.func36, Tryd.ntmps36
  go_wp2
  go_loopw [13] (fun i wr => ∃ k : Nat, k ≤ n ∧ i = .int .i64 k ∧ xs.take k = ys.take k ∧ Below w.heap.size w wr ∧ (∀ j, j < n → wr.cell? ⟨b, o + j, none⟩ = some (.int .i64 (xs.getD j 0))) ∧ (∀ j, j < n → wr.cell? ⟨b', o' + j, none⟩ = some (.int .i64 (ys.getD j 0)))) (fun i _ => n - (intOf i).toNat)
  case atStart => exact ⟨0, Nat.zero_le _, rfl, rfl, Below.refl _ _, hcx, hcy⟩
  case round =>
    obtain ⟨k, hk, rfl, htk, hbel, hc1, hc2⟩ := hrel
    have HT : Hid (xs.take k = ys.take k) := htk
    clear htk hcx hcy
    by_cases hlt : k < n
    · have g1 := hc1 k hlt
      have g2 := hc2 k hlt
      have h0 : (0 : Int) ≤ (k : Int) := by omega
      have hl : (k : Int) < (n : Int) := by omega
      generalize hx : xs.getD k 0 = x at g1
      generalize hy : ys.getD k 0 = y at g2
      have H1 : Hid (xs.getD k 0 = x) := hx
      have H2 : Hid (ys.getD k 0 = y) := hy
      clear hx hy
      by_cases hxy : x = y
      · subst hxy
        have ht : (x != x) = false := by simp
        have HC : Hid ((∀ j, j < n → wr.cell? ⟨b, o + j, none⟩ = some (.int .i64 (xs.getD j 0))) ∧ (∀ j, j < n → wr.cell? ⟨b', o' + j, none⟩ = some (.int .i64 (ys.getD j 0)))) := ⟨hc1, hc2⟩
        clear hc1 hc2
        go_wp2
        go_quiet (fail)
        go_wp2
        go_roundw
        case rel => exact ⟨k + 1, by omega, by go_num, take_eq_succ (by rw [HX.out]; omega) (by rw [HY.out]; omega) HT.out (H1.out.trans H2.out.symm), below_drewN hbel _, HC.out.1, HC.out.2⟩
        case measure => simp [intOf]; omega
      · have ht : (x != y) = true := by simpa using hxy
        clear hc1 hc2
        go_wp2
        go_quiet (fail)
        go_wp2
        go_ret
        refine ⟨?_, below_drewN hbel _⟩
        have : xs ≠ ys := fun e => hxy (by rw [← H1.out, ← H2.out, e])
        simp [this]
    · clear hc1 hc2
      go_wp2
      go_ret
      refine ⟨?_, hbel⟩
      have e : xs = ys := by
        have := HT.out
        rwa [List.take_of_length_le (by rw [HX.out]; omega), List.take_of_length_le (by rw [HY.out]; omega)] at this
      simp [e]

theorem sameInts_c (ao bo : Option Addr) (n m c d : Nat) (xs ys : List Int) (w : World) (hx : xs.length = n) (hy : ys.length = m) (hn : n ≤ 17592186044416) (hm : m ≤ 17592186044416) (hr : Rd w ao xs) (hs : Rd w bo ys) :
    Calls Tryd.prog 36 #[.slice ao n c, .slice bo m d] w fun e w' => e = .returned (.bool (decide (xs = ys))) ∧ Below w.heap.size w w' := by
  by_cases hnm : n = m
  · subst hnm
    rcases hr with rfl | ⟨b, o, rfl, hc⟩
    · simp at hx; subst hx
      have : ys = [] := List.length_eq_zero_iff.1 hy
      subst this
      refine (sameInts_nil ao bo c d w).mono ?_
      rintro e w' ⟨rfl, rfl⟩
      exact ⟨by simp, Below.refl _ _⟩
    · rcases hs with rfl | ⟨b', o', rfl, hc'⟩
      · simp at hy; subst hy
        have : xs = [] := List.length_eq_zero_iff.1 hx
        subst this
        refine (sameInts_nil _ bo c d w).mono ?_
        rintro e w' ⟨rfl, rfl⟩
        exact ⟨by simp, Below.refl _ _⟩
      · exact sameInts_at b o n c b' o' d xs ys w hx hy (by omega) (by rw [← hx]; exact hc) (by rw [← hy]; exact hc')
  · refine (sameInts_ne ao bo n m c d w hnm (by omega) (by omega)).mono ?_
    rintro e w' ⟨rfl, rfl⟩
    refine ⟨?_, Below.refl _ _⟩
    have : xs ≠ ys := fun e => hnm (by rw [← hx, ← hy, e])
    simp [this]

theorem sameBig_c (ao bo : Option Addr) (n m c d : Nat) (xs ys : List Int) (w : World) (hx : xs.length = n) (hy : ys.length = m) (hn : n ≤ 17592186044416) (hm : m ≤ 17592186044416) (hr : Rd w ao xs) (hs : Rd w bo ys) :
    Calls Tryd.prog 9 #[.agg #[.slice ao n c], .agg #[.slice bo m d]] w fun e w' => e = .returned (.bool (decide (xs = ys))) ∧ Below w.heap.size w w' := by
  have hb0 : Below w.heap.size w ((w.alloc (Obj.cells #[Value.slice ao n c] 25)).alloc (Obj.cells #[Value.slice bo m d] 25)) :=
    ((Below.refl _ _).alloc (Nat.le_refl _) _).alloc (by simp) _
  by_cases he : xs = ys
  · have hd : decide (xs = ys) = true := by simp [he]
    rw [hd]
    go_enter Tryd.func9, Tryd.ntmps9
    go_wp2_with fail
    refine (sameInts_c ao bo n m c d xs ys _ hx hy hn hm (hr.later hb0) (hs.later hb0)).mono ?_
    rw [hd]
    clear hd he hr hs hx hy
    rintro e w1 ⟨rfl, hb⟩
    go_wp2
    go_ret
    exact ⟨rfl, hb0.trans (hb.mono (by simp; omega))⟩
  · have hd : decide (xs = ys) = false := by simp [he]
    rw [hd]
    go_enter Tryd.func9, Tryd.ntmps9
    go_wp2_with fail
    refine (sameInts_c ao bo n m c d xs ys _ hx hy hn hm (hr.later hb0) (hs.later hb0)).mono ?_
    rw [hd]
    clear hd he hr hs hx hy
    rintro e w1 ⟨rfl, hb⟩
    go_wp2
    go_ret
    exact ⟨rfl, hb0.trans (hb.mono (by simp; omega))⟩


end Go.Proofs.YtaedplfihjfchaaDoor
namespace Go.Proofs.YtaedplfihjfchaaDoor
set_option linter.unusedVariables false
set_option maxRecDepth 1000000
set_option linter.unusedSimpArgs false
open Go.RowKit

set_option maxHeartbeats 1000000 in
theorem implTimes_bad (ao bo : Option Addr) (n m c d : Nat) (xs ys : List Int) (w : World) (hx : xs.length = n) (hy : ys.length = m) (hn : n ≤ 17592186044416) (hm : m ≤ 17592186044416) (hr : Rd w ao xs) (hs : Rd w bo ys) (hg : (goodB xs && goodB ys) = false) :
    Calls Tryd.prog 13 #[.agg #[.slice ao n c], .agg #[.slice bo m d]] w fun e w' => ∃ a' c', e = .returned (.tuple #[.agg #[.slice a' 0 c'], .bool false]) ∧ Own w' w.heap.size (.slice a' 0 c') [] ∧ Below w.heap.size w w' := by
  have HX : Hid (xs.length = n) := hx
  have HY : Hid (ys.length = m) := hy
  have HR : Hid (Rd w ao xs) := hr
  have HS : Hid (Rd w bo ys) := hs
  have HB0 : Hid (Below w.heap.size w (((w.alloc (Obj.cells #[Value.slice ao n c] 25)).alloc (Obj.cells #[Value.slice bo m d] 25)).alloc (Obj.cells #[Value.slice none 0 0] 25))) := below_three w _ _ _
  clear hx hy hr hs
  cases gx : goodB xs
  · clear hg
    go_enter Tryd.func13, Tryd.ntmps13
    go_wp2_with fail
    refine (implGood_c ao n c xs _ HX.out hn (HR.out.later HB0.out)).mono ?_
    rw [gx]
    rintro e w1 ⟨rfl, hb⟩
    have HB1 : Hid (Below w.heap.size w w1) := HB0.out.trans (hb.mono (by simp; omega))
    have t1 : w1.cell? ⟨w.heap.size + 1 + 1, 0, none⟩ = some (.slice none 0 0) := cell_keep (S := 0) hb (by rw [World.cell?_alloc_at _ _ _ _ (by simp)]; rfl)
    have f1 : w1.frozen? ⟨w.heap.size + 1 + 1, 0, none⟩ = false := fcell_keep hb (by simp) (fz3 _ _ _ _ _ _ _)
    clear hb gx
    go_wp2
    refine bodyPost_ret (v := .tuple #[.agg #[.slice none 0 0], .bool false]) (by simp [results, Tryd.results13, go_sem, t1]) rfl ⟨none, 0, rfl, World.ownsRow_nil _ _ _ _, ?_⟩
    exact HB1.out.setCell (by simp; omega) _
  · have gy : goodB ys = false := by rw [gx] at hg; simpa using hg
    clear hg
    go_enter Tryd.func13, Tryd.ntmps13
    go_wp2_with fail
    refine (implGood_c ao n c xs _ HX.out hn (HR.out.later HB0.out)).mono ?_
    rw [gx]
    rintro e w1 ⟨rfl, hb⟩
    have HB1 : Hid (Below w.heap.size w w1) := HB0.out.trans (hb.mono (by simp; omega))
    have y1 : w1.cell? ⟨w.heap.size + 1, 0, none⟩ = some (.slice bo m d) := cell_keep (S := 0) hb (calloc (by simp))
    have t1 : w1.cell? ⟨w.heap.size + 1 + 1, 0, none⟩ = some (.slice none 0 0) := cell_keep (S := 0) hb (by rw [World.cell?_alloc_at _ _ _ _ (by simp)]; rfl)
    have f1 : w1.frozen? ⟨w.heap.size + 1 + 1, 0, none⟩ = false := fcell_keep hb (by simp) (fz3 _ _ _ _ _ _ _)
    have l1 : w.heap.size + 1 + 1 < w1.heap.size := World.block_lt_of_cell? _ _ t1
    clear hb gx
    go_wp2_with fail
    refine (implGood_c bo m d ys _ HY.out hm (HS.out.later HB1.out)).mono ?_
    rw [gy]
    rintro e w2 ⟨rfl, hb⟩
    have HB2 : Hid (Below w.heap.size w w2) := HB1.out.trans (hb.mono (HB1.out.size))
    have t2 : w2.cell? ⟨w.heap.size + 1 + 1, 0, none⟩ = some (.slice none 0 0) := cell_keep (S := 0) hb t1
    have f2 : w2.frozen? ⟨w.heap.size + 1 + 1, 0, none⟩ = false := fcell_keep hb l1 f1
    clear hb gy
    go_wp2
    refine bodyPost_ret (v := .tuple #[.agg #[.slice none 0 0], .bool false]) (by simp [results, Tryd.results13, go_sem, t2]) rfl ⟨none, 0, rfl, World.ownsRow_nil _ _ _ _, ?_⟩
    exact HB2.out.setCell (by simp; omega) _

theorem implTimes_c (ao bo : Option Addr) (n m c d : Nat) (xs ys : List Int) (w : World) (hx : xs.length = n) (hy : ys.length = m) (hn : n ≤ 17592186044416) (hm : m ≤ 17592186044416) (hr : Rd w ao xs) (hs : Rd w bo ys) (zs : List Int) (fb : Bool) (p : Nat) (hF : timesF xs ys = (zs, fb)) (hp : zs.length = p) :
    Calls Tryd.prog 13 #[.agg #[.slice ao n c], .agg #[.slice bo m d]] w fun e w' => ∃ a' c', e = .returned (.tuple #[.agg #[.slice a' p c'], .bool fb]) ∧ Own w' w.heap.size (.slice a' p c') zs ∧ Below w.heap.size w w' := by
  cases hg : (goodB xs && goodB ys)
  · rw [timesF, hg] at hF
    simp only [Bool.false_eq_true, if_false, Prod.mk.injEq] at hF
    obtain ⟨rfl, rfl⟩ := hF
    simp at hp
    subst hp
    exact implTimes_bad ao bo n m c d xs ys w hx hy hn hm hr hs hg
  · have h := hg
    simp at h
    exact implTimes_good ao bo n m c d xs ys w hx hy hn hm hr hs zs fb p hF hp h.1 h.2

theorem implTimes_d {ao bo : Option Addr} {n m c d : Nat} {xs ys : List Int} {w W : World} (hx : xs.length = n) (hy : ys.length = m) (hn : n ≤ 17592186044416) (hm : m ≤ 17592186044416) (hr : Rd W ao xs) (hs : Rd W bo ys) {zs : List Int} {fb : Bool} {p : Nat} (hF : timesF xs ys = (zs, fb)) (hp : zs.length = p) (hB : Below w.heap.size w W) :
    Calls Tryd.prog 13 #[.agg #[.slice ao n c], .agg #[.slice bo m d]] W fun e w' => ∃ a' c', e = .returned (.tuple #[.agg #[.slice a' p c'], .bool fb]) ∧ Own w' W.heap.size (.slice a' p c') zs ∧ Hid (Below w.heap.size w w') ∧ Below W.heap.size W w' := by
  refine (implTimes_c ao bo n m c d xs ys W hx hy hn hm hr hs zs fb p hF hp).mono ?_
  rintro e w' ⟨a', c', rfl, ho, hb⟩
  exact ⟨a', c', rfl, ho, hB.trans (hb.mono hB.size), hb⟩

end Go.Proofs.YtaedplfihjfchaaDoor
