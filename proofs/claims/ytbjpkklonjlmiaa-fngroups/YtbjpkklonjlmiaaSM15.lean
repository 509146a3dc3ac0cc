/- sameInts, sameBig. -/
import Derived.Test.YtbjpkklonjlmiaaB3
import Derived.Test.YtbjpkklonjlmiaaT15
import Derived.Deep.QuietTactic
namespace Go.Proofs.Ytbjpkklonjlmiaa
set_option linter.unusedVariables false
set_option maxRecDepth 1000000
set_option linter.unusedSimpArgs false
open Go.RowKit

theorem sameInts_ne (ao bo : Option Addr) (n m c d : Nat) (w : World) (hnm : n ≠ m) (hn : n ≤ 140737488355328) (hm : m ≤ 140737488355328) :
    Calls Try.prog 8 #[.slice ao n c, .slice bo m d] w fun e w' => e = .returned (.bool false) ∧ w' = w := by
  have hx : ((n : Int) != (m : Int)) = true := by rw [bne_iff_ne]; omega
  go_enter Try.func8, Try.ntmps8
  go_wp2
  go_ret
  exact ⟨rfl, rfl⟩

theorem sameInts_nil (ao bo : Option Addr) (c d : Nat) (w : World) :
    Calls Try.prog 8 #[.slice ao 0 c, .slice bo 0 d] w fun e w' => e = .returned (.bool true) ∧ w' = w := by
  go_enter Try.func8, Try.ntmps8
  go_wp2
  refine wp_loop_rounds 1 ?_
  rw [rounds_succ]
  go_wp2
  go_ret
  exact ⟨rfl, rfl⟩


set_option maxHeartbeats 400000 in
theorem sameInts_at (b o n c b' o' d : Nat) (xs ys : List Int) (w : World) (hx : xs.length = n) (hy : ys.length = n) (hn : n ≤ 140737488355328)
    (hcx : ∀ j, j < n → w.cell? ⟨b, o + j, none⟩ = some (.int .i64 (xs.getD j 0))) (hcy : ∀ j, j < n → w.cell? ⟨b', o' + j, none⟩ = some (.int .i64 (ys.getD j 0))) :
    Calls Try.prog 8 #[.slice (some ⟨b, o, none⟩) n c, .slice (some ⟨b', o', none⟩) n d] w fun e w' => e = .returned (.bool (decide (xs = ys))) ∧ Below w.heap.size w w' := by
  have HX : Hid (xs.length = n) := hx
  have HY : Hid (ys.length = n) := hy
  clear hx hy
  go_enter Try.func8, Try.ntmps8
  go_wp2
  go_loopw [13] (fun i wr => ∃ k : Nat, k ≤ n ∧ i = .int .i64 k ∧ xs.take k = ys.take k ∧ Below w.heap.size w wr ∧ (∀ j, j < n → wr.cell? ⟨b, o + j, none⟩ = some (.int .i64 (xs.getD j 0))) ∧ (∀ j, j < n → wr.cell? ⟨b', o' + j, none⟩ = some (.int .i64 (ys.getD j 0)))) (fun i _ => n - (intOf i).toNat)
  case atStart => exact ⟨0, Nat.zero_le _, rfl, rfl, Below.refl _ _, hcx, hcy⟩
  case round =>
    obtain ⟨k, hk, rfl, htk, hbel, hc1, hc2⟩ := hrel
    have HT : Hid (xs.take k = ys.take k) := htk
    clear htk hcx hcy
    by_cases hlt : k < n
    · have g1 := hc1 k hlt
      have g2 := hc2 k hlt
      have h0 : (0 : Int) ≤ (k : Int) := by omega
      have hl : (k : Int) < (n : Int) := by omega
      generalize hx : xs.getD k 0 = x at g1
      generalize hy : ys.getD k 0 = y at g2
      have H1 : Hid (xs.getD k 0 = x) := hx
      have H2 : Hid (ys.getD k 0 = y) := hy
      clear hx hy
      by_cases hxy : x = y
      · subst hxy
        have ht : (x != x) = false := by simp
        have HC : Hid ((∀ j, j < n → wr.cell? ⟨b, o + j, none⟩ = some (.int .i64 (xs.getD j 0))) ∧ (∀ j, j < n → wr.cell? ⟨b', o' + j, none⟩ = some (.int .i64 (ys.getD j 0)))) := ⟨hc1, hc2⟩
        clear hc1 hc2
        go_wp2
        go_quiet (fail)
        go_wp2
        go_roundw
        case rel => exact ⟨k + 1, by omega, by go_num, take_eq_succ (by rw [HX.out]; omega) (by rw [HY.out]; omega) HT.out (H1.out.trans H2.out.symm), below_drewN hbel _, HC.out.1, HC.out.2⟩
        case measure => simp [intOf]; omega
      · have ht : (x != y) = true := by simpa using hxy
        clear hc1 hc2
        go_wp2
        go_quiet (fail)
        go_wp2
        go_ret
        refine ⟨?_, below_drewN hbel _⟩
        have : xs ≠ ys := fun e => hxy (by rw [← H1.out, ← H2.out, e])
        simp [this]
    · clear hc1 hc2
      go_wp2
      go_ret
      refine ⟨?_, hbel⟩
      have e : xs = ys := by
        have := HT.out
        rwa [List.take_of_length_le (by rw [HX.out]; omega), List.take_of_length_le (by rw [HY.out]; omega)] at this
      simp [e]

theorem sameInts_c (ao bo : Option Addr) (n m c d : Nat) (xs ys : List Int) (w : World) (hx : xs.length = n) (hy : ys.length = m) (hn : n ≤ 17592186044416) (hm : m ≤ 17592186044416) (hr : Rd w ao xs) (hs : Rd w bo ys) :
    Calls Try.prog 8 #[.slice ao n c, .slice bo m d] w fun e w' => e = .returned (.bool (decide (xs = ys))) ∧ Below w.heap.size w w' := by
  by_cases hnm : n = m
  · subst hnm
    rcases hr with rfl | ⟨b, o, rfl, hc⟩
    · simp at hx; subst hx
      have : ys = [] := List.length_eq_zero_iff.1 hy
      subst this
      refine (sameInts_nil ao bo c d w).mono ?_
      rintro e w' ⟨rfl, rfl⟩
      exact ⟨by simp, Below.refl _ _⟩
    · rcases hs with rfl | ⟨b', o', rfl, hc'⟩
      · simp at hy; subst hy
        have : xs = [] := List.length_eq_zero_iff.1 hx
        subst this
        refine (sameInts_nil _ bo c d w).mono ?_
        rintro e w' ⟨rfl, rfl⟩
        exact ⟨by simp, Below.refl _ _⟩
      · exact sameInts_at b o n c b' o' d xs ys w hx hy (by omega) (by rw [← hx]; exact hc) (by rw [← hy]; exact hc')
  · refine (sameInts_ne ao bo n m c d w hnm (by omega) (by omega)).mono ?_
    rintro e w' ⟨rfl, rfl⟩
    refine ⟨?_, Below.refl _ _⟩
    have : xs ≠ ys := fun e => hnm (by rw [← hx, ← hy, e])
    simp [this]

set_option maxHeartbeats 1000000 in
theorem sameRows_c (ao bo : Option Addr) (n c d : Nat) (xss : List (List Int)) (w : World) (hx : xss.length = n) (hn : n ≤ 1048576) (hl : ∀ l ∈ xss, l.length ≤ 1048576) (hr : RdII w ao xss) (hs : RdII w bo xss) :
    Calls Try.prog 27 #[.slice ao n c, .slice bo n d] w fun e w' => e = .returned (.bool true) ∧ Below w.heap.size w w' := by
  have HX : Hid (xss.length = n) := hx
  have HR : Hid (RdII w ao xss) := hr
  have HS : Hid (RdII w bo xss) := hs
  have HL : Hid (∀ l ∈ xss, l.length ≤ 1048576) := hl
  have hnn : ((n : Int) != (n : Int)) = false := by simp
  clear hx hr hs hl
  go_enter Try.func27, Try.ntmps27
  go_wp2
  go_loopw [13] (fun iv wr => ∃ (k : Nat), k ≤ n ∧ iv = .int .i64 k ∧ Hid (Below w.heap.size w wr)) (fun iv _ => n - (intOf iv).toNat)
  case atStart => exact ⟨0, Nat.zero_le _, rfl, Below.refl _ _⟩
  case round =>
    obtain ⟨k, hk, rfl, HB⟩ := hrel
    by_cases hlt : k < n
    · have hkl : k < xss.length := by rw [HX.out]; exact hlt
      obtain ⟨b, o, ro, rc, rfl, g1, hro⟩ := (HR.out.later HB.out).get hkl
      obtain ⟨b', o', so, sc, rfl, g2, hso⟩ := (HS.out.later HB.out).get hkl
      have hlk := HL.out _ (mem_getD [] hkl)
      have k0 : (0 : Int) ≤ (k : Int) := by omega
      have k1 : (k : Int) < (n : Int) := by omega
      generalize xss.getD k [] = row at g1 g2 hro hso hlk
      obtain ⟨rn, hrn⟩ : ∃ rn, row.length = rn := ⟨_, rfl⟩
      rw [hrn] at g1 g2 hlk
      have HQ : Hid (∀ wx, Below wr.heap.size wr wx → Calls Try.prog 8 #[.slice ro rn rc, .slice so rn sc] wx fun e w' => e = .returned (.bool true) ∧ Below wx.heap.size wx w') := fun wx h => by
        have q := sameInts_c ro so rn rn rc sc row row wx hrn hrn (by omega) (by omega) (hro.later h) (hso.later h)
        rw [decide_eq_true rfl] at q
        exact q
      clear hkl hlk hrn hro hso
      go_wp2
      go_region_with (go_at_call 8; refine (HQ.out _ (by first | exact Below.refl _ _ | exact (Below.refl _ _).drew)).mono ?_; rintro e w1 ⟨rfl, hb1⟩; have HB1 : Hid (Below w.heap.size w w1) := (by first | exact HB.out.trans (hb1.mono HB.out.size) | exact HB.out.drew.trans (hb1.mono HB.out.size)); clear hb1)
      all_goals go_wp2
      all_goals exact ⟨⟨k + 1, by omega, by go_num, HB1⟩, by simp [intOf]; omega⟩
    · go_wp2
      go_ret
      exact ⟨rfl, HB.out⟩


set_option maxHeartbeats 2000000 in
theorem sameTable_c (sa : Option Addr) (sn sc : Nat) (la : Option Addr) (ln lc : Nat) (sb : Option Addr) (sd : Nat) (lb : Option Addr) (ld : Nat) (t : TbV) (w : World) (hs : SmallTb t) (h1 : RdT w sa sn sc la ln lc t) (h2 : RdT w sb sn sd lb ln ld t) :
    Calls Try.prog 19 #[.agg #[.int .i64 t.s, .slice sa sn sc, .slice la ln lc], .agg #[.int .i64 t.s, .slice sb sn sd, .slice lb ln ld]] w fun e w' => e = .returned (.bool true) ∧ Below w.heap.size w w' := by
  obtain ⟨f, ps, cs⟩ := t
  have HS : Hid (ps.length = sn) := h1.rd.sl
  have HL : Hid (cs.length = ln) := h1.rd.ll
  have hsn : sn ≤ 1048576 := by have := hs.s; have h9 : ps.length = sn := h1.rd.sl; rw [← h9]; exact this
  have hln : ln ≤ 1048576 := by have := hs.l; have h9 : cs.length = ln := h1.rd.ll; rw [← h9]; exact this
  have HZ : Hid (∀ l ∈ ps, l.length ≤ 1048576) := hs.r
  obtain ⟨W, hW⟩ : ∃ D, (w.alloc (.cells #[.int .i64 f, .slice sa sn sc, .slice la ln lc] 26)).alloc (.cells #[.int .i64 f, .slice sb sn sd, .slice lb ln ld] 26) = D := ⟨_, rfl⟩
  have hb0 : Below w.heap.size w W := by rw [← hW]; exact (balloc w _).alloc (by simp) _
  have XA : Hid (X3 W w.heap.size (.int .i64 f) (.slice sa sn sc) (.slice la ln lc)) := by rw [← hW]; exact (x3_new w _ _ _ _ _ rfl).later (balloc _ _)
  have XB : Hid (X3 W (w.heap.size + 1) (.int .i64 f) (.slice sb sn sd) (.slice lb ln ld)) := by
    have h9 := x3_new (w.alloc (.cells #[.int .i64 f, .slice sa sn sc, .slice la ln lc] 26)) (.int .i64 f) (.slice sb sn sd) (.slice lb ln ld) 26 (w.heap.size + 1) (by simp)
    rw [← hW]; exact h9
  have HA : Hid (RdT W sa sn sc la ln lc ⟨f, ps, cs⟩) := h1.later hb0
  have HB : Hid (RdT W sb sn sd lb ln ld ⟨f, ps, cs⟩) := h2.later hb0
  have HB0 : Hid (Below w.heap.size w W) := hb0
  have hff : (f == f) = true := by simp
  clear h1 h2 hs hb0
  go_enter Try.func19, Try.ntmps19
  obtain ⟨⟨a0, a1, a2⟩, az⟩ := id XA.out
  obtain ⟨⟨b0, b1, b2⟩, bz⟩ := id XB.out
  go_wp2_with fail
  clear hW a0 a1 a2 b0 b1 b2 az bz
  refine (sameRows_c sa sb sn sc sd ps _ HS.out hsn HZ.out HA.out.rd.s.ii HB.out.rd.s.ii).mono ?_
  rintro e w1 ⟨rfl, hb⟩
  have HA1 : Hid (RdT w1 sa sn sc la ln lc ⟨f, ps, cs⟩) := HA.out.later hb
  have HC1 : Hid (RdT w1 sb sn sd lb ln ld ⟨f, ps, cs⟩) := HB.out.later hb
  have HB1 : Hid (Below w.heap.size w w1) := HB0.out.trans (hb.mono HB0.out.size)
  obtain ⟨⟨a0, a1, a2⟩, az⟩ := id (XA.out.later hb)
  obtain ⟨⟨b0, b1, b2⟩, bz⟩ := id (XB.out.later hb)
  clear hb XA XB HA HB HB0
  go_wp2_with fail
  refine (sameInts_c la lb ln ln lc ld cs cs _ HL.out HL.out (by omega) (by omega) HA1.out.rd.l HC1.out.rd.l).mono ?_
  rw [decide_eq_true rfl]
  rintro e w2 ⟨rfl, hb⟩
  have HB2 : Hid (Below w.heap.size w w2) := HB1.out.trans (hb.mono HB1.out.size)
  clear hb a0 a1 a2 b0 b1 b2 az bz
  go_wp2
  go_ret
  exact ⟨rfl, HB2.out⟩

end Go.Proofs.Ytbjpkklonjlmiaa
