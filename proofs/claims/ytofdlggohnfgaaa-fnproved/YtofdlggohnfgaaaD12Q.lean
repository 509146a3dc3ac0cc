/- Chapter 12: what the laws FnProved and FnStated draw. -/
import Derived.Test.YtofdlggohnfgaaaD12S
namespace Go.Proofs.Ytofdlggohnfgaaa
set_option linter.unusedVariables false
set_option maxRecDepth 1000000
set_option linter.unusedSimpArgs false
open Go.RowKit

theorem sep_ownB {w : World} {base g : Nat} {v : Value} {xs : List Bool} (h : OwnB w base v xs) (hg : g < base) : v.ownBlock = none ∨ v.ownBlock ≠ some g := by
  rcases hb : v.ownBlock with _ | b
  · exact Or.inl rfl
  · exact Or.inr (fun e => by have := own_block_geB h b hb; simp at e; omega)

def DrawnRC (w : World) (e : Ending) (w' : World) : Prop := ∃ (hand : Bool) (a' : Option Addr) (q c' : Nat) (ws : List Bool) (x y z : Int), e = .returned (.tuple #[.bool hand, .slice a' q c', .agg #[.int .i64 x, .int .i64 y, .int .i64 z]]) ∧ q ≤ 8 ∧ OwnB w' w.heap.size (.slice a' q c') ws ∧ Below w.heap.size w w'

def DrawnIP (w : World) (e : Ending) (w' : World) : Prop := ∃ (f : Int) (a' : Option Addr) (p c' : Nat) (xs : List St) (x y z : Int), e = .returned (.tuple #[.int .i64 f, .slice a' p c', .agg #[.int .i64 x, .int .i64 y, .int .i64 z]]) ∧ p ≤ 61 ∧ OwnS w' w.heap.size (.slice a' p c') xs ∧ Below w.heap.size w w'

def DrawnRB (w : World) (e : Ending) (w' : World) : Prop := ∃ (a' : Option Addr) (p c' : Nat) (xs : List St) (x y z : Int), e = .returned (.tuple #[.slice a' p c', .agg #[.int .i64 x, .int .i64 y, .int .i64 z]]) ∧ p ≤ 61 ∧ OwnS w' w.heap.size (.slice a' p c') xs ∧ Below w.heap.size w w'

set_option maxHeartbeats 4000000 in
theorem drawRun_c (ao : Option Addr) (n c : Nat) (w : World) (hn : n ≤ 9223372036854775807) (h : CodeOk w w.heap.size ao n) :
    Calls Try.prog 12 #[.slice ao n c] w fun e w' => DrawnRC w e w' := by
  have hb0 := balloc w (.cells #[.int .i64 0, .int .i64 0, .int .i64 0] 25)
  have hz : (w.alloc (.cells #[.int .i64 0, .int .i64 0, .int .i64 0] 25)).heap.size = w.heap.size + 1 := by simp
  have hC := cur_new (c := c) 80 hn (h.later hb0 hb0.size)
  have hX := (x3_new w (.int .i64 0) (.int .i64 0) (.int .i64 0) 25 w.heap.size rfl).later (balloc _ (.cells #[.slice ao n c, .int .i64 0, .int .u64 0] 80))
  have hB := hb0.trans ((balloc (w.alloc (.cells #[.int .i64 0, .int .i64 0, .int .i64 0] 25)) (.cells #[.slice ao n c, .int .i64 0, .int .u64 0] 80)).mono hb0.size)
  have hs0 : w.heap.size + 1 < ((w.alloc (.cells #[.int .i64 0, .int .i64 0, .int .i64 0] 25)).alloc (.cells #[.slice ao n c, .int .i64 0, .int .u64 0] 80)).heap.size := by simp
  rw [hz] at hC
  have HC0 : Hid (Cur ((w.alloc (.cells #[.int .i64 0, .int .i64 0, .int .i64 0] 25)).alloc (.cells #[.slice ao n c, .int .i64 0, .int .u64 0] 80)) (w.heap.size + 1) ao n c 0) := hC
  have HX0 : Hid (X3 ((w.alloc (.cells #[.int .i64 0, .int .i64 0, .int .i64 0] 25)).alloc (.cells #[.slice ao n c, .int .i64 0, .int .u64 0] 80)) w.heap.size (.int .i64 0) (.int .i64 0) (.int .i64 0)) := hX
  have HB0 : Hid (Below w.heap.size w ((w.alloc (.cells #[.int .i64 0, .int .i64 0, .int .i64 0] 25)).alloc (.cells #[.slice ao n c, .int .i64 0, .int .u64 0] 80))) := hB
  clear hb0 hz hC hX hB h
  go_enter Try.func12, Try.ntmps12
  go_wp2_with fail
  refine (one_c (w.heap.size + 1) ao n c _ 2 _ (by omega) (by omega) HC0.out).mono ?_
  rintro e w1 ⟨hand, rfl, hc, hg⟩
  have HC1 : Hid (Cur w1 (w.heap.size + 1) ao n c 2000) := hc.mono (by omega)
  have HX1 : Hid (X3 w1 w.heap.size (.int .i64 0) (.int .i64 0) (.int .i64 0)) := HX0.out.grown hg (fun e => by have e2 := Option.some.inj e; omega)
  have HB1 : Hid (Below w.heap.size w w1) := HB0.out.trans (hg.below HB0.out.size (by omega))
  have hs1 : w.heap.size + 1 < w1.heap.size := by have := hg.size; omega
  clear hc hg HC0 HX0 HB0
  go_wp2_with fail
  refine (pick_c (w.heap.size + 1) ao n c _ 9 _ (by omega) (by omega) HC1.out).mono ?_
  rintro e w2 ⟨q0, rfl, hq0, hq1, hc, hg⟩
  obtain ⟨q, rfl⟩ : ∃ q : Nat, q0 = (q : Int) := ⟨q0.toNat, by omega⟩
  have HC2 : Hid (Cur w2 (w.heap.size + 1) ao n c 4000) := hc.mono (by omega)
  have HX2 : Hid (X3 w2 w.heap.size (.int .i64 0) (.int .i64 0) (.int .i64 0)) := HX1.out.grown hg (fun e => by have e2 := Option.some.inj e; omega)
  have HB2 : Hid (Below w.heap.size w w2) := HB1.out.trans (hg.below HB1.out.size (by omega))
  have hs2 : w.heap.size + 1 < w2.heap.size := by have := hg.size; omega
  clear hc hg HC1 HX1 HB1
  go_wp2_with fail
  refine (bits_c (w.heap.size + 1) ao n c q _ _ (by omega) (by omega) HC2.out).mono ?_
  rintro e w3 ⟨a', c', ws, rfl, hwl, ho, hc, hg⟩
  have HC3 : Hid (Cur w3 (w.heap.size + 1) ao n c 6000) := hc.mono (by omega)
  have HX3 : Hid (X3 w3 w.heap.size (.int .i64 0) (.int .i64 0) (.int .i64 0)) := HX2.out.grown hg (fun e => by have e2 := Option.some.inj e; omega)
  have HB3 : Hid (Below w.heap.size w w3) := HB2.out.trans (hg.below HB2.out.size (by omega))
  have hs3 : w.heap.size + 1 < w3.heap.size := by have := hg.size; omega
  have HO3 : Hid (OwnB w3 (w.heap.size + 2) (.slice a' q c') ws) := ho.mono (by omega)
  clear ho
  clear hc hg HC2 HX2 HB2
  go_wp2_with fail
  refine (claim_c (w.heap.size + 1) ao n c _ _ (by omega) HC3.out).mono ?_
  rintro e w4 ⟨x, y, z, rfl, hc, hg⟩
  have HC4 : Hid (Cur w4 (w.heap.size + 1) ao n c 8000) := hc.mono (by omega)
  have HX4 : Hid (X3 w4 w.heap.size (.int .i64 0) (.int .i64 0) (.int .i64 0)) := HX3.out.grown hg (fun e => by have e2 := Option.some.inj e; omega)
  have HB4 : Hid (Below w.heap.size w w4) := HB3.out.trans (hg.below HB3.out.size (by omega))
  have hs4 : w.heap.size + 1 < w4.heap.size := by have := hg.size; omega
  have HO4 : Hid (OwnB w4 (w.heap.size + 2) (.slice a' q c') ws) := HO3.out.kept hg (sep_ownB HO3.out (by omega))
  clear HO3
  clear hc hg HC3 HX3 HB3
  obtain ⟨⟨a0, a1, a2⟩, af⟩ := id HX4.out
  have f0 := af 0
  have f1 := af 1
  have f2 := af 2
  clear af
  have hX := ((HX4.out.set0 (.int .i64 x)).set1 (.int .i64 y)).set2 (.int .i64 z)
  have hgr := grown_trans' (grown_trans' (grown_setCell w4 w.heap.size 0 (.int .i64 x)) (grown_setCell _ w.heap.size 1 (.int .i64 y))) (grown_setCell _ w.heap.size 2 (.int .i64 z))
  have HBz : Hid (Below w.heap.size w _) := Below.grown HB4.out hgr (by have := HB4.out.size; omega) (fun k e => by have e2 := Option.some.inj e; omega)
  have HOz : Hid (OwnB _ (w.heap.size + 2) (.slice a' q c') ws) := HO4.out.kept hgr (sep_ownB HO4.out (by omega))
  obtain ⟨⟨b0, b1, b2⟩, _⟩ := hX
  clear hgr HX4 HC4 HB4 HO4
  go_wp2
  refine bodyPost_ret (v := .tuple #[.bool hand, .slice a' q c', .agg #[.int .i64 x, .int .i64 y, .int .i64 z]]) (by simp [results, Try.results12, go_sem, b0, b1, b2]; try rfl) rfl ?_
  exact ⟨hand, a', q, c', ws, x, y, z, rfl, by omega, HOz.out.mono (by omega), HBz.out⟩

set_option maxHeartbeats 4000000 in
theorem drawProved_c (ao : Option Addr) (n c : Nat) (w : World) (hn : n ≤ 9223372036854775807) (h : CodeOk w w.heap.size ao n) :
    Calls Try.prog 19 #[.slice ao n c] w fun e w' => DrawnIP w e w' := by
  have hb0 := balloc w (.cells #[.int .i64 0, .int .i64 0, .int .i64 0] 25)
  have hz : (w.alloc (.cells #[.int .i64 0, .int .i64 0, .int .i64 0] 25)).heap.size = w.heap.size + 1 := by simp
  have hC := cur_new (c := c) 80 hn (h.later hb0 hb0.size)
  have hX := (x3_new w (.int .i64 0) (.int .i64 0) (.int .i64 0) 25 w.heap.size rfl).later (balloc _ (.cells #[.slice ao n c, .int .i64 0, .int .u64 0] 80))
  have hB := hb0.trans ((balloc (w.alloc (.cells #[.int .i64 0, .int .i64 0, .int .i64 0] 25)) (.cells #[.slice ao n c, .int .i64 0, .int .u64 0] 80)).mono hb0.size)
  have hs0 : w.heap.size + 1 < ((w.alloc (.cells #[.int .i64 0, .int .i64 0, .int .i64 0] 25)).alloc (.cells #[.slice ao n c, .int .i64 0, .int .u64 0] 80)).heap.size := by simp
  rw [hz] at hC
  have HC0 : Hid (Cur ((w.alloc (.cells #[.int .i64 0, .int .i64 0, .int .i64 0] 25)).alloc (.cells #[.slice ao n c, .int .i64 0, .int .u64 0] 80)) (w.heap.size + 1) ao n c 0) := hC
  have HX0 : Hid (X3 ((w.alloc (.cells #[.int .i64 0, .int .i64 0, .int .i64 0] 25)).alloc (.cells #[.slice ao n c, .int .i64 0, .int .u64 0] 80)) w.heap.size (.int .i64 0) (.int .i64 0) (.int .i64 0)) := hX
  have HB0 : Hid (Below w.heap.size w ((w.alloc (.cells #[.int .i64 0, .int .i64 0, .int .i64 0] 25)).alloc (.cells #[.slice ao n c, .int .i64 0, .int .u64 0] 80))) := hB
  clear hb0 hz hC hX hB h
  go_enter Try.func19, Try.ntmps19
  go_wp2_with fail
  refine (pick_c (w.heap.size + 1) ao n c _ 5 _ (by omega) (by omega) HC0.out).mono ?_
  rintro e w1 ⟨f, rfl, hf0, hf1, hc, hg⟩
  have HC1 : Hid (Cur w1 (w.heap.size + 1) ao n c 2000) := hc.mono (by omega)
  have HX1 : Hid (X3 w1 w.heap.size (.int .i64 0) (.int .i64 0) (.int .i64 0)) := HX0.out.grown hg (fun e => by have e2 := Option.some.inj e; omega)
  have HB1 : Hid (Below w.heap.size w w1) := HB0.out.trans (hg.below HB0.out.size (by omega))
  have hs1 : w.heap.size + 1 < w1.heap.size := by have := hg.size; omega
  clear hc hg HC0 HX0 HB0
  go_wp2_with fail
  refine (statements_c (w.heap.size + 1) ao n c _ _ (by omega) HC1.out).mono ?_
  rintro e w2 ⟨a', p, c', xs, rfl, hp, ho, hc, hg⟩
  have HC2 : Hid (Cur w2 (w.heap.size + 1) ao n c 4000) := hc.mono (by omega)
  have HX2 : Hid (X3 w2 w.heap.size (.int .i64 0) (.int .i64 0) (.int .i64 0)) := HX1.out.grown hg (fun e => by have e2 := Option.some.inj e; omega)
  have HB2 : Hid (Below w.heap.size w w2) := HB1.out.trans (hg.below HB1.out.size (by omega))
  have hs2 : w.heap.size + 1 < w2.heap.size := by have := hg.size; omega
  have HO2 : Hid (OwnS w2 (w.heap.size + 2) (.slice a' p c') xs) := ho.mono (by omega)
  clear ho
  clear hc hg HC1 HX1 HB1
  go_wp2_with fail
  refine (claim_c (w.heap.size + 1) ao n c _ _ (by omega) HC2.out).mono ?_
  rintro e w3 ⟨x, y, z, rfl, hc, hg⟩
  have HC3 : Hid (Cur w3 (w.heap.size + 1) ao n c 6000) := hc.mono (by omega)
  have HX3 : Hid (X3 w3 w.heap.size (.int .i64 0) (.int .i64 0) (.int .i64 0)) := HX2.out.grown hg (fun e => by have e2 := Option.some.inj e; omega)
  have HB3 : Hid (Below w.heap.size w w3) := HB2.out.trans (hg.below HB2.out.size (by omega))
  have hs3 : w.heap.size + 1 < w3.heap.size := by have := hg.size; omega
  have HO3 : Hid (OwnS w3 (w.heap.size + 2) (.slice a' p c') xs) := HO2.out.kept hg (sep_ownS HO2.out (by omega))
  clear HO2
  clear hc hg HC2 HX2 HB2
  obtain ⟨⟨a0, a1, a2⟩, af⟩ := id HX3.out
  have f0 := af 0
  have f1 := af 1
  have f2 := af 2
  clear af
  have hX := ((HX3.out.set0 (.int .i64 x)).set1 (.int .i64 y)).set2 (.int .i64 z)
  have hgr := grown_trans' (grown_trans' (grown_setCell w3 w.heap.size 0 (.int .i64 x)) (grown_setCell _ w.heap.size 1 (.int .i64 y))) (grown_setCell _ w.heap.size 2 (.int .i64 z))
  have HBz : Hid (Below w.heap.size w _) := Below.grown HB3.out hgr (by have := HB3.out.size; omega) (fun k e => by have e2 := Option.some.inj e; omega)
  have HOz : Hid (OwnS _ (w.heap.size + 2) (.slice a' p c') xs) := HO3.out.kept hgr (sep_ownS HO3.out (by omega))
  obtain ⟨⟨b0, b1, b2⟩, _⟩ := hX
  clear hgr HX3 HC3 HB3 HO3
  go_wp2
  refine bodyPost_ret (v := .tuple #[.int .i64 (f - 1), .slice a' p c', .agg #[.int .i64 x, .int .i64 y, .int .i64 z]]) (by simp [results, Try.results19, go_sem, b0, b1, b2]; try rfl) rfl ?_
  exact ⟨f - 1, a', p, c', xs, x, y, z, rfl, hp, HOz.out.mono (by omega), HBz.out⟩

set_option maxHeartbeats 4000000 in
theorem drawRefused_c (ao : Option Addr) (n c : Nat) (w : World) (hn : n ≤ 9223372036854775807) (h : CodeOk w w.heap.size ao n) :
    Calls Try.prog 21 #[.slice ao n c] w fun e w' => DrawnRB w e w' := by
  have hb0 := balloc w (.cells #[.int .i64 0, .int .i64 0, .int .i64 0] 25)
  have hz : (w.alloc (.cells #[.int .i64 0, .int .i64 0, .int .i64 0] 25)).heap.size = w.heap.size + 1 := by simp
  have hC := cur_new (c := c) 80 hn (h.later hb0 hb0.size)
  have hX := (x3_new w (.int .i64 0) (.int .i64 0) (.int .i64 0) 25 w.heap.size rfl).later (balloc _ (.cells #[.slice ao n c, .int .i64 0, .int .u64 0] 80))
  have hB := hb0.trans ((balloc (w.alloc (.cells #[.int .i64 0, .int .i64 0, .int .i64 0] 25)) (.cells #[.slice ao n c, .int .i64 0, .int .u64 0] 80)).mono hb0.size)
  have hs0 : w.heap.size + 1 < ((w.alloc (.cells #[.int .i64 0, .int .i64 0, .int .i64 0] 25)).alloc (.cells #[.slice ao n c, .int .i64 0, .int .u64 0] 80)).heap.size := by simp
  rw [hz] at hC
  have HC0 : Hid (Cur ((w.alloc (.cells #[.int .i64 0, .int .i64 0, .int .i64 0] 25)).alloc (.cells #[.slice ao n c, .int .i64 0, .int .u64 0] 80)) (w.heap.size + 1) ao n c 0) := hC
  have HX0 : Hid (X3 ((w.alloc (.cells #[.int .i64 0, .int .i64 0, .int .i64 0] 25)).alloc (.cells #[.slice ao n c, .int .i64 0, .int .u64 0] 80)) w.heap.size (.int .i64 0) (.int .i64 0) (.int .i64 0)) := hX
  have HB0 : Hid (Below w.heap.size w ((w.alloc (.cells #[.int .i64 0, .int .i64 0, .int .i64 0] 25)).alloc (.cells #[.slice ao n c, .int .i64 0, .int .u64 0] 80))) := hB
  clear hb0 hz hC hX hB h
  go_enter Try.func21, Try.ntmps21
  go_wp2_with fail
  refine (statements_c (w.heap.size + 1) ao n c _ _ (by omega) HC0.out).mono ?_
  rintro e w1 ⟨a', p, c', xs, rfl, hp, ho, hc, hg⟩
  have HC1 : Hid (Cur w1 (w.heap.size + 1) ao n c 2000) := hc.mono (by omega)
  have HX1 : Hid (X3 w1 w.heap.size (.int .i64 0) (.int .i64 0) (.int .i64 0)) := HX0.out.grown hg (fun e => by have e2 := Option.some.inj e; omega)
  have HB1 : Hid (Below w.heap.size w w1) := HB0.out.trans (hg.below HB0.out.size (by omega))
  have hs1 : w.heap.size + 1 < w1.heap.size := by have := hg.size; omega
  have HO1 : Hid (OwnS w1 (w.heap.size + 2) (.slice a' p c') xs) := ho.mono (by omega)
  clear ho
  clear hc hg HC0 HX0 HB0
  go_wp2_with fail
  refine (claim_c (w.heap.size + 1) ao n c _ _ (by omega) HC1.out).mono ?_
  rintro e w2 ⟨x, y, z, rfl, hc, hg⟩
  have HC2 : Hid (Cur w2 (w.heap.size + 1) ao n c 4000) := hc.mono (by omega)
  have HX2 : Hid (X3 w2 w.heap.size (.int .i64 0) (.int .i64 0) (.int .i64 0)) := HX1.out.grown hg (fun e => by have e2 := Option.some.inj e; omega)
  have HB2 : Hid (Below w.heap.size w w2) := HB1.out.trans (hg.below HB1.out.size (by omega))
  have hs2 : w.heap.size + 1 < w2.heap.size := by have := hg.size; omega
  have HO2 : Hid (OwnS w2 (w.heap.size + 2) (.slice a' p c') xs) := HO1.out.kept hg (sep_ownS HO1.out (by omega))
  clear HO1
  clear hc hg HC1 HX1 HB1
  obtain ⟨⟨a0, a1, a2⟩, af⟩ := id HX2.out
  have f0 := af 0
  have f1 := af 1
  have f2 := af 2
  clear af
  have hX := ((HX2.out.set0 (.int .i64 x)).set1 (.int .i64 y)).set2 (.int .i64 z)
  have hgr := grown_trans' (grown_trans' (grown_setCell w2 w.heap.size 0 (.int .i64 x)) (grown_setCell _ w.heap.size 1 (.int .i64 y))) (grown_setCell _ w.heap.size 2 (.int .i64 z))
  have HBz : Hid (Below w.heap.size w _) := Below.grown HB2.out hgr (by have := HB2.out.size; omega) (fun k e => by have e2 := Option.some.inj e; omega)
  have HOz : Hid (OwnS _ (w.heap.size + 2) (.slice a' p c') xs) := HO2.out.kept hgr (sep_ownS HO2.out (by omega))
  obtain ⟨⟨b0, b1, b2⟩, _⟩ := hX
  clear hgr HX2 HC2 HB2 HO2
  go_wp2
  refine bodyPost_ret (v := .tuple #[.slice a' p c', .agg #[.int .i64 x, .int .i64 y, .int .i64 z]]) (by simp [results, Try.results21, go_sem, b0, b1, b2]; try rfl) rfl ?_
  exact ⟨a', p, c', xs, x, y, z, rfl, hp, HOz.out.mono (by omega), HBz.out⟩

end Go.Proofs.Ytofdlggohnfgaaa
