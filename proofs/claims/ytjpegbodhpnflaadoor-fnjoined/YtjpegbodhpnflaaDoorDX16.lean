/- Chapter 16: what is drawn: windows, numbers. -/
import Derived.Test.YtjpegbodhpnflaaDoorDW16
import Derived.Test.YtjpegbodhpnflaaDoorJE16
import Derived.Deep.RegionHeld3
import Derived.Deep.DrawnRows
import Derived.Deep.Light
namespace Go.Proofs.YtjpegbodhpnflaaDoor
set_option linter.unusedVariables false
set_option maxRecDepth 1000000
set_option linter.unusedSimpArgs false
open Go.RowKit

theorem drawn_below {w w1 w2 : World} {g : Nat} (h : Below w.heap.size w w1) (h2 : GB g w1 w2) (hg : w.heap.size ≤ g) : Below w.heap.size w w2 := h.trans (h2.below h.size hg)

set_option maxHeartbeats 4000000 in
theorem drawGoodW_c (ao : Option Addr) (n c : Nat) (w : World) (hn : n ≤ 9223372036854775807) (h : CodeOk w w.heap.size ao n) :
    Calls Tryd.prog 54 #[.slice ao n c] w fun e w' => ∃ t x : Int, e = .returned (.agg #[.int .i64 t, .int .i64 x]) ∧ (-1 ≤ t ∧ t ≤ 100001) ∧ (-1 ≤ x ∧ x ≤ 65536) ∧ Below w.heap.size w w' := by
  have hsz : (w.alloc (.cells #[.int .i64 0, .int .i64 0] 26)).heap.size = w.heap.size + 1 := by simp
  have B0 : Below w.heap.size w (w.alloc (.cells #[.int .i64 0, .int .i64 0] 26)) := (Below.refl _ _).alloc (Nat.le_refl _) _
  have C0 := cur_new (w := (w.alloc (.cells #[.int .i64 0, .int .i64 0] 26))) (c := c) 59 hn (h.later B0 (by omega))
  rw [hsz] at C0
  have B1 : Below w.heap.size w ((w.alloc (.cells #[.int .i64 0, .int .i64 0] 26)).alloc (.cells #[.slice ao n c, .int .i64 0, .int .u64 0] 59)) := B0.alloc (by omega) _
  have hsz2 : ((w.alloc (.cells #[.int .i64 0, .int .i64 0] 26)).alloc (.cells #[.slice ao n c, .int .i64 0, .int .u64 0] 59)).heap.size = w.heap.size + 2 := by simp
  have F0 : FX ((w.alloc (.cells #[.int .i64 0, .int .i64 0] 26)).alloc (.cells #[.slice ao n c, .int .i64 0, .int .u64 0] 59)) (w.heap.size) (.int .i64 0) (.int .i64 0) := by
    have h9 := fx_new w (.int .i64 0) (.int .i64 0) 26
    exact (h9).later (balloc _ _)
  clear h B0
  go_enter Tryd.func54, Tryd.ntmps54
  go_wp2_with fail
  refine (window_c (w.heap.size + 1) ao n c _ _ (by omega) C0).mono ?_
  rintro e w1 ⟨t1, x1, rfl, ht1, hx1, hc1, hg1⟩
  have F1 := F0.gb hg1 (by omega)
  have B2 : Hid (Below w.heap.size w w1) := drawn_below B1 hg1 (by omega)
  clear hc1 hg1 B1 C0 F0 hsz hsz2
  have B3 : Hid (Below w.heap.size w ((w1.setCell ⟨w.heap.size, 0, none⟩ (.int .i64 t1)).setCell ⟨w.heap.size, 1, none⟩ (.int .i64 x1))) := (B2.out.setCell (p := ⟨w.heap.size, 0, none⟩) (Nat.le_refl _) _).setCell (p := ⟨w.heap.size, 1, none⟩) (Nat.le_refl _) _
  obtain ⟨_, e0, e1, e2, e3⟩ := id F1
  obtain ⟨d0, d1⟩ := set2 _ w.heap.size (.int .i64 t1) (.int .i64 x1) e0 e1
  clear F1 B2
  go_wp2
  refine bodyPost_ret (v := .agg #[.int .i64 t1, .int .i64 x1]) (by simp [results, Tryd.results54, go_sem, d0, d1]; try rfl) rfl ?_
  exact ⟨_, _, rfl, ht1, hx1, B3.out⟩
  
set_option maxHeartbeats 4000000 in
theorem drawSeen_c (ao : Option Addr) (n c : Nat) (w : World) (hn : n ≤ 9223372036854775807) (h : CodeOk w w.heap.size ao n) :
    Calls Tryd.prog 28 #[.slice ao n c] w fun e w' => ∃ t x : Int, e = .returned (.agg #[.int .i64 t, .int .i64 x]) ∧ (-1 ≤ t ∧ t ≤ 100001) ∧ (-1 ≤ x ∧ x ≤ 65536) ∧ Below w.heap.size w w' := by
  have F0 := fx_new w (.int .i64 0) (.int .i64 0) 26
  have q := drawGoodW_c ao n c (w.alloc (.cells #[.int .i64 0, .int .i64 0] 26)) hn (h.later (balloc _ _) (by simp))
  have B0 := balloc w (.cells #[.int .i64 0, .int .i64 0] 26)
  clear h
  go_enter Tryd.func28, Tryd.ntmps28
  go_wp2_with fail
  refine q.mono ?_
  clear q
  rintro e w1 ⟨t1, x1, rfl, ht1, hx1, hb⟩
  have F1 := F0.later hb
  have B2 : Hid (Below w.heap.size w w1) := B0.trans (hb.mono B0.size)
  clear F0 B0 hb
  have B3 : Hid (Below w.heap.size w ((w1.setCell ⟨w.heap.size, 0, none⟩ (.int .i64 t1)).setCell ⟨w.heap.size, 1, none⟩ (.int .i64 x1))) := (B2.out.setCell (p := ⟨w.heap.size, 0, none⟩) (Nat.le_refl _) _).setCell (p := ⟨w.heap.size, 1, none⟩) (Nat.le_refl _) _
  obtain ⟨_, e0, e1, e2, e3⟩ := id F1
  obtain ⟨d0, d1⟩ := set2 _ w.heap.size (.int .i64 t1) (.int .i64 x1) e0 e1
  clear F1 B2
  go_wp2
  refine bodyPost_ret (v := .agg #[.int .i64 t1, .int .i64 x1]) (by simp [results, Tryd.results28, go_sem, d0, d1]; try rfl) rfl ?_
  exact ⟨_, _, rfl, ht1, hx1, B3.out⟩
  
set_option maxHeartbeats 4000000 in
theorem drawNums_c (ao : Option Addr) (n c : Nat) (w : World) (hn : n ≤ 9223372036854775807) (h : CodeOk w w.heap.size ao n) :
    Calls Tryd.prog 11 #[.slice ao n c] w fun e w' => ∃ l a' c', e = .returned (.slice a' l.length c') ∧ l.length ≤ 61 ∧ Own w' w.heap.size (.slice a' l.length c') l ∧ Below w.heap.size w w' := by
  have B0 : Below w.heap.size w w := Below.refl _ _
  have C0 := cur_new (w := w) (c := c) 59 hn h
  have B1 : Below w.heap.size w (w.alloc (.cells #[.slice ao n c, .int .i64 0, .int .u64 0] 59)) := B0.alloc (by omega) _
  have hsz2 : (w.alloc (.cells #[.slice ao n c, .int .i64 0, .int .u64 0] 59)).heap.size = w.heap.size + 1 := by simp
  clear h B0
  go_enter Tryd.func11, Tryd.ntmps11
  go_wp2_with fail
  refine (numbers_c w.heap.size ao n c _ _ (by omega) C0).mono ?_
  rintro e w1 ⟨l, la, lc, rfl, hll, ho, hc, hg⟩
  have B2 : Hid (Below w.heap.size w w1) := drawn_below B1 hg (Nat.le_refl _)
  have HO : Hid (Own w1 w.heap.size (.slice la l.length lc) l) := ho.mono B1.size
  clear hc hg B1 C0 ho
  go_wp2
  go_ret
  exact ⟨l, la, lc, rfl, hll, HO.out, B2.out⟩
  
set_option maxHeartbeats 4000000 in
theorem drawJoin_c (ao : Option Addr) (n c : Nat) (w : World) (hn : n ≤ 9223372036854775807) (h : CodeOk w w.heap.size ao n) :
    Calls Tryd.prog 22 #[.slice ao n c] w fun e w' => ∃ t x u y : Int, e = .returned (.tuple #[.agg #[.int .i64 t, .int .i64 x], .agg #[.int .i64 u, .int .i64 y]]) ∧ (-1 ≤ t ∧ t ≤ 100001) ∧ (-1 ≤ x ∧ x ≤ 65536) ∧ (-1 ≤ u ∧ u ≤ 100001) ∧ (-1 ≤ y ∧ y ≤ 65536) ∧ Below w.heap.size w w' := by
  have hsz : ((w.alloc (.cells #[.int .i64 0, .int .i64 0] 26)).alloc (.cells #[.int .i64 0, .int .i64 0] 26)).heap.size = w.heap.size + 2 := by simp
  have B0 : Below w.heap.size w ((w.alloc (.cells #[.int .i64 0, .int .i64 0] 26)).alloc (.cells #[.int .i64 0, .int .i64 0] 26)) := ((Below.refl _ _).alloc (Nat.le_refl _) _).alloc (by simp) _
  have C0 := cur_new (w := ((w.alloc (.cells #[.int .i64 0, .int .i64 0] 26)).alloc (.cells #[.int .i64 0, .int .i64 0] 26))) (c := c) 59 hn (h.later B0 (by omega))
  rw [hsz] at C0
  have B1 : Below w.heap.size w (((w.alloc (.cells #[.int .i64 0, .int .i64 0] 26)).alloc (.cells #[.int .i64 0, .int .i64 0] 26)).alloc (.cells #[.slice ao n c, .int .i64 0, .int .u64 0] 59)) := B0.alloc (by omega) _
  have hsz2 : (((w.alloc (.cells #[.int .i64 0, .int .i64 0] 26)).alloc (.cells #[.int .i64 0, .int .i64 0] 26)).alloc (.cells #[.slice ao n c, .int .i64 0, .int .u64 0] 59)).heap.size = w.heap.size + 3 := by simp
  have F0 : FX (((w.alloc (.cells #[.int .i64 0, .int .i64 0] 26)).alloc (.cells #[.int .i64 0, .int .i64 0] 26)).alloc (.cells #[.slice ao n c, .int .i64 0, .int .u64 0] 59)) (w.heap.size) (.int .i64 0) (.int .i64 0) := by
    have h9 := fx_new w (.int .i64 0) (.int .i64 0) 26
    exact ((h9).later (balloc _ _)).later (balloc _ _)
  have F1 : FX (((w.alloc (.cells #[.int .i64 0, .int .i64 0] 26)).alloc (.cells #[.int .i64 0, .int .i64 0] 26)).alloc (.cells #[.slice ao n c, .int .i64 0, .int .u64 0] 59)) (w.heap.size + 1) (.int .i64 0) (.int .i64 0) := by
    have h9 := fx_new (w.alloc (.cells #[.int .i64 0, .int .i64 0] 26)) (.int .i64 0) (.int .i64 0) 26
    rw [show (w.alloc (.cells #[.int .i64 0, .int .i64 0] 26)).heap.size = w.heap.size + 1 by simp] at h9
    exact (h9).later (balloc _ _)
  clear h B0
  go_enter Tryd.func22, Tryd.ntmps22
  go_wp2_with fail
  refine (window_c (w.heap.size + 2) ao n c _ _ (by omega) C0).mono ?_
  rintro e w1 ⟨t1, x1, rfl, ht1, hx1, hc1, hg1⟩
  have G0 := F0.gb hg1 (by omega)
  have G1 := F1.gb hg1 (by omega)
  have B2 : Below w.heap.size w w1 := drawn_below B1 hg1 (by omega)
  clear hg1 B1 C0 F0 F1 hsz hsz2
  go_wp2_with fail
  refine (window_c (w.heap.size + 2) ao n c _ _ (by omega) hc1).mono ?_
  rintro e w2 ⟨t2, x2, rfl, ht2, hx2, hc2, hg2⟩
  have F0 := G0.gb hg2 (by omega)
  have F1 := G1.gb hg2 (by omega)
  have B3 : Below w.heap.size w w2 := drawn_below B2 hg2 (by omega)
  clear hc1 hc2 hg2 B2 G0 G1
  have B5 : Below w.heap.size w ((w2.setCell ⟨w.heap.size, 0, none⟩ (.int .i64 t1)).setCell ⟨w.heap.size, 1, none⟩ (.int .i64 x1)) := (B3.setCell (p := ⟨w.heap.size, 0, none⟩) (Nat.le_refl _) _).setCell (p := ⟨w.heap.size, 1, none⟩) (Nat.le_refl _) _
  have B6 : Hid (Below w.heap.size w ((((w2.setCell ⟨w.heap.size, 0, none⟩ (.int .i64 t1)).setCell ⟨w.heap.size, 1, none⟩ (.int .i64 x1)).setCell ⟨w.heap.size + 1, 0, none⟩ (.int .i64 t2)).setCell ⟨w.heap.size + 1, 1, none⟩ (.int .i64 x2))) := (B5.setCell (p := ⟨w.heap.size + 1, 0, none⟩) (by show w.heap.size ≤ w.heap.size + 1; omega) _).setCell (p := ⟨w.heap.size + 1, 1, none⟩) (by show w.heap.size ≤ w.heap.size + 1; omega) _
  have F5 : FX ((w2.setCell ⟨w.heap.size, 0, none⟩ (.int .i64 t1)).setCell ⟨w.heap.size, 1, none⟩ (.int .i64 x1)) (w.heap.size + 1) (.int .i64 0) (.int .i64 0) := F1.other (by omega) _ _
  have F6 := (F0.set (.int .i64 t1) (.int .i64 x1)).other (g' := w.heap.size + 1) (by omega) (.int .i64 t2) (.int .i64 x2)
  have F7 := F5.set (.int .i64 t2) (.int .i64 x2)
  obtain ⟨_, a0, a1, a2, a3⟩ := id F0
  obtain ⟨_, b0, b1, b2, b3⟩ := id F1
  obtain ⟨_, c0, c1, c2, c3⟩ := id F5
  obtain ⟨_, d0, d1, _, _⟩ := id F6
  obtain ⟨_, e0, e1, _, _⟩ := id F7
  clear F0 F1 F5 F6 F7 B3 B5
  go_wp2
  refine bodyPost_ret (v := .tuple #[.agg #[.int .i64 t1, .int .i64 x1], .agg #[.int .i64 t2, .int .i64 x2]]) (by simp [results, Tryd.results22, go_sem, d0, d1, e0, e1]; try rfl) rfl ?_
  exact ⟨_, _, _, _, rfl, ht1, hx1, ht2, hx2, B6.out⟩
  
set_option maxHeartbeats 4000000 in
theorem drawTake_c (ao : Option Addr) (n c : Nat) (w : World) (hn : n ≤ 9223372036854775807) (h : CodeOk w w.heap.size ao n) :
    Calls Tryd.prog 18 #[.slice ao n c] w fun e w' => ∃ t x y : Int, e = .returned (.tuple #[.agg #[.int .i64 t, .int .i64 x], .int .i64 y]) ∧ (-1 ≤ t ∧ t ≤ 100001) ∧ (-1 ≤ x ∧ x ≤ 65536) ∧ Below w.heap.size w w' := by
  have hsz : (w.alloc (.cells #[.int .i64 0, .int .i64 0] 26)).heap.size = w.heap.size + 1 := by simp
  have B0 : Below w.heap.size w (w.alloc (.cells #[.int .i64 0, .int .i64 0] 26)) := (Below.refl _ _).alloc (Nat.le_refl _) _
  have C0 := cur_new (w := (w.alloc (.cells #[.int .i64 0, .int .i64 0] 26))) (c := c) 59 hn (h.later B0 (by omega))
  rw [hsz] at C0
  have B1 : Below w.heap.size w ((w.alloc (.cells #[.int .i64 0, .int .i64 0] 26)).alloc (.cells #[.slice ao n c, .int .i64 0, .int .u64 0] 59)) := B0.alloc (by omega) _
  have hsz2 : ((w.alloc (.cells #[.int .i64 0, .int .i64 0] 26)).alloc (.cells #[.slice ao n c, .int .i64 0, .int .u64 0] 59)).heap.size = w.heap.size + 2 := by simp
  have F0 : FX ((w.alloc (.cells #[.int .i64 0, .int .i64 0] 26)).alloc (.cells #[.slice ao n c, .int .i64 0, .int .u64 0] 59)) (w.heap.size) (.int .i64 0) (.int .i64 0) := by
    have h9 := fx_new w (.int .i64 0) (.int .i64 0) 26
    exact (h9).later (balloc _ _)
  clear h B0
  go_enter Tryd.func18, Tryd.ntmps18
  go_wp2_with fail
  refine (window_c (w.heap.size + 1) ao n c _ _ (by omega) C0).mono ?_
  rintro e w1 ⟨t1, x1, rfl, ht1, hx1, hc1, hg1⟩
  have G1 := (F0.gb hg1 (by omega)).later (balloc w1 (.cells #[.int .i64 t1, .int .i64 x1] 26))
  have X1 := fx_new w1 (.int .i64 t1) (.int .i64 x1) 26
  have hgs : w.heap.size + 2 ≤ w1.heap.size := by have := hg1.size; omega
  have B2 : Below w.heap.size w (w1.alloc (.cells #[.int .i64 t1, .int .i64 x1] 26)) := (drawn_below B1 hg1 (by omega)).alloc (by omega) _
  have C2 := hc1.alloc (.cells #[.int .i64 t1, .int .i64 x1] 26)
  clear hc1 hg1 B1 C0 F0 hsz hsz2
  obtain ⟨t0, tt⟩ := ht1
  go_wp2_with fail
  refine wp_region_held_drew (S := (fun X => X.cell? ⟨w1.heap.size, 0, none⟩ = some (.int .i64 t1) ∧ X.cell? ⟨w1.heap.size, 1, none⟩ = some (.int .i64 x1))) (by kernel_rfl) ?_ (fun hHeld => ?_)
  · exact ⟨X1.2.1, X1.2.2.1⟩
  obtain ⟨v0, hv0⟩ : ∃ D, (w1.alloc (.cells #[.int .i64 t1, .int .i64 x1] 26)).drew = D := ⟨_, rfl⟩
  have hb0 : Below (w1.alloc (.cells #[.int .i64 t1, .int .i64 x1] 26)).heap.size (w1.alloc (.cells #[.int .i64 t1, .int .i64 x1] 26)) v0 := by rw [← hv0]; exact (Below.refl _ _).drew
  have G2 := G1.later hb0
  have X2 := X1.later hb0
  have B3 := B2.trans (hb0.mono B2.size)
  have C3 := C2.later hb0
  have hs0 : w1.heap.size + 1 ≤ v0.heap.size := by have := hb0.size; simp at this; omega
  rw [hv0] at hHeld ⊢
  clear hv0 hb0 G1 X1 B2 C2
  refine takeJE16 (i := 0) (oi := _) (v := ?_) (d := some 11) rfl (by kernel_rfl) (by kernel_rfl) (by kernel_rfl) (by kernel_rfl) (fun _ _ _ h => h) (Or.inl ⟨by rfl, ?_⟩) (by assumption) ?_
  rotate_left
  · (intro w hSw; (try dsimp only at hSw); go_simp <;> with_reducible rfl)
  try simp only [Act.put, List.setIfInBounds_toArray, List.set_cons_zero, List.set_cons_succ]
  refine takeJE16 (i := 1) (oi := _) (v := ?_) (d := some 12) rfl (by kernel_rfl) (by kernel_rfl) (by kernel_rfl) (by kernel_rfl) (fun _ _ _ h => h) (Or.inl ⟨by rfl, ?_⟩) (by assumption) ?_
  rotate_left
  · (intro w hSw; (try dsimp only at hSw); go_simp <;> with_reducible rfl)
  try simp only [Act.put, List.setIfInBounds_toArray, List.set_cons_zero, List.set_cons_succ]
  refine takeJE16 (i := 2) (oi := _) (v := ?_) (d := some 13) rfl (by kernel_rfl) (by kernel_rfl) (by kernel_rfl) (by kernel_rfl) (fun _ _ _ h => h) (Or.inl ⟨by rfl, ?_⟩) (by assumption) ?_
  rotate_left
  · (intro w hSw; (try dsimp only at hSw); go_simp <;> with_reducible rfl)
  try simp only [Act.put, List.setIfInBounds_toArray, List.set_cons_zero, List.set_cons_succ]
  refine takeJE16 (i := 3) (oi := _) (v := ?_) (d := some 14) rfl (by kernel_rfl) (by kernel_rfl) (by kernel_rfl) (by kernel_rfl) (fun _ _ _ h => h) (Or.inl ⟨by rfl, ?_⟩) (by assumption) ?_
  rotate_left
  · (intro w hSw; (try dsimp only at hSw); go_simp <;> with_reducible rfl)
  try simp only [Act.put, List.setIfInBounds_toArray, List.set_cons_zero, List.set_cons_succ]
  refine takeJE16 (i := 4) (oi := _) (v := ?_) (d := some 15) rfl (by kernel_rfl) (by kernel_rfl) (by kernel_rfl) (by kernel_rfl) (fun _ _ _ h => h) (Or.inl ⟨by rfl, ?_⟩) (by assumption) ?_
  rotate_left
  · (intro w hSw; (try dsimp only at hSw); go_simp <;> with_reducible rfl)
  try simp only [Act.put, List.setIfInBounds_toArray, List.set_cons_zero, List.set_cons_succ]
  refine takeJE16 (i := 5) (oi := _) (v := ?_) (d := some 16) rfl (by kernel_rfl) (by kernel_rfl) (by kernel_rfl) (by kernel_rfl) (fun _ _ _ h => h) (Or.inl ⟨by rfl, ?_⟩) (by assumption) ?_
  rotate_left
  · (intro w hSw; (try dsimp only at hSw); go_simp <;> with_reducible rfl)
  try simp only [Act.put, List.setIfInBounds_toArray, List.set_cons_zero, List.set_cons_succ]
  refine takeJE16 (i := 6) (oi := _) (v := ?_) (d := some 17) rfl (by kernel_rfl) (by kernel_rfl) (by kernel_rfl) (by kernel_rfl) (fun _ _ _ h => h) (Or.inl ⟨by rfl, ?_⟩) (by assumption) ?_
  rotate_left
  · (intro w hSw; (try dsimp only at hSw); go_simp <;> with_reducible rfl)
  try simp only [Act.put, List.setIfInBounds_toArray, List.set_cons_zero, List.set_cons_succ]
  refine takeJE16 (i := 7) (oi := _) (v := ?_) (d := some 18) rfl (by kernel_rfl) (by kernel_rfl) (by kernel_rfl) (by kernel_rfl) (fun _ _ _ h => h) (Or.inl ⟨by rfl, ?_⟩) (by assumption) ?_
  rotate_left
  · (intro w hSw; (try dsimp only at hSw); go_simp <;> with_reducible rfl)
  try simp only [Act.put, List.setIfInBounds_toArray, List.set_cons_zero, List.set_cons_succ]
  refine takeJE16 (i := 8) (oi := _) (v := ?_) (d := some 19) rfl (by kernel_rfl) (by kernel_rfl) (by kernel_rfl) (by kernel_rfl) (fun _ _ _ h => h) (Or.inl ⟨by rfl, ?_⟩) (by assumption) ?_
  rotate_left
  · (intro w hSw; (try dsimp only at hSw); go_simp <;> with_reducible rfl)
  try simp only [Act.put, List.setIfInBounds_toArray, List.set_cons_zero, List.set_cons_succ]
  refine takeJE16 (i := 9) (oi := _) (v := ?_) (d := some 20) rfl (by kernel_rfl) (by kernel_rfl) (by kernel_rfl) (by kernel_rfl) (fun _ _ _ h => h) (Or.inl ⟨by rfl, ?_⟩) (by assumption) ?_
  rotate_left
  · (intro w hSw; (try dsimp only at hSw); go_simp <;> with_reducible rfl)
  try simp only [Act.put, List.setIfInBounds_toArray, List.set_cons_zero, List.set_cons_succ]
  refine takeJE16 (i := 10) (oi := _) (v := ?_) (d := some 21) rfl (by kernel_rfl) (by kernel_rfl) (by kernel_rfl) (by kernel_rfl) (fun _ _ _ h => h) (Or.inl ⟨by rfl, ?_⟩) (by assumption) ?_
  rotate_left
  · (intro w hSw; (try dsimp only at hSw); go_simp <;> with_reducible rfl)
  try simp only [Act.put, List.setIfInBounds_toArray, List.set_cons_zero, List.set_cons_succ]
  refine takeJE16 (i := 11) (oi := _) (v := ?_) (d := some 22) rfl (by kernel_rfl) (by kernel_rfl) (by kernel_rfl) (by kernel_rfl) (fun _ _ _ h => h) (Or.inl ⟨by rfl, ?_⟩) (by assumption) ?_
  rotate_left
  · (intro w hSw; (try dsimp only at hSw); go_simp <;> with_reducible rfl)
  try simp only [Act.put, List.setIfInBounds_toArray, List.set_cons_zero, List.set_cons_succ]
  refine takeJE16 (i := 12) (oi := _) (v := ?_) (d := some 23) rfl (by kernel_rfl) (by kernel_rfl) (by kernel_rfl) (by kernel_rfl) (fun _ _ _ h => h) (Or.inl ⟨by rfl, ?_⟩) (by assumption) ?_
  rotate_left
  · (intro w hSw; (try dsimp only at hSw); go_simp <;> with_reducible rfl)
  try simp only [Act.put, List.setIfInBounds_toArray, List.set_cons_zero, List.set_cons_succ]
  refine takeJE16 (i := 13) (oi := _) (v := ?_) (d := some 24) rfl (by kernel_rfl) (by kernel_rfl) (by kernel_rfl) (by kernel_rfl) (fun _ _ _ h => h) (Or.inl ⟨by rfl, ?_⟩) (by assumption) ?_
  rotate_left
  · (intro w hSw; (try dsimp only at hSw); go_simp <;> with_reducible rfl)
  try simp only [Act.put, List.setIfInBounds_toArray, List.set_cons_zero, List.set_cons_succ]
  refine takeJE16 (i := 14) (oi := _) (v := ?_) (d := some 25) rfl (by kernel_rfl) (by kernel_rfl) (by kernel_rfl) (by kernel_rfl) (fun _ _ _ h => h) (Or.inl ⟨by rfl, ?_⟩) (by assumption) ?_
  rotate_left
  · (intro w hSw; (try dsimp only at hSw); go_simp <;> with_reducible rfl)
  try simp only [Act.put, List.setIfInBounds_toArray, List.set_cons_zero, List.set_cons_succ]
  refine takeJE16 (i := 15) (oi := _) (v := ?_) (d := some 26) rfl (by kernel_rfl) (by kernel_rfl) (by kernel_rfl) (by kernel_rfl) (fun _ _ _ h => h) (Or.inl ⟨by rfl, ?_⟩) (by assumption) ?_
  rotate_left
  · (intro w hSw; (try dsimp only at hSw); go_simp <;> with_reducible rfl)
  try simp only [Act.put, List.setIfInBounds_toArray, List.set_cons_zero, List.set_cons_succ]
  refine takeJE16 (i := 16) (oi := _) (v := ?_) (d := some 27) rfl (by kernel_rfl) (by kernel_rfl) (by kernel_rfl) (by kernel_rfl) (fun _ _ _ h => h) (Or.inl ⟨by rfl, ?_⟩) (by assumption) ?_
  rotate_left
  · (intro w hSw; (try dsimp only at hSw); go_simp <;> with_reducible rfl)
  try simp only [Act.put, List.setIfInBounds_toArray, List.set_cons_zero, List.set_cons_succ]
  refine takeJE16 (i := 17) (oi := _) (v := ?_) (d := some 28) rfl (by kernel_rfl) (by kernel_rfl) (by kernel_rfl) (by kernel_rfl) (fun _ _ _ h => h) (Or.inl ⟨by rfl, ?_⟩) (by assumption) ?_
  rotate_left
  · (intro w hSw; (try dsimp only at hSw); go_simp <;> with_reducible rfl)
  try simp only [Act.put, List.setIfInBounds_toArray, List.set_cons_zero, List.set_cons_succ]
  refine takeJE16 (i := 18) (oi := _) (v := ?_) (d := some 29) rfl (by kernel_rfl) (by kernel_rfl) (by kernel_rfl) (by kernel_rfl) (fun _ _ _ h => h) (Or.inl ⟨by rfl, ?_⟩) (by assumption) ?_
  rotate_left
  · (intro w hSw; (try dsimp only at hSw); go_simp <;> with_reducible rfl)
  try simp only [Act.put, List.setIfInBounds_toArray, List.set_cons_zero, List.set_cons_succ]
  have HL := lit_cells (fun _ => True) v0 #[.int .i64 0, .int .i64 1, .int .i64 t1, .int .i64 (IntKind.i64.wrap (t1 + 1)), .int .i64 (IntKind.i64.wrap (t1 - 3)), .int .i64 (IntKind.i64.wrap (t1 - 16)), .int .i64 (IntKind.i64.wrap (t1 - 15)), .int .i64 (IntKind.i64.wrap (t1 + 16)), .int .i64 100000, .int .i64 100001] 3 10 rfl (by simp [allP])
  have G3 := G2.later (balloc v0 (.cells #[.int .i64 0, .int .i64 1, .int .i64 t1, .int .i64 (IntKind.i64.wrap (t1 + 1)), .int .i64 (IntKind.i64.wrap (t1 - 3)), .int .i64 (IntKind.i64.wrap (t1 - 16)), .int .i64 (IntKind.i64.wrap (t1 - 15)), .int .i64 (IntKind.i64.wrap (t1 + 16)), .int .i64 100000, .int .i64 100001] 3))
  have X3 := X2.later (balloc v0 (.cells #[.int .i64 0, .int .i64 1, .int .i64 t1, .int .i64 (IntKind.i64.wrap (t1 + 1)), .int .i64 (IntKind.i64.wrap (t1 - 3)), .int .i64 (IntKind.i64.wrap (t1 - 16)), .int .i64 (IntKind.i64.wrap (t1 - 15)), .int .i64 (IntKind.i64.wrap (t1 + 16)), .int .i64 100000, .int .i64 100001] 3))
  have B4 := B3.alloc (by omega) (.cells #[.int .i64 0, .int .i64 1, .int .i64 t1, .int .i64 (IntKind.i64.wrap (t1 + 1)), .int .i64 (IntKind.i64.wrap (t1 - 3)), .int .i64 (IntKind.i64.wrap (t1 - 16)), .int .i64 (IntKind.i64.wrap (t1 - 15)), .int .i64 (IntKind.i64.wrap (t1 + 16)), .int .i64 100000, .int .i64 100001] 3)
  have C4 := C3.alloc (.cells #[.int .i64 0, .int .i64 1, .int .i64 t1, .int .i64 (IntKind.i64.wrap (t1 + 1)), .int .i64 (IntKind.i64.wrap (t1 - 3)), .int .i64 (IntKind.i64.wrap (t1 - 16)), .int .i64 (IntKind.i64.wrap (t1 - 15)), .int .i64 (IntKind.i64.wrap (t1 + 16)), .int .i64 100000, .int .i64 100001] 3)
  obtain ⟨v1, hv1⟩ : ∃ D, v0.alloc (.cells #[.int .i64 0, .int .i64 1, .int .i64 t1, .int .i64 (IntKind.i64.wrap (t1 + 1)), .int .i64 (IntKind.i64.wrap (t1 - 3)), .int .i64 (IntKind.i64.wrap (t1 - 16)), .int .i64 (IntKind.i64.wrap (t1 - 15)), .int .i64 (IntKind.i64.wrap (t1 + 16)), .int .i64 100000, .int .i64 100001] 3) = D := ⟨_, rfl⟩
  rw [hv1] at HL G3 X3 B4 C4
  have hs1 : w1.heap.size + 1 ≤ v1.heap.size := by rw [← hv1]; simp; omega
  refine wpAnyH_ready (rs := [19]) (by kernel_rfl) (by simp) ?_
  refine AllReadyH.cons (o := _) rfl (fun K hK => ?_) AllReadyH.nil
  go_simp
  refine hK.out _ _ ?_ (fun hHeld => ?_)
  · try rw [hv1]
    exact ⟨X3.2.1, X3.2.2.1⟩
  clear hK K
  try simp only [Act.put, List.setIfInBounds_toArray, List.set_cons_zero, List.set_cons_succ]
  try rw [hv1]
  try rw [hv1] at hHeld
  clear hv1
  refine wpAnyH_ready (rs := [20]) (by kernel_rfl) (by simp) ?_
  refine AllReadyH.cons (o := _) rfl (fun K hK => ?_) AllReadyH.nil
  go_simp
  refine (among_p (fun _ => True) (w.heap.size + 1) ao n c _ v0.heap.size 10 v1 (by omega) (by omega) HL (by omega) C4).mono ?_
  rintro e v2 ⟨y, rfl, -, hc2, hg2⟩
  have G4 := G3.gb hg2 (by omega)
  have X4 := X3.gb hg2 (by omega)
  have B5 : Below w.heap.size w v2 := drawn_below B4 hg2 (by omega)
  refine hK.out _ _ ?_ (fun hHeld => ?_)
  · exact ⟨X4.2.1, X4.2.2.1⟩
  clear hK K
  try simp only [Act.put, List.setIfInBounds_toArray, List.set_cons_zero, List.set_cons_succ]
  clear HL C4 hc2 hg2 G3 X3 B4 G2 X2 B3 C3
  have B6 : Hid (Below w.heap.size w ((v2.setCell ⟨w.heap.size, 0, none⟩ (.int .i64 t1)).setCell ⟨w.heap.size, 1, none⟩ (.int .i64 x1))) := (B5.setCell (p := ⟨w.heap.size, 0, none⟩) (Nat.le_refl _) _).setCell (p := ⟨w.heap.size, 1, none⟩) (Nat.le_refl _) _
  have X5 := X4.other (g' := w.heap.size) (by omega) (.int .i64 t1) (.int .i64 x1)
  obtain ⟨_, e0, e1, e2, e3⟩ := id G4
  obtain ⟨d0, d1⟩ := set2 _ w.heap.size (.int .i64 t1) (.int .i64 x1) e0 e1
  clear G4 B5
  refine wpAnyH_ready (rs := [21]) (by kernel_rfl) (by simp) ?_
  refine AllReadyH.cons (o := _) rfl (fun K hK => ?_) AllReadyH.nil
  go_simp
  refine hK.out _ _ ?_ (fun hHeld => ?_)
  · exact ⟨X5.2.1, X5.2.2.1⟩
  clear hK K
  try simp only [Act.put, List.setIfInBounds_toArray, List.set_cons_zero, List.set_cons_succ]
  refine takeJE16 (i := 22) (oi := _) (v := ?_) (d := some 3) rfl (by kernel_rfl) (by kernel_rfl) (by kernel_rfl) (by kernel_rfl) (fun _ _ _ h => h) (Or.inl ⟨by rfl, ?_⟩) (by assumption) ?_
  rotate_left
  · (intro w hSw; (try dsimp only at hSw); go_simp <;> with_reducible rfl)
  try simp only [Act.put, List.setIfInBounds_toArray, List.set_cons_zero, List.set_cons_succ]
  refine wpAnyH_done (by kernel_rfl) ?_ _
  clear hHeld
  go_wp2
  refine bodyPost_ret (v := .tuple #[.agg #[.int .i64 t1, .int .i64 x1], .int .i64 y]) (by simp [results, Tryd.results18, go_sem, d0, d1]; try rfl) rfl ?_
  exact ⟨_, _, _, rfl, ⟨t0, tt⟩, hx1, B6.out⟩
  
end Go.Proofs.YtjpegbodhpnflaaDoor
