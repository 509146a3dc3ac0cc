/- Chapter 16: what is drawn: windows. -/
import Derived.Test.YtjpegbodhpnflaaDoorDN16
import Derived.Test.YtjpegbodhpnflaaDoorPN16
import Derived.Test.YtjpegbodhpnflaaDoorLG16
namespace Go.Proofs.YtjpegbodhpnflaaDoor
set_option linter.unusedVariables false
set_option maxRecDepth 1000000
set_option linter.unusedSimpArgs false
open Go.RowKit

theorem winV_bd (l : List Int) : (0 ≤ (winV l).1 ∧ (winV l).1 ≤ 100000) ∧ (0 ≤ (winV l).2 ∧ (winV l).2 ≤ 65535) := by
  unfold winV
  cases hok : playOk l
  · simp
  · obtain ⟨h60, hall⟩ := playOk_all hok
    have h := foldN_good l ((0, 0), []) good_zero hall
    rw [if_pos rfl]
    refine ⟨⟨h.1, h.2.1⟩, ?_⟩
    have := h.2.2.1
    show (0 : Int) ≤ ((l.foldl stepN ((0, 0), [])).1.2 : Nat) ∧ (((l.foldl stepN ((0, 0), [])).1.2 : Nat) : Int) ≤ 65535
    omega

theorem FX.gb {w w' : World} {g r : Nat} {x y : Value} (h : FX w r x y) (hg : GB g w w') (hne : r ≠ g) : FX w' r x y := by
  obtain ⟨h0, h1, h2, h3, h4⟩ := h
  have hb := hg.block r h0 (fun e => hne (by injection e))
  refine ⟨Nat.lt_of_lt_of_le h0 hg.size, hg.cell (a := ⟨r, 0, none⟩) h1 (fun e => hne (by simpa using e)), hg.cell (a := ⟨r, 1, none⟩) h2 (fun e => hne (by simpa using e)), ?_, ?_⟩
  · rw [World.frozen?_of_block (w := w) (a := ⟨r, 0, none⟩) hb]; exact h3
  · rw [World.frozen?_of_block (w := w) (a := ⟨r, 1, none⟩) hb]; exact h4
theorem FX.set0 {w : World} {g : Nat} {x y : Value} (h : FX w g x y) (v : Value) : FX (w.setCell ⟨g, 0, none⟩ v) g v y :=
  ⟨by simp [World.setCell]; exact h.1, World.cell?_setCell_same _ _ _ (u := x) h.2.1, by rw [World.cell?_setCell_other _ _ _ _ (by simp)]; exact h.2.2.1, by rw [World.frozen?_setCell]; exact h.2.2.2.1, by rw [World.frozen?_setCell]; exact h.2.2.2.2⟩
theorem FX.set1b {w : World} {g : Nat} {x y : Value} (h : FX w g x y) (v : Value) : FX (w.setCell ⟨g, 1, none⟩ v) g x v :=
  ⟨by simp [World.setCell]; exact h.1, by rw [World.cell?_setCell_other _ _ _ _ (by simp)]; exact h.2.1, World.cell?_setCell_same _ _ _ (u := y) h.2.2.1, by rw [World.frozen?_setCell]; exact h.2.2.2.1, by rw [World.frozen?_setCell]; exact h.2.2.2.2⟩
theorem FX.othj {w : World} {g g' j : Nat} {x y : Value} (h : FX w g x y) (hne : g' ≠ g) (v : Value) : FX (w.setCell ⟨g', j, none⟩ v) g x y :=
  ⟨by simp [World.setCell]; exact h.1, by rw [World.cell?_setCell_other _ _ _ _ (fun e => hne (by injection e))]; exact h.2.1, by rw [World.cell?_setCell_other _ _ _ _ (fun e => hne (by injection e))]; exact h.2.2.1, by rw [World.frozen?_setCell]; exact h.2.2.2.1, by rw [World.frozen?_setCell]; exact h.2.2.2.2⟩

set_option maxHeartbeats 4000000 in
theorem window_c (g : Nat) (ao : Option Addr) (n c : Nat) (M : Int) (w : World) (hM : M ≤ 100000000000000000) (h : Cur w g ao n c M) :
    Calls Tryd.prog 47 #[.pointer (some ⟨g, 0, none⟩)] w fun e w' => ∃ t x : Int, e = .returned (.agg #[.int .i64 t, .int .i64 x]) ∧ (-1 ≤ t ∧ t ≤ 100001) ∧ (-1 ≤ x ∧ x ≤ 65536) ∧ Cur w' g ao n c (M + 1100) ∧ GB g w w' := by
  have HCL : Hid (CodeLt ao n w.heap.size) := h.codeLt
  have hgl := h.lt
  have FR0 := fx_new w (.int .i64 0) (.int .i64 0) 26
  have G0 : GB g w (w.alloc (.cells #[.int .i64 0, .int .i64 0] 26)) := (GB.refl g w).alloc _
  have q1 := numbers_c g ao n c M (w.alloc (.cells #[.int .i64 0, .int .i64 0] 26)) (by omega) (h.alloc _)
  clear h
  have hs0 : (w.alloc (.cells #[.int .i64 0, .int .i64 0] 26)).heap.size = w.heap.size + 1 := by simp
  go_enter Tryd.func47, Tryd.ntmps47
  go_wp2_with fail
  refine q1.mono ?_
  clear q1
  rintro e w1 ⟨l, la, lc, rfl, hll, ho, hc, hg⟩
  have FR1 : Hid (FX w1 w.heap.size (.int .i64 0) (.int .i64 0)) := FR0.gb hg (by omega)
  have G1 : Hid (GB g w w1) := G0.trans hg
  have hs1 : w.heap.size + 1 ≤ w1.heap.size := by have := hg.size; omega
  have hr := ho.rd'.2
  obtain ⟨T, hT⟩ : ∃ T, (winV l).1 = T := ⟨_, rfl⟩
  obtain ⟨X, hX⟩ : ∃ X, (winV l).2 = X := ⟨_, rfl⟩
  have hbd := winV_bd l
  have q2 := specNums_c la l.length lc l w1 rfl (by omega) hr
  rw [hT, hX] at q2 hbd
  clear hT hX hg G0 FR0 hs0 ho hr
  obtain ⟨⟨hT0, hT1⟩, hX0, hX1⟩ := hbd
  go_wp2_with fail
  refine q2.mono ?_
  clear q2
  rintro e w2 ⟨ca, cc, rfl, _, hb⟩
  have FR2 : Hid (FX w2 w.heap.size (.int .i64 0) (.int .i64 0)) := FR1.out.later hb
  have G2 : Hid (GB g w w2) := G1.out.trans (GB.of_below hb (Nat.le_refl _))
  have C2 := hc.later hb
  have hs2 : w.heap.size + 1 ≤ w2.heap.size := Nat.le_trans hs1 hb.size
  have FX3 := fx_new w2 (.int .i64 T) (.int .i64 X) 26
  have FR3 := FR2.out.later (balloc w2 (.cells #[.int .i64 T, .int .i64 X] 26))
  have C3 := C2.later (balloc w2 (.cells #[.int .i64 T, .int .i64 X] 26))
  have G3 : Hid (GB g w (w2.alloc (.cells #[.int .i64 T, .int .i64 X] 26))) := G2.out.alloc _
  have hs3 : (w2.alloc (.cells #[.int .i64 T, .int .i64 X] 26)).heap.size = w2.heap.size + 1 := by simp
  clear FR1 FR2 G1 G2 hb hc C2
  have q3 := pick_c g ao n c _ 20 _ (by omega) (by omega) C3
  go_wp2_with fail
  refine q3.mono ?_
  clear q3 C3
  rintro e w4 ⟨z, rfl, hz0, hz1, hcu, hgb⟩
  have FR4 := FR3.gb hgb (by omega)
  have FX4 := FX3.gb hgb (by omega)
  have G4 := G3.out.trans hgb
  have hs4 : w2.heap.size + 1 ≤ w4.heap.size := by have := hgb.size; omega
  clear FR3 FX3 G3 hgb hs3
  by_cases c0 : z = 0
  · subst c0
    have FX5 : Hid (FX w4 w2.heap.size (.int .i64 T) (.int .i64 X)) := FX4
    have HL := lit_cells (fun v => -1 ≤ v ∧ v ≤ 65536) w4 #[.int .i64 (-1), .int .i64 0, .int .i64 1, .int .i64 65535, .int .i64 65536] 3 5 rfl (by simp [allP])
    have C5 := hcu.alloc (.cells #[.int .i64 (-1), .int .i64 0, .int .i64 1, .int .i64 65535, .int .i64 65536] 3)
    have FR5 := FR4.later (balloc w4 (.cells #[.int .i64 (-1), .int .i64 0, .int .i64 1, .int .i64 65535, .int .i64 65536] 3))
    have FX6 := FX4.later (balloc w4 (.cells #[.int .i64 (-1), .int .i64 0, .int .i64 1, .int .i64 65535, .int .i64 65536] 3))
    have G5 : Hid (GB g w (w4.alloc (.cells #[.int .i64 (-1), .int .i64 0, .int .i64 1, .int .i64 65535, .int .i64 65536] 3))) := G4.alloc _
    have hg4 : g < w4.heap.size := by omega
    clear FR4 FX4 G4 hcu
    go_wp2_with fail
    refine (among_p (fun v => -1 ≤ v ∧ v ≤ 65536) g ao n c _ w4.heap.size 5 _ (by omega) (by omega) HL (by omega) C5).mono ?_
    clear HL C5
    rintro e w5 ⟨y, rfl, hy, hcu, hgb⟩
    have FR6 := FR5.gb hgb (by omega)
    have FX7 := FX6.gb hgb (by omega)
    have G6 : Hid (GB g w w5) := G5.out.trans hgb
    clear FR5 FX6 G5 hgb
    have FR7 := FR6.othj (g' := w2.heap.size) (j := 1) (by omega) (.int .i64 y)
    have FX8 := FX7.set1b (.int .i64 y)
    have C8 : Cur (w5.setCell ⟨w2.heap.size, 1, none⟩ (.int .i64 y)) g ao n c _ := cur_put hcu HCL.out hgl (by omega) 1 _
    have G8 : Hid (GB g w (w5.setCell ⟨w2.heap.size, 1, none⟩ (.int .i64 y))) := gb_put G6.out (Nat.le_refl _) (by omega) 1 _
    have G9 : Hid (GB g w (((w5.setCell ⟨w2.heap.size, 1, none⟩ (.int .i64 y)).setCell ⟨w.heap.size, 0, none⟩ (.int .i64 T)).setCell ⟨w.heap.size, 1, none⟩ (.int .i64 y))) := gb_put (gb_put G8.out (Nat.le_refl _) (Nat.le_refl _) 0 _) (Nat.le_refl _) (Nat.le_refl _) 1 _
    have C9 : Hid (Cur (((w5.setCell ⟨w2.heap.size, 1, none⟩ (.int .i64 y)).setCell ⟨w.heap.size, 0, none⟩ (.int .i64 T)).setCell ⟨w.heap.size, 1, none⟩ (.int .i64 y)) g ao n c _) := cur_put (cur_put C8 HCL.out hgl (Nat.le_refl _) 0 _) HCL.out hgl (Nat.le_refl _) 1 _
    obtain ⟨_, a0, a1, a2, a3⟩ := id FX7
    obtain ⟨_, b0, b1, b2, b3⟩ := id FX8
    obtain ⟨_, c0, c1, c2, c3⟩ := id FR7
    obtain ⟨d0, d1⟩ := set2 _ w.heap.size (.int .i64 T) (.int .i64 y) c0 c1
    clear FX7 FX8 FR6 FR7 C8 G8 hcu G6
    go_wp2
    refine bodyPost_ret (v := .agg #[.int .i64 T, .int .i64 y]) (by simp [results, Tryd.results47, go_sem, d0, d1]; try rfl) rfl ?_
    exact ⟨_, _, rfl, by omega, by omega, C9.out.mono (by omega), G9.out⟩
  by_cases c1 : z = 1
  · subst c1
    have FX5 : Hid (FX w4 w2.heap.size (.int .i64 T) (.int .i64 X)) := FX4
    have HL := lit_cells (fun v => -1 ≤ v ∧ v ≤ 100001) w4 #[.int .i64 (-1), .int .i64 0, .int .i64 3, .int .i64 100000, .int .i64 100001] 3 5 rfl (by simp [allP])
    have C5 := hcu.alloc (.cells #[.int .i64 (-1), .int .i64 0, .int .i64 3, .int .i64 100000, .int .i64 100001] 3)
    have FR5 := FR4.later (balloc w4 (.cells #[.int .i64 (-1), .int .i64 0, .int .i64 3, .int .i64 100000, .int .i64 100001] 3))
    have FX6 := FX4.later (balloc w4 (.cells #[.int .i64 (-1), .int .i64 0, .int .i64 3, .int .i64 100000, .int .i64 100001] 3))
    have G5 : Hid (GB g w (w4.alloc (.cells #[.int .i64 (-1), .int .i64 0, .int .i64 3, .int .i64 100000, .int .i64 100001] 3))) := G4.alloc _
    have hg4 : g < w4.heap.size := by omega
    clear FR4 FX4 G4 hcu
    go_wp2_with fail
    refine (among_p (fun v => -1 ≤ v ∧ v ≤ 100001) g ao n c _ w4.heap.size 5 _ (by omega) (by omega) HL (by omega) C5).mono ?_
    clear HL C5
    rintro e w5 ⟨y, rfl, hy, hcu, hgb⟩
    have FR6 := FR5.gb hgb (by omega)
    have FX7 := FX6.gb hgb (by omega)
    have G6 : Hid (GB g w w5) := G5.out.trans hgb
    clear FR5 FX6 G5 hgb
    have FR7 := FR6.othj (g' := w2.heap.size) (j := 0) (by omega) (.int .i64 y)
    have FX8 := FX7.set0 (.int .i64 y)
    have C8 : Cur (w5.setCell ⟨w2.heap.size, 0, none⟩ (.int .i64 y)) g ao n c _ := cur_put hcu HCL.out hgl (by omega) 0 _
    have G8 : Hid (GB g w (w5.setCell ⟨w2.heap.size, 0, none⟩ (.int .i64 y))) := gb_put G6.out (Nat.le_refl _) (by omega) 0 _
    have G9 : Hid (GB g w (((w5.setCell ⟨w2.heap.size, 0, none⟩ (.int .i64 y)).setCell ⟨w.heap.size, 0, none⟩ (.int .i64 y)).setCell ⟨w.heap.size, 1, none⟩ (.int .i64 X))) := gb_put (gb_put G8.out (Nat.le_refl _) (Nat.le_refl _) 0 _) (Nat.le_refl _) (Nat.le_refl _) 1 _
    have C9 : Hid (Cur (((w5.setCell ⟨w2.heap.size, 0, none⟩ (.int .i64 y)).setCell ⟨w.heap.size, 0, none⟩ (.int .i64 y)).setCell ⟨w.heap.size, 1, none⟩ (.int .i64 X)) g ao n c _) := cur_put (cur_put C8 HCL.out hgl (Nat.le_refl _) 0 _) HCL.out hgl (Nat.le_refl _) 1 _
    obtain ⟨_, a0, a1, a2, a3⟩ := id FX7
    obtain ⟨_, b0, b1, b2, b3⟩ := id FX8
    obtain ⟨_, c0, c1, c2, c3⟩ := id FR7
    obtain ⟨d0, d1⟩ := set2 _ w.heap.size (.int .i64 y) (.int .i64 X) c0 c1
    clear FX7 FX8 FR6 FR7 C8 G8 hcu G6
    go_wp2
    refine bodyPost_ret (v := .agg #[.int .i64 y, .int .i64 X]) (by simp [results, Tryd.results47, go_sem, d0, d1]; try rfl) rfl ?_
    exact ⟨_, _, rfl, by omega, by omega, C9.out.mono (by omega), G9.out⟩
  have c0b : (z == 0) = false := by rw [beq_eq_false_iff_ne]; exact c0
  have c1b : (z == 1) = false := by rw [beq_eq_false_iff_ne]; exact c1
  have G9 : Hid (GB g w ((w4.setCell ⟨w.heap.size, 0, none⟩ (.int .i64 T)).setCell ⟨w.heap.size, 1, none⟩ (.int .i64 X))) := gb_put (gb_put G4 (Nat.le_refl _) (Nat.le_refl _) 0 _) (Nat.le_refl _) (Nat.le_refl _) 1 _
  have C9 : Hid (Cur ((w4.setCell ⟨w.heap.size, 0, none⟩ (.int .i64 T)).setCell ⟨w.heap.size, 1, none⟩ (.int .i64 X)) g ao n c _) := cur_put (cur_put hcu HCL.out hgl (Nat.le_refl _) 0 _) HCL.out hgl (Nat.le_refl _) 1 _
  obtain ⟨_, a0, a1, a2, a3⟩ := id FX4
  obtain ⟨_, e0, e1, e2, e3⟩ := id FR4
  obtain ⟨d0, d1⟩ := set2 _ w.heap.size (.int .i64 T) (.int .i64 X) e0 e1
  clear FX4 FR4 hcu G4
  go_wp2
  refine bodyPost_ret (v := .agg #[.int .i64 T, .int .i64 X]) (by simp [results, Tryd.results47, go_sem, d0, d1]; try rfl) rfl ?_
  exact ⟨_, _, rfl, by omega, by omega, C9.out.mono (by omega), G9.out⟩

end Go.Proofs.YtjpegbodhpnflaaDoor
