/- What chapter 1 draws for ReduceBig. -/
import Derived.Test.YtaedplfihjfchaaD1Bh
namespace Go.Proofs.Ytaedplfihjfchaa
set_option linter.unusedVariables false
set_option maxRecDepth 1000000
set_option linter.unusedSimpArgs false
open Go.RowKit

set_option maxHeartbeats 2000000 in
set_option maxRecDepth 1000000 in
theorem drawReduce_c (ao : Option Addr) (n c : Nat) (w : World) (hn : n ≤ 9223372036854775807) (h : CodeOk w w.heap.size ao n) :
    Calls Try.prog 10 #[.slice ao n c] w (Drawn2 w) := by
  obtain ⟨W, hW⟩ : ∃ W, ((w.alloc (Obj.cells #[Value.slice none 0 0] 25)).alloc (Obj.cells #[Value.slice none 0 0] 25)).alloc (Obj.cells #[Value.slice ao n c, Value.int IntKind.i64 0, Value.int IntKind.u64 0] 55) = W := ⟨_, rfl⟩
  obtain ⟨C0', T0', hs0⟩ := start_cur ao n c w hn h hW
  have C0 : Hid (Cur W (w.heap.size + 1 + 1) ao n c 0) := C0'
  have T0 : Hid (Two w W) := T0'
  clear h C0' T0'
  have hlit := lit_cells (fun v => 0 ≤ v ∧ v < 65536) W #[.int .i64 1, .int .i64 2, .int .i64 3, .int .i64 101, .int .i64 65535, .int .i64 65521, .int .i64 4] 3 7 rfl ⟨by omega, by omega, by omega, by omega, by omega, by omega, by omega, trivial⟩
  rw [hs0] at hlit
  go_enter Try.func10, Try.ntmps10
  go_wp2_with fail
  clear hW
  refine (among_p (fun v => 0 ≤ v ∧ v < 65536) (w.heap.size + 1 + 1) ao n c _ (w.heap.size + 1 + 1 + 1) 7 _ (by omega) (by omega) hlit (by omega) (C0.out.alloc _)).mono ?_
  rintro e w1 ⟨m, rfl, ⟨hm0, hm1⟩, hc1, hg1⟩
  have C1 : Hid (Cur w1 (w.heap.size + 1 + 1) ao n c 2) := hc1
  have T1 : Hid (Two w w1) := (T0.out.later (balloc _ _)).grown hg1 (by omega)
  have hs1 := T1.out.size
  clear hc1 hg1 C0 T0 hlit hs0
  obtain ⟨ys, fb, hF⟩ : ∃ ys fb, ofF m = (ys, fb) := ⟨_, _, rfl⟩
  have HF : Hid (ofF m = (ys, fb)) := hF
  obtain ⟨q2, hp⟩ : ∃ q2, ys.length = q2 := ⟨_, rfl⟩
  have HY : Hid (ys.length = q2) := hp
  have hq2 : q2 ≤ 7 := by rw [← hp]; rw [ofF_pos hm0 (by omega)] at hF; simp only [Prod.mk.injEq] at hF; rw [← hF.1]; have := (bigL_length hm0).2 (by omega); omega
  clear hF hp
  have hgl1 : w.heap.size + 1 + 1 < w1.heap.size := C1.out.lt
  go_wp2_with fail
  refine (specOf_c m _ (by omega) ys fb q2 HF.out HY.out).mono ?_
  rintro e w2 ⟨a2, c2, rfl, ho, hb⟩
  have C2 : Hid (Cur w2 (w.heap.size + 1 + 1) ao n c 2) := C1.out.later hb
  have T2 : Hid (Two w w2) := T1.out.later hb
  have O2 : Hid (Own w2 (w.heap.size + 3) (.slice a2 q2 c2) ys) := ho.mono (by omega)
  clear ho hb C1 T1 HF
  have hgl2 : w.heap.size + 1 + 1 < w2.heap.size := C2.out.lt
  obtain ⟨v9, hv9⟩ : ∃ v9, w2.alloc (Obj.cells #[Value.slice a2 q2 c2] 25) = v9 := ⟨_, rfl⟩
  have C3 : Hid (Cur v9 (w.heap.size + 1 + 1) ao n c 2) := by rw [← hv9]; exact C2.out.alloc _
  have T3 : Hid (Two w v9) := by rw [← hv9]; exact T2.out.later (balloc _ _)
  have O3 : Hid (Own v9 (w.heap.size + 3) (.slice a2 q2 c2) ys) := by rw [← hv9]; exact O2.out.later (balloc _ _)
  have kM : v9.cell? ⟨w2.heap.size, 0, none⟩ = some (.slice a2 q2 c2) := by rw [← hv9]; exact cnew _ _ _
  have sM : w2.heap.size < v9.heap.size := by rw [← hv9]; simp
  clear C2 T2 O2
  go_wp2_with fail
  (try clear hv9)
  refine (pick_c (w.heap.size + 1 + 1) ao n c (2) 256 _ (by omega) (by omega) C3.out).mono ?_
  rintro e v0 ⟨x1, rfl, hx10, hx11, hc1, hg1⟩
  have CP0 : Hid (Cur v0 (w.heap.size + 1 + 1) ao n c (2 + 2)) := hc1
  have TP0 : Hid (Two w v0) := T3.out.grown hg1 (by omega)
  have OP0 : Hid (Own v0 (w.heap.size + 3) (.slice a2 q2 c2) ys) := O3.out.kept hg1 (sep_own O3.out (by omega))
  replace kM := (box_kept hg1 (r := w2.heap.size) sM (by omega)).1 _ kM
  replace sM : w2.heap.size < v0.heap.size := Nat.lt_of_lt_of_le sM hg1.size
  clear hc1 hg1 C3 T3 O3
  go_wp2_with fail
  (try clear hv9)
  refine (pick_c (w.heap.size + 1 + 1) ao n c (2 + 2) 256 _ (by omega) (by omega) CP0.out).mono ?_
  rintro e v1 ⟨x2, rfl, hx20, hx21, hc1, hg1⟩
  have CP1 : Hid (Cur v1 (w.heap.size + 1 + 1) ao n c (2 + 2 + 2)) := hc1
  have TP1 : Hid (Two w v1) := TP0.out.grown hg1 (by omega)
  have OP1 : Hid (Own v1 (w.heap.size + 3) (.slice a2 q2 c2) ys) := OP0.out.kept hg1 (sep_own OP0.out (by omega))
  replace kM := (box_kept hg1 (r := w2.heap.size) sM (by omega)).1 _ kM
  replace sM : w2.heap.size < v1.heap.size := Nat.lt_of_lt_of_le sM hg1.size
  clear hc1 hg1 CP0 TP0 OP0
  go_wp2_with fail
  (try clear hv9)
  refine (pick_c (w.heap.size + 1 + 1) ao n c (2 + 2 + 2) 256 _ (by omega) (by omega) CP1.out).mono ?_
  rintro e v2 ⟨x3, rfl, hx30, hx31, hc1, hg1⟩
  have CP2 : Hid (Cur v2 (w.heap.size + 1 + 1) ao n c (2 + 2 + 2 + 2)) := hc1
  have TP2 : Hid (Two w v2) := TP1.out.grown hg1 (by omega)
  have OP2 : Hid (Own v2 (w.heap.size + 3) (.slice a2 q2 c2) ys) := OP1.out.kept hg1 (sep_own OP1.out (by omega))
  replace kM := (box_kept hg1 (r := w2.heap.size) sM (by omega)).1 _ kM
  replace sM : w2.heap.size < v2.heap.size := Nat.lt_of_lt_of_le sM hg1.size
  clear hc1 hg1 CP1 TP1 OP1
  go_wp2_with fail
  (try clear hv9)
  refine (pick_c (w.heap.size + 1 + 1) ao n c (2 + 2 + 2 + 2) 256 _ (by omega) (by omega) CP2.out).mono ?_
  rintro e v3 ⟨x4, rfl, hx40, hx41, hc1, hg1⟩
  have CP3 : Hid (Cur v3 (w.heap.size + 1 + 1) ao n c (2 + 2 + 2 + 2 + 2)) := hc1
  have TP3 : Hid (Two w v3) := TP2.out.grown hg1 (by omega)
  have OP3 : Hid (Own v3 (w.heap.size + 3) (.slice a2 q2 c2) ys) := OP2.out.kept hg1 (sep_own OP2.out (by omega))
  replace kM := (box_kept hg1 (r := w2.heap.size) sM (by omega)).1 _ kM
  replace sM : w2.heap.size < v3.heap.size := Nat.lt_of_lt_of_le sM hg1.size
  clear hc1 hg1 CP2 TP2 OP2
  have b1 : 0 ≤ x1 * x2 ∧ x1 * x2 ≤ 255 * 255 := ⟨Int.mul_nonneg hx10 hx20, Int.mul_le_mul (by omega) (by omega) hx20 (by omega)⟩
  obtain ⟨Y, hY⟩ : ∃ Y, x1 * x2 = Y := ⟨_, rfl⟩
  rw [hY] at b1
  have y1 : wrap64 Y = Y := by unfold wrap64; omega
  have b2 : 0 ≤ Y * x3 ∧ Y * x3 ≤ 255 * 255 * 255 := ⟨Int.mul_nonneg b1.1 hx30, Int.mul_le_mul b1.2 (by omega) hx30 (by omega)⟩
  obtain ⟨Z, hZ⟩ : ∃ Z, Y * x3 = Z := ⟨_, rfl⟩
  rw [hZ] at b2
  have z1 : wrap64 Z = Z := by unfold wrap64; omega
  obtain ⟨A, hA⟩ : ∃ A, Z + x4 = A := ⟨_, rfl⟩
  have hA0 : 0 ≤ A ∧ A ≤ 100000000 := by omega
  have hA1 : wrap64 A = A := by unfold wrap64; omega
  obtain ⟨xs, gb, hG⟩ : ∃ xs gb, ofF A = (xs, gb) := ⟨_, _, rfl⟩
  have HG : Hid (ofF A = (xs, gb)) := hG
  obtain ⟨q1, hp⟩ : ∃ q1, xs.length = q1 := ⟨_, rfl⟩
  have HX : Hid (xs.length = q1) := hp
  have hq1 : q1 ≤ 7 := by rw [← hp]; rw [ofF_pos hA0.1 (by omega)] at hG; simp only [Prod.mk.injEq] at hG; rw [← hG.1]; have := (bigL_length hA0.1).2 (by omega); omega
  clear hG hp
  go_wp2_with fail
  clear hA hA1 hZ hY y1 z1 b1 b2
  refine (specOf_c A _ (by omega) xs gb q1 HG.out HX.out).mono ?_
  rintro e w9 ⟨a1, c1, rfl, ho, hb⟩
  have T9 : Hid (Two w w9) := TP3.out.later hb
  have O9 : Hid (Own w9 (w.heap.size + 2) (.slice a1 q1 c1) xs) := ho.mono TP3.out.size
  have OB : Hid (Own w9 (w.heap.size + 2) (.slice a2 q2 c2) ys) := (OP3.out.later hb).mono (by omega)
  replace kM : w9.cell? ⟨w2.heap.size, 0, none⟩ = some (.slice a2 q2 c2) := cell_keep (S := 0) hb kM
  replace sM : w2.heap.size < w9.heap.size := Nat.lt_of_lt_of_le sM hb.size
  clear ho hb CP3 TP3 OP3 HG
  obtain ⟨u9, hu9⟩ : ∃ u9, w9.alloc (Obj.cells #[Value.slice a1 q1 c1] 25) = u9 := ⟨_, rfl⟩
  have TA : Hid (Two w u9) := by rw [← hu9]; exact T9.out.later (balloc _ _)
  have OA : Hid (Own u9 (w.heap.size + 2) (.slice a1 q1 c1) xs) := by rw [← hu9]; exact O9.out.later (balloc _ _)
  have OC : Hid (Own u9 (w.heap.size + 2) (.slice a2 q2 c2) ys) := by rw [← hu9]; exact OB.out.later (balloc _ _)
  have kN : u9.cell? ⟨w2.heap.size, 0, none⟩ = some (.slice a2 q2 c2) := by rw [← hu9]; exact calloc kM
  have kL : u9.cell? ⟨w9.heap.size, 0, none⟩ = some (.slice a1 q1 c1) := by rw [← hu9]; exact cnew _ _ _
  have hs9 := T9.out.size
  clear T9 O9 OB kM
  go_wp2
  refine wp_region_held_drew (S := fun w' => w'.cell? ⟨w9.heap.size, 0, none⟩ = some (.slice a1 q1 c1) ∧ w'.cell? ⟨w2.heap.size, 0, none⟩ = some (.slice a2 q2 c2)) (by kernel_rfl) ?_ (fun hHeld => ?_)
  · exact ⟨kL, kN⟩
  have TD : Hid (Two w u9.drew) := TA.out.later (Below.refl _ _).drew
  have OX : Hid (Own u9.drew (w.heap.size + 2) (.slice a1 q1 c1) xs) := OA.out.later (Below.refl _ _).drew
  have OY : Hid (Own u9.drew (w.heap.size + 2) (.slice a2 q2 c2) ys) := OC.out.later (Below.refl _ _).drew
  generalize u9.drew = wy at TD OX OY hHeld ⊢
  have k1 := TD.out.c1
  have k2 := TD.out.c2
  have k3 := TD.out.f1
  have k4 := TD.out.f2
  refine takeG (i := 0) (oi := _) (v := ?_) (d := some 34) rfl (by kernel_rfl) (by kernel_rfl) (by kernel_rfl) (by kernel_rfl) (fun _ _ _ h => h) (Or.inl ⟨by rfl, ?_⟩) (by assumption) ?_
  rotate_left
  · (intro w hSw; (try dsimp only at hSw); go_simp <;> with_reducible rfl)
  try simp only [Act.put, List.setIfInBounds_toArray, List.set_cons_zero, List.set_cons_succ]
  refine takeG (i := 1) (oi := _) (v := ?_) (d := some 35) rfl (by kernel_rfl) (by kernel_rfl) (by kernel_rfl) (by kernel_rfl) (fun _ _ _ h => h) (Or.inl ⟨by rfl, ?_⟩) (by assumption) ?_
  rotate_left
  · (intro w hSw; (try dsimp only at hSw); go_simp <;> with_reducible rfl)
  try simp only [Act.put, List.setIfInBounds_toArray, List.set_cons_zero, List.set_cons_succ]
  refine wpAnyH_ready (rs := [2]) (by kernel_rfl) (by simp) ?_
  refine AllReadyH.cons (o := _) rfl (fun K hK => ?_) AllReadyH.nil
  go_simp
  refine hK.out _ _ ?_ (fun hHeld => ?_)
  · exact ⟨(World.cell?_setCell_other _ _ _ _ (fun e => by first | (simp at e; done) | (simp at e; omega))).trans hHeld.1, (World.cell?_setCell_other _ _ _ _ (fun e => by first | (simp at e; done) | (simp at e; omega))).trans hHeld.2⟩
  clear hK K
  try simp only [Act.put, List.setIfInBounds_toArray, List.set_cons_zero, List.set_cons_succ]
  refine wpAnyH_ready (rs := [3]) (by kernel_rfl) (by simp) ?_
  refine AllReadyH.cons (o := _) rfl (fun K hK => ?_) AllReadyH.nil
  go_simp
  refine hK.out _ _ ?_ (fun hHeld => ?_)
  · exact ⟨(World.cell?_setCell_other _ _ _ _ (fun e => by first | (simp at e; done) | (simp at e; omega))).trans hHeld.1, (World.cell?_setCell_other _ _ _ _ (fun e => by first | (simp at e; done) | (simp at e; omega))).trans hHeld.2⟩
  clear hK K
  try simp only [Act.put, List.setIfInBounds_toArray, List.set_cons_zero, List.set_cons_succ]
  refine wpAnyH_done (by kernel_rfl) ?_ _
  go_wp2
  refine bodyPost_ret (v := .tuple #[.agg #[.slice a1 q1 c1], .agg #[.slice a2 q2 c2]]) (by simp [results, Try.results10, go_sem, k1, k2]) rfl ?_
  with_reducible exact two_end TD.out hq1 hq2 HX.out HY.out OX.out OY.out

end Go.Proofs.Ytaedplfihjfchaa
