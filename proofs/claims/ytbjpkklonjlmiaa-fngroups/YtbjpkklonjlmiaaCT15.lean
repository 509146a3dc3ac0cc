/- Chapter 15: copyOfTable of the program. -/
import Derived.Test.YtbjpkklonjlmiaaWB15
namespace Go.Proofs.Ytbjpkklonjlmiaa
set_option linter.unusedVariables false
set_option maxRecDepth 1000000
set_option linter.unusedSimpArgs false
open Go.RowKit Go.Sort

set_option maxHeartbeats 8000000 in
theorem copyOfTable_c (sa : Option Addr) (sn sc : Nat) (la : Option Addr) (ln lc : Nat) (t : TbV) (w : World) (h : RdT w sa sn sc la ln lc t) (hg : GoodT t) :
    Calls Try.prog 46 #[.agg #[.int .i64 t.s, .slice sa sn sc, .slice la ln lc]] w fun e w' => ∃ sa' sc' la' lc', e = .returned (.agg #[.int .i64 t.s, .slice sa' sn sc', .slice la' ln lc']) ∧ OwnTb w' w.heap.size w'.heap.size (.slice sa' sn sc') (.slice la' ln lc') t ∧ Below w.heap.size w w' := by
  have HX0 : Hid (X3 (w.alloc (.cells #[.int .i64 t.s, .slice sa sn sc, .slice la ln lc] 26)) w.heap.size (.int .i64 t.s) (.slice sa sn sc) (.slice la ln lc)) := x3_new w _ _ _ _ _ rfl
  have HB0 : Hid (Below w.heap.size w (w.alloc (.cells #[.int .i64 t.s, .slice sa sn sc, .slice la ln lc] 26))) := balloc w _
  have HQE : Hid (∀ wx, Below w.heap.size w wx → Calls Try.prog 63 #[.slice sa sn sc, .func (.func 59) #[] #[]] wx fun e w' => ∃ a' c', e = .returned (.slice a' sn c') ∧ OwnIP w' wx.heap.size (fun k => wx.heap.size ≤ k ∧ k < w'.heap.size) (.slice a' sn c') t.ps ∧ Below wx.heap.size wx w') := fun wx hb =>
    eachII_c sa sn sc t.ps wx h.rd.sl (by have := hg.pl; rw [h.rd.sl] at this; omega) (h.rd.later hb).s (fun l hl => by
      obtain ⟨j, hj, e⟩ := of_mem_getD [] hl
      rw [← e, (hg.two j hj).1]; omega)
  have HQC : Hid (∀ wx, Below w.heap.size w wx → Calls Try.prog 59 #[.slice la ln lc] wx fun e w' => ∃ a' c', e = .returned (.slice a' ln c') ∧ Own w' wx.heap.size (.slice a' ln c') t.cs ∧ Below wx.heap.size wx w') := fun wx hb =>
    copyOfInts_c la ln lc t.cs wx h.rd.ll (by have := hg.pl; have := hg.cl; have := h.rd.ll; omega) (h.rd.later hb).l h.rd.lz
  obtain ⟨s, hs⟩ : ∃ s, t.s = s := ⟨_, rfl⟩
  rw [hs] at HX0 HB0 ⊢
  clear h hg hs
  obtain ⟨V, hV⟩ : ∃ V, w.alloc (.cells #[.int .i64 s, .slice sa sn sc, .slice la ln lc] 26) = V := ⟨_, rfl⟩
  have hVs : w.heap.size + 1 = V.heap.size := by rw [← hV]; simp
  rw [hV] at HX0 HB0
  have hZE := x3_new V (.int .i64 0) (.slice none 0 0) (.slice none 0 0) 26 V.heap.size rfl
  have hbE := balloc V (.cells #[.int .i64 0, .slice none 0 0, .slice none 0 0] 26)
  have hEs : (V.alloc (.cells #[.int .i64 0, .slice none 0 0, .slice none 0 0] 26)).heap.size = V.heap.size + 1 := by simp
  obtain ⟨E, hE⟩ : ∃ E, V.alloc (.cells #[.int .i64 0, .slice none 0 0, .slice none 0 0] 26) = E := ⟨_, rfl⟩
  rw [hE] at hZE hbE hEs
  obtain ⟨D, hD⟩ : ∃ D, E.drew = D := ⟨_, rfl⟩
  have hbD : Below V.heap.size V D := by rw [← hD]; exact hbE.drew
  have HZD : Hid (X3 D V.heap.size (.int .i64 0) (.slice none 0 0) (.slice none 0 0)) := by rw [← hD]; exact hZE.later (Below.refl _ _).drew
  have HXD : Hid (X3 D w.heap.size (.int .i64 s) (.slice sa sn sc) (.slice la ln lc)) := HX0.out.later hbD
  have HBD : Hid (Below w.heap.size w D) := HB0.out.trans (hbD.mono HB0.out.size)
  have hDs : V.heap.size + 1 ≤ D.heap.size := by have : D.heap.size = E.heap.size := by rw [← hD]; rfl
                                                 omega
  clear hZE hbE hEs hbD HX0 HB0
  go_enter Try.func46, Try.ntmps46
  go_wp2_with fail
  refine wp_region_held_drew (S := (fun X => X.cell? ⟨w.heap.size, 0, none⟩ = some (.int .i64 s) ∧ X.cell? ⟨w.heap.size, 1, none⟩ = some (.slice sa sn sc) ∧ X.cell? ⟨w.heap.size, 2, none⟩ = some (.slice la ln lc))) (by kernel_rfl) ?_ (fun hHeld => ?_)
  · (try rw [hD]); exact HXD.out.1
  rw [hD] at hHeld ⊢
  clear hD hE hV
  refine takeSO15 (i := 0) (oi := _) (v := ?_) (d := some 3) rfl (by kernel_rfl) (by kernel_rfl) (by kernel_rfl) (by kernel_rfl) (fun _ _ _ h => h) (Or.inl ⟨by rfl, ?_⟩) (by assumption) ?_
  rotate_left
  · (intro w hSw; (try dsimp only at hSw); go_simp <;> with_reducible rfl)
  try simp only [Act.put, List.setIfInBounds_toArray, List.set_cons_zero, List.set_cons_succ]
  refine takeSO15 (i := 1) (oi := _) (v := ?_) (d := some 4) rfl (by kernel_rfl) (by kernel_rfl) (by kernel_rfl) (by kernel_rfl) (fun _ _ _ h => h) (Or.inl ⟨by rfl, ?_⟩) (by assumption) ?_
  rotate_left
  · (intro w hSw; (try dsimp only at hSw); go_simp <;> with_reducible rfl)
  try simp only [Act.put, List.setIfInBounds_toArray, List.set_cons_zero, List.set_cons_succ]
  refine takeSO15 (i := 2) (oi := _) (v := ?_) (d := some 5) rfl (by kernel_rfl) (by kernel_rfl) (by kernel_rfl) (by kernel_rfl) (fun _ _ _ h => h) (Or.inl ⟨by rfl, ?_⟩) (by assumption) ?_
  rotate_left
  · (intro w hSw; (try dsimp only at hSw); go_simp <;> with_reducible rfl)
  try simp only [Act.put, List.setIfInBounds_toArray, List.set_cons_zero, List.set_cons_succ]
  refine takeSO15 (i := 3) (oi := _) (v := ?_) (d := some 6) rfl (by kernel_rfl) (by kernel_rfl) (by kernel_rfl) (by kernel_rfl) (fun _ _ _ h => h) (Or.inl ⟨by rfl, ?_⟩) (by assumption) ?_
  rotate_left
  · (intro w hSw; (try dsimp only at hSw); go_simp <;> with_reducible rfl)
  try simp only [Act.put, List.setIfInBounds_toArray, List.set_cons_zero, List.set_cons_succ]
  refine takeSO15 (i := 5) (oi := _) (v := ?_) (d := some 8) rfl (by kernel_rfl) (by kernel_rfl) (by kernel_rfl) (by kernel_rfl) (fun _ _ _ h => h) (Or.inl ⟨by rfl, ?_⟩) (by assumption) ?_
  rotate_left
  · (intro w hSw; (try dsimp only at hSw); go_simp <;> with_reducible rfl)
  try simp only [Act.put, List.setIfInBounds_toArray, List.set_cons_zero, List.set_cons_succ]
  refine takeSO15 (i := 6) (oi := _) (v := ?_) (d := some 9) rfl (by kernel_rfl) (by kernel_rfl) (by kernel_rfl) (by kernel_rfl) (fun _ _ _ h => h) (Or.inl ⟨by rfl, ?_⟩) (by assumption) ?_
  rotate_left
  · (intro w hSw; (try dsimp only at hSw); go_simp <;> with_reducible rfl)
  try simp only [Act.put, List.setIfInBounds_toArray, List.set_cons_zero, List.set_cons_succ]
  refine wpAnyH_ready (rs := [4]) (by kernel_rfl) (by simp) ?_
  refine AllReadyH.cons (o := _) rfl (fun K hK => ?_) AllReadyH.nil
  go_simp
  refine (HQE.out D HBD.out).mono ?_
  rintro e w1 ⟨a1, c1, rfl, ho, hb⟩
  have HB1 : Hid (Below D.heap.size D w1) := hb
  have HS1 : Hid (OwnIP w1 D.heap.size (fun k => D.heap.size ≤ k ∧ k < w1.heap.size) (.slice a1 sn c1) t.ps) := ho
  have hs1 : D.heap.size ≤ w1.heap.size := hb.size
  clear ho hb
  refine hK.out _ _ ?_ (fun hHeld => ?_)
  · exact (HXD.out.later HB1.out).1
  clear hK K
  try simp only [Act.put, List.setIfInBounds_toArray, List.set_cons_zero, List.set_cons_succ]
  refine wpAnyH_ready (rs := [7]) (by kernel_rfl) (by simp) ?_
  refine AllReadyH.cons (o := _) rfl (fun K hK => ?_) AllReadyH.nil
  go_simp
  refine (HQC.out w1 (HBD.out.trans (HB1.out.mono HBD.out.size))).mono ?_
  rintro e w2 ⟨a2, c2, rfl, ho, hb⟩
  have HB2 : Hid (Below D.heap.size D w2) := HB1.out.trans (hb.mono HB1.out.size)
  have HS2 : Hid (OwnIP w2 D.heap.size (fun k => D.heap.size ≤ k ∧ k < w1.heap.size) (.slice a1 sn c1) t.ps) := HS1.out.later hb
  have HL2 : Hid (Own w2 w1.heap.size (.slice a2 ln c2) t.cs) := ho
  have hs2 : w1.heap.size ≤ w2.heap.size := hb.size
  clear ho hb
  refine hK.out _ _ ?_ (fun hHeld => ?_)
  · exact (HXD.out.later HB2.out).1
  clear hK K
  try simp only [Act.put, List.setIfInBounds_toArray, List.set_cons_zero, List.set_cons_succ]
  refine takeSO15 (i := 8) (oi := _) (v := ?_) (d := some 11) rfl (by kernel_rfl) (by kernel_rfl) (by kernel_rfl) (by kernel_rfl) (fun _ _ _ h => h) (Or.inl ⟨by rfl, ?_⟩) (by assumption) ?_
  rotate_left
  · (intro w hSw; (try dsimp only at hSw); go_simp <;> with_reducible rfl)
  try simp only [Act.put, List.setIfInBounds_toArray, List.set_cons_zero, List.set_cons_succ]
  have hZ2 := HZD.out.later HB2.out
  have hXF := ((hZ2.set0 (.int .i64 s)).set1 (.slice a1 sn c1)).set2 (.slice a2 ln c2)
  have HX2 : Hid (X3 w2 w.heap.size (.int .i64 s) (.slice sa sn sc) (.slice la ln lc)) := HXD.out.later HB2.out
  have HX3 : X3 (((w2.setCell ⟨V.heap.size, 0, none⟩ (.int .i64 s)).setCell ⟨V.heap.size, 1, none⟩ (.slice a1 sn c1)).setCell ⟨V.heap.size, 2, none⟩ (.slice a2 ln c2)) w.heap.size (.int .i64 s) (.slice sa sn sc) (.slice la ln lc) := ((HX2.out.other (by omega)).other (by omega)).other (by omega)
  have hS3 := ((HS2.out.setBox (r := V.heap.size) (j := 0) (by omega) (.int .i64 s)).setBox (r := V.heap.size) (j := 1) (by omega) (.slice a1 sn c1)).setBox (r := V.heap.size) (j := 2) (by omega) (.slice a2 ln c2)
  have hL3 := ((HL2.out.setBox (r := V.heap.size) (j := 0) (by omega) (.int .i64 s)).setBox (r := V.heap.size) (j := 1) (by omega) (.slice a1 sn c1)).setBox (r := V.heap.size) (j := 2) (by omega) (.slice a2 ln c2)
  have hB2w : Below w.heap.size w w2 := HBD.out.trans (HB2.out.mono HBD.out.size)
  have hB3 := ((hB2w.setCell (p := ⟨V.heap.size, 0, none⟩) (by show w.heap.size ≤ V.heap.size; omega) (.int .i64 s)).setCell (p := ⟨V.heap.size, 1, none⟩) (by show w.heap.size ≤ V.heap.size; omega) (.slice a1 sn c1)).setCell (p := ⟨V.heap.size, 2, none⟩) (by show w.heap.size ≤ V.heap.size; omega) (.slice a2 ln c2)
  have hsz3 : w2.heap.size ≤ (((w2.setCell ⟨V.heap.size, 0, none⟩ (.int .i64 s)).setCell ⟨V.heap.size, 1, none⟩ (.slice a1 sn c1)).setCell ⟨V.heap.size, 2, none⟩ (.slice a2 ln c2)).heap.size := by rw [World.size_setCell, World.size_setCell, World.size_setCell]; exact Nat.le_refl _
  have hLb : ∀ k, (Value.slice a2 ln c2).ownBlock = some k → w1.heap.size ≤ k ∧ k < w2.heap.size := fun k e => ⟨own_block_ge HL2.out k e, (World.ownsRow.lt HL2.out k e).2⟩
  obtain ⟨⟨z0, z1, z2⟩, zf⟩ := hZ2
  have zf0 := zf 0
  have zf1 := zf 1
  have zf2 := zf 2
  clear zf
  obtain ⟨W3, hW3⟩ : ∃ X, ((w2.setCell ⟨V.heap.size, 0, none⟩ (.int .i64 s)).setCell ⟨V.heap.size, 1, none⟩ (.slice a1 sn c1)).setCell ⟨V.heap.size, 2, none⟩ (.slice a2 ln c2) = X := ⟨_, rfl⟩
  rw [hW3] at hXF HX3 hS3 hL3 hB3 hsz3
  have HT : Hid (OwnTb W3 w.heap.size W3.heap.size (.slice a1 sn c1) (.slice a2 ln c2) t) := ⟨⟨_, hS3.mono (lo' := w.heap.size) (by omega) (fun k h => h), fun k hk => by omega, fun k e => by have := hLb k e; omega⟩, hL3.mono (by omega)⟩
  have HB3 : Hid (Below w.heap.size w W3) := hB3
  have HX3h : Hid (X3 W3 w.heap.size (.int .i64 s) (.slice sa sn sc) (.slice la ln lc)) := HX3
  obtain ⟨⟨e0, e1, e2⟩, _⟩ := hXF
  clear hS3 hL3 hB3 HX3 hB2w hLb HS1 HS2 HL2 HX2
  refine wpAnyH_ready (rs := [9]) (by kernel_rfl) (by simp) ?_
  refine AllReadyH.cons (o := _) rfl (fun K hK => ?_) AllReadyH.nil
  go_simp
  refine hK.out _ _ ?_ (fun hHeld => ?_)
  · (try rw [hW3]); exact HX3h.out.1
  clear hK K
  try simp only [Act.put, List.setIfInBounds_toArray, List.set_cons_zero, List.set_cons_succ]
  try rw [hW3] at hHeld
  try rw [hW3]
  refine wpAnyH_done (by kernel_rfl) ?_ _
  clear hHeld hW3 z0 z1 z2 zf0 zf1 zf2
  go_wp2
  refine bodyPost_ret (v := .agg #[.int .i64 s, .slice a1 sn c1, .slice a2 ln c2]) (by simp [results, Try.results46, go_sem, e0, e1, e2]; try rfl) rfl ?_
  exact ⟨_, _, _, _, rfl, HT.out, HB3.out⟩

end Go.Proofs.Ytbjpkklonjlmiaa
