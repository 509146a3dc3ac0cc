/- What chapter 5 draws: parts. -/
import Derived.Test.YtamppekadobagaaD5R
namespace Go.Proofs.Ytamppekadobagaa
set_option linter.unusedVariables false
set_option linter.unusedSimpArgs false
open Go.RowKit

set_option maxHeartbeats 4000000 in
set_option maxRecDepth 1000000 in
theorem parts_c (g : Nat) (ao : Option Addr) (n c : Nat) (M : Int) (w : World) (hM : M ≤ 1000000) (h : Cur w g ao n c M) :
    Calls Try.prog 63 #[.pointer (some ⟨g, 0, none⟩)] w (DrawnPa g ao n c M w) := by
  have HC : Hid (Cur w g ao n c M) := h
  have HOld : Hid (Old ao n w.heap.size) := h.code.old
  have hgl : g < w.heap.size := h.lt
  clear h
  go_enter Try.func63, Try.ntmps63
  go_wp2_with fail
  refine (poly_c g ao n c M _ hM HC.out).mono ?_
  rintro e w1 ⟨a1, q1, c1, zs, rfl, hq1, hl1, ho, hc1, hg1⟩
  have HC1 : Hid (Cur w1 g ao n c (M + 100)) := hc1
  have HG1 : Hid (GB g w w1) := hg1
  have HO1 : Hid (Own w1 w.heap.size (.slice a1 q1 c1) zs) := ho
  have HL1 : Hid (zs.length = q1) := hl1
  clear hc1 hg1 ho hl1 HC
  go_wp2_with fail
  refine (pick_c g ao n c (M + 100) 7 _ (by omega) (by omega) HC1.out).mono ?_
  rintro e w2 ⟨z, rfl, hz0, hz1, hc1, hg1⟩
  have HC2 : Hid (Cur w2 g ao n c (M + 102)) := hc1.mono (by omega)
  have HG2 : Hid (GB g w w2) := HG1.out.trans hg1
  have HO2 : Hid (Own w2 w.heap.size (.slice a1 q1 c1) zs) := HO1.out.kept hg1 (sep_own HO1.out hgl)
  clear hc1 hg1 HC1 HG1 HO1
  obtain ⟨ps, fb, hF⟩ : ∃ ps fb, splitF zs (1 + z) = (ps, fb) := ⟨_, _, rfl⟩
  obtain ⟨p, hp⟩ : ∃ p, ps.length = p := ⟨_, rfl⟩
  have hp8 : p ≤ 8 := by rw [← hp]; exact splitF_short hF
  have hsp := specSplit_c a1 q1 c1 zs (1 + z) w2 HL1.out (by omega) HO2.out.rd'.2 ps fb p hF hp
  clear hF hp
  go_wp2_with fail
  refine hsp.mono ?_
  clear hsp
  rintro e w3 ⟨a3, c3, rfl, ho, hb⟩
  have HC3 : Hid (Cur w3 g ao n c (M + 102)) := HC2.out.later hb
  have HG3 : Hid (GB g w w3) := HG2.out.trans (GB.of_below hb (Nat.le_refl _))
  have HR3 : Hid (RowP w3 w.heap.size a3 p c3 ps) := (ho.mono HG2.out.size).row
  clear ho hb HC2 HG2 HO2
  go_wp2_with fail
  refine (pick_c g ao n c (M + 102) 4 _ (by omega) (by omega) HC3.out).mono ?_
  rintro e w4 ⟨y, rfl, hy0, hy1, hc1, hg1⟩
  obtain ⟨k0, rfl⟩ : ∃ k0 : Nat, y = k0 := ⟨y.toNat, by omega⟩
  have HC4 : Hid (Cur w4 g ao n c (M + 104)) := hc1.mono (by omega)
  have HG4 : Hid (GB g w w4) := HG3.out.trans hg1
  have HR4 : Hid (RowP w4 w.heap.size a3 p c3 ps) := HR3.out.kept hg1 hgl
  have hk4 : k0 ≤ 3 := by omega
  clear hc1 hg1 HC3 HG3 HR3 hy0 hy1
  go_wp2
  go_loopw [5] (fun i wr => ∃ (k : Nat) (l : List (Int × Int)), i = .int .i64 k ∧ k ≤ k0 ∧ Hid (RowP wr w.heap.size a3 p c3 l) ∧ Hid (Cur wr g ao n c (M + 104 + 4 * (k0 - k))) ∧ Hid (GB g w wr)) (fun i _ => (intOf i).toNat)
  case atStart => exact ⟨k0, ps, rfl, Nat.le_refl _, HR4, HC4.out.mono (by omega), HG4⟩
  case round =>
    clear HR4 HC4 HG4
    obtain ⟨k, l, rfl, hk, hR, hC, hG⟩ := hrel
    have hpc := hR.out.2.1
    have hcm := hR.out.2.2.1
    by_cases hlt : 0 < k ∧ 1 < p
    · have k1 : (0 : Int) < (k : Int) := by omega
      have p1 : (1 : Int) < (p : Int) := by omega
      have hp1 : (1 : Int) ≤ (p : Int) ∧ (p : Int) ≤ 1000000 := by omega
      go_wp2_with fail
      refine (pick_c g ao n c (M + 104 + 4 * (k0 - k)) p _ (by omega) hp1 hC.out).mono ?_
      rintro e w5 ⟨zi, rfl, hi0, hi1, hc1, hg1⟩
      have HC5 : Hid (Cur w5 g ao n c (M + 104 + 4 * (k0 - k) + 2)) := hc1
      have HG5 : Hid (GB g w w5) := hG.out.trans hg1
      have HR5 : Hid (RowP w5 w.heap.size a3 p c3 l) := hR.out.kept hg1 hgl
      clear hc1 hg1 hC hG hR
      go_wp2_with fail
      refine (pick_c g ao n c (M + 104 + 4 * (k0 - k) + 2) p _ (by omega) hp1 HC5.out).mono ?_
      rintro e w6 ⟨zj, rfl, hj0, hj1, hc1, hg1⟩
      have HC6 : Hid (Cur w6 g ao n c (M + 104 + 4 * (k0 - k) + 4)) := hc1.mono (by omega)
      have HG6 : Hid (GB g w w6) := HG5.out.trans hg1
      have HR6 : Hid (RowP w6 w.heap.size a3 p c3 l) := HR5.out.kept hg1 hgl
      clear hc1 hg1 HC5 HG5 HR5
      obtain ⟨i, rfl⟩ : ∃ i : Nat, zi = i := ⟨zi.toNat, by omega⟩
      obtain ⟨j, rfl⟩ : ∃ j : Nat, zj = j := ⟨zj.toNat, by omega⟩
      have hip : i < p := by omega
      have hjp : j < p := by omega
      obtain ⟨gg, off, rfl, hgb, hgs, hcells⟩ := HR6.out.at (by omega)
      obtain ⟨⟨ci1, ci2⟩, ci3, ci4⟩ := hcells i hip
      obtain ⟨⟨cj1, cj2⟩, cj3, cj4⟩ := hcells j hjp
      have HSET : Hid (∀ (W : World), RowP W w.heap.size (some ⟨gg, off, none⟩) p c3 l → ∃ l', RowP ((((W.setCell ⟨gg, off + i * 2, none⟩ (.int .i64 (l.getD j (0, 0)).1)).setCell ⟨gg, off + i * 2 + 1, none⟩ (.int .i64 (l.getD j (0, 0)).2)).setCell ⟨gg, off + j * 2, none⟩ (.int .i64 (l.getD i (0, 0)).1)).setCell ⟨gg, off + j * 2 + 1, none⟩ (.int .i64 (l.getD i (0, 0)).2)) w.heap.size (some ⟨gg, off, none⟩) p c3 l') := fun W hW => ⟨_, (hW.set i hip _ _).set j hjp _ _⟩
      generalize (l.getD i (0, 0)).1 = xi at *
      generalize (l.getD i (0, 0)).2 = yi at *
      generalize (l.getD j (0, 0)).1 = xj at *
      generalize (l.getD j (0, 0)).2 = yj at *
      obtain ⟨V, hV⟩ : ∃ V, w6.alloc (.cells #[.int .i64 xi, .int .i64 yi] 46) = V := ⟨_, rfl⟩
      have HCV : Hid (Cur V g ao n c (M + 104 + 4 * (k0 - k) + 4)) := by rw [← hV]; exact HC6.out.alloc _
      have HGV : Hid (GB g w V) := by rw [← hV]; exact HG6.out.alloc _
      have HRV : Hid (RowP V w.heap.size (some ⟨gg, off, none⟩) p c3 l) := by rw [← hV]; exact HR6.out.later (balloc _ _)
      have v0 : V.cell? ⟨w6.heap.size, 0, none⟩ = some (.int .i64 xi) := by rw [← hV]; simp
      have v1 : V.cell? ⟨w6.heap.size, 1, none⟩ = some (.int .i64 yi) := by rw [← hV]; simp
      have vj1 : V.cell? ⟨gg, off + j * 2, none⟩ = some (.int .i64 xj) := by rw [← hV]; exact calloc cj1
      have vj2 : V.cell? ⟨gg, off + j * 2 + 1, none⟩ = some (.int .i64 yj) := by rw [← hV]; exact calloc cj2
      have vi1 : V.cell? ⟨gg, off + i * 2, none⟩ = some (.int .i64 xi) := by rw [← hV]; exact calloc ci1
      have vi2 : V.cell? ⟨gg, off + i * 2 + 1, none⟩ = some (.int .i64 yi) := by rw [← hV]; exact calloc ci2
      have vfi1 : V.frozen? ⟨gg, off + i * 2, none⟩ = false := by rw [← hV, (balloc w6 _).frozen (p := ⟨gg, off + i * 2, none⟩) hgs]; exact ci3
      have vfi2 : V.frozen? ⟨gg, off + i * 2 + 1, none⟩ = false := by rw [← hV, (balloc w6 _).frozen (p := ⟨gg, off + i * 2 + 1, none⟩) hgs]; exact ci4
      have vfj1 : V.frozen? ⟨gg, off + j * 2, none⟩ = false := by rw [← hV, (balloc w6 _).frozen (p := ⟨gg, off + j * 2, none⟩) hgs]; exact cj3
      have vfj2 : V.frozen? ⟨gg, off + j * 2 + 1, none⟩ = false := by rw [← hV, (balloc w6 _).frozen (p := ⟨gg, off + j * 2 + 1, none⟩) hgs]; exact cj4
      have hne : gg ≠ w6.heap.size := by omega
      obtain ⟨V2, hV2⟩ : ∃ V2, (V.setCell ⟨gg, off + i * 2, none⟩ (.int .i64 xj)).setCell ⟨gg, off + i * 2 + 1, none⟩ (.int .i64 yj) = V2 := ⟨_, rfl⟩
      have hR2 := HRV.out.set i hip xj yj
      rw [hV2] at hR2
      have u0 : V2.cell? ⟨w6.heap.size, 0, none⟩ = some (.int .i64 xi) := by rw [← hV2, World.cell?_setCell_other _ _ _ _ (by simp [hne]), World.cell?_setCell_other _ _ _ _ (by simp [hne])]; exact v0
      have u1 : V2.cell? ⟨w6.heap.size, 1, none⟩ = some (.int .i64 yi) := by rw [← hV2, World.cell?_setCell_other _ _ _ _ (by simp [hne]), World.cell?_setCell_other _ _ _ _ (by simp [hne])]; exact v1
      obtain ⟨gg', off', e1, _, hgs2, hcells2⟩ := hR2.at (by omega)
      cases e1
      obtain ⟨⟨uj1, uj2⟩, uj3, uj4⟩ := hcells2 j hjp
      have HC2 : Hid (Cur V2 g ao n c (M + 104 + 4 * (k0 - k) + 4)) := by rw [← hV2]; exact HCV.out.grown (B := w.heap.size) (set2_grown V gg _ _ _ _) (fun k hk => by simp at hk; omega) hgl HOld.out
      have HG2 : Hid (GB g w V2) := by rw [← hV2]; exact HGV.out.grown (set2_grown V gg _ _ _ _) (fun k hk => by simp at hk; omega)
      have HE : Hid ((∃ l', RowP ((V2.setCell ⟨gg, off + j * 2, none⟩ (.int .i64 xi)).setCell ⟨gg, off + j * 2 + 1, none⟩ (.int .i64 yi)) w.heap.size (some ⟨gg, off, none⟩) p c3 l') ∧ Cur ((V2.setCell ⟨gg, off + j * 2, none⟩ (.int .i64 xi)).setCell ⟨gg, off + j * 2 + 1, none⟩ (.int .i64 yi)) g ao n c (M + 104 + 4 * (k0 - k) + 4) ∧ GB g w ((V2.setCell ⟨gg, off + j * 2, none⟩ (.int .i64 xi)).setCell ⟨gg, off + j * 2 + 1, none⟩ (.int .i64 yi))) :=
        ⟨⟨_, hR2.set j hjp xi yi⟩, HC2.out.grown (B := w.heap.size) (set2_grown V2 gg _ _ _ _) (fun k hk => by simp at hk; omega) hgl HOld.out, HG2.out.grown (set2_grown V2 gg _ _ _ _) (fun k hk => by simp at hk; omega)⟩
      generalize ((l.set i (xj, yj)).getD j (0, 0)).1 = t1 at uj1
      generalize ((l.set i (xj, yj)).getD j (0, 0)).2 = t2 at uj2
      clear hcells hcells2 HSET ci3 ci4 cj1 cj2 cj3 cj4 hR2 HC6 HG6 HR6 HCV HGV HRV HC2 HG2
      go_wp2
      go_roundw
      case rel =>
        obtain ⟨⟨l', h1⟩, h2, h3⟩ := HE.out
        exact ⟨k - 1, l', by go_num, by omega, h1, h2.mono (by omega), h3⟩
      case measure => simp [intOf]; omega
    -- the end
    · have HC7 : Hid (Cur wr g ao n c (M + 120)) := hC.out.mono (by omega)
      clear hC
      by_cases hp1 : 1 < p
      · have k1 : ¬ (0 : Int) < (k : Int) := by omega
        have p1 : (1 : Int) < (p : Int) := by omega
        go_wp2_with fail
        refine (one_c g ao n c (M + 120) 3 _ (by omega) (by omega) HC7.out).mono ?_
        rintro e w5 ⟨b1, rfl, hc1, hg1⟩
        have C5 : Hid (Cur w5 g ao n c (M + 122)) := hc1.mono (by omega)
        have G5 : Hid (GB g w w5) := hG.out.trans hg1
        have R5 : Hid (RowP w5 w.heap.size a3 p c3 l) := hR.out.kept hg1 hgl
        clear hc1 hg1 HC7 hG hR
        cases b1
        · skip
          by_cases hq0 : p = 0
          · exact absurd hq0 (by omega)
          · have hq1 : (0 : Int) < ((p : Nat) : Int) := by omega
            have hqn : 0 < p := by omega
            clear hq0
            go_wp2_with fail
            refine (one_c g ao n c (M + 122) 12 _ (by omega) (by omega) C5.out).mono ?_
            rintro e x1 ⟨b2, rfl, hc1, hg1⟩
            have D1 : Hid (Cur x1 g ao n c (M + 122 + 2)) := hc1
            have E1 : Hid (GB g w x1) := G5.out.trans hg1
            have F1 : Hid (RowP x1 w.heap.size a3 p c3 l) := R5.out.kept hg1 hgl
            clear hc1 hg1 C5 G5 R5
            cases b2
            · go_wp2
              go_ret
              exact ⟨_, _, _, l, rfl, by omega, F1.out, D1.out.mono (by omega), E1.out⟩
            · skip
              have hlit := lit_cells (fun _ => True) x1 #[.int .i64 0, .int .i64 2, .int .i64 1498, .int .i64 1499] 3 4 rfl ⟨trivial, trivial, trivial, trivial, trivial⟩
              have hgd : g < x1.heap.size := D1.out.lt
              go_wp2_with fail
              refine (among_p (fun _ => True) g ao n c _ x1.heap.size 4 _ (by omega) (by omega) hlit (by omega) (D1.out.alloc _)).mono ?_
              rintro e x2 ⟨zx, rfl, _, hc1, hg1⟩
              have D2 : Hid (Cur x2 g ao n c (M + 122 + 4)) := hc1.mono (by omega)
              have E2 : Hid (GB g w x2) := (E1.out.alloc _).trans hg1
              have F2 : Hid (RowP x2 w.heap.size a3 p c3 l) := (F1.out.later (balloc _ _)).kept hg1 hgl
              clear hc1 hg1 D1 E1 F1 hlit hgd
              have hlit := lit_cells (fun _ => True) x2 #[.int .i64 0, .int .i64 1498, .int .i64 1499] 3 3 rfl ⟨trivial, trivial, trivial, trivial⟩
              have hgd : g < x2.heap.size := D2.out.lt
              go_wp2_with fail
              refine (among_p (fun _ => True) g ao n c _ x2.heap.size 3 _ (by omega) (by omega) hlit (by omega) (D2.out.alloc _)).mono ?_
              rintro e x3 ⟨zy, rfl, _, hc1, hg1⟩
              have D3 : Hid (Cur x3 g ao n c (M + 122 + 6)) := hc1.mono (by omega)
              have E3 : Hid (GB g w x3) := (E2.out.alloc _).trans hg1
              have F3 : RowP x3 w.heap.size a3 p c3 l := (F2.out.later (balloc _ _)).kept hg1 hgl
              clear hc1 hg1 D2 E2 F2 hlit hgd
              obtain ⟨gg, off, hao, hgb, hgs, hcells⟩ := F3.at (by omega)
              subst hao
              obtain ⟨⟨d1, d2⟩, d3, d4⟩ := hcells 0 hqn
              have F4 := F3.set 0 hqn zx zy
              rw [Nat.zero_mul, Nat.add_zero] at d1 d2 d3 d4 F4
              have HF : Hid ((∃ l', RowP ((x3.setCell ⟨gg, off, none⟩ (.int .i64 zx)).setCell ⟨gg, off + 1, none⟩ (.int .i64 zy)) w.heap.size (some ⟨gg, off, none⟩) p c3 l') ∧ Cur ((x3.setCell ⟨gg, off, none⟩ (.int .i64 zx)).setCell ⟨gg, off + 1, none⟩ (.int .i64 zy)) g ao n c (M + 122 + 6) ∧ GB g w ((x3.setCell ⟨gg, off, none⟩ (.int .i64 zx)).setCell ⟨gg, off + 1, none⟩ (.int .i64 zy))) := ⟨⟨_, F4⟩, D3.out.grown (B := w.heap.size) (set2_grown x3 gg _ _ _ _) (fun k hk => by simp at hk; omega) hgl HOld.out, E3.out.grown (set2_grown x3 gg _ _ _ _) (fun k hk => by simp at hk; omega)⟩
              generalize (l.getD 0 (0, 0)).1 = t1 at d1
              generalize (l.getD 0 (0, 0)).2 = t2 at d2
              clear hcells F3 F4 D3 E3
              go_wp2
              go_ret
              obtain ⟨⟨l', h1⟩, h2, h3⟩ := HF.out
              exact ⟨_, _, _, l', rfl, by omega, h1, h2.mono (by omega), h3⟩
        · obtain ⟨q, rfl⟩ : ∃ q, p = q + 1 := ⟨p - 1, by omega⟩
          obtain ⟨g0, off0, rfl, _, _, _⟩ := R5.out.at (by omega)
          obtain ⟨A, hA, hRA⟩ := R5.out.tail
          have R6 : Hid (RowP w5 w.heap.size (some ⟨g0, A, none⟩) q (c3 - 1) l.tail) := hRA
          have s1 : (1 : Int) ≤ ((q + 1 : Nat) : Int) := by omega
          have s2 : ((q + 1 : Nat) : Int) ≤ (c3 : Int) := by omega
          clear hRA R5
          by_cases hq0 : q = 0
          · exact absurd hq0 (by omega)
          · have hq1 : (0 : Int) < ((q : Nat) : Int) := by omega
            have hqn : 0 < q := by omega
            clear hq0
            go_wp2_with fail
            refine (one_c g ao n c (M + 122) 12 _ (by omega) (by omega) C5.out).mono ?_
            rintro e x1 ⟨b2, rfl, hc1, hg1⟩
            have D1 : Hid (Cur x1 g ao n c (M + 122 + 2)) := hc1
            have E1 : Hid (GB g w x1) := G5.out.trans hg1
            have F1 : Hid (RowP x1 w.heap.size (some ⟨g0, A, none⟩) q (c3 - 1) l.tail) := R6.out.kept hg1 hgl
            clear hc1 hg1 C5 G5 R6
            cases b2
            · go_wp2
              go_ret
              exact ⟨_, _, _, l.tail, rfl, by omega, F1.out, D1.out.mono (by omega), E1.out⟩
            · skip
              have hlit := lit_cells (fun _ => True) x1 #[.int .i64 0, .int .i64 2, .int .i64 1498, .int .i64 1499] 3 4 rfl ⟨trivial, trivial, trivial, trivial, trivial⟩
              have hgd : g < x1.heap.size := D1.out.lt
              go_wp2_with fail
              refine (among_p (fun _ => True) g ao n c _ x1.heap.size 4 _ (by omega) (by omega) hlit (by omega) (D1.out.alloc _)).mono ?_
              rintro e x2 ⟨zx, rfl, _, hc1, hg1⟩
              have D2 : Hid (Cur x2 g ao n c (M + 122 + 4)) := hc1.mono (by omega)
              have E2 : Hid (GB g w x2) := (E1.out.alloc _).trans hg1
              have F2 : Hid (RowP x2 w.heap.size (some ⟨g0, A, none⟩) q (c3 - 1) l.tail) := (F1.out.later (balloc _ _)).kept hg1 hgl
              clear hc1 hg1 D1 E1 F1 hlit hgd
              have hlit := lit_cells (fun _ => True) x2 #[.int .i64 0, .int .i64 1498, .int .i64 1499] 3 3 rfl ⟨trivial, trivial, trivial, trivial⟩
              have hgd : g < x2.heap.size := D2.out.lt
              go_wp2_with fail
              refine (among_p (fun _ => True) g ao n c _ x2.heap.size 3 _ (by omega) (by omega) hlit (by omega) (D2.out.alloc _)).mono ?_
              rintro e x3 ⟨zy, rfl, _, hc1, hg1⟩
              have D3 : Hid (Cur x3 g ao n c (M + 122 + 6)) := hc1.mono (by omega)
              have E3 : Hid (GB g w x3) := (E2.out.alloc _).trans hg1
              have F3 : RowP x3 w.heap.size (some ⟨g0, A, none⟩) q (c3 - 1) l.tail := (F2.out.later (balloc _ _)).kept hg1 hgl
              clear hc1 hg1 D2 E2 F2 hlit hgd
              obtain ⟨gg, off, hao, hgb, hgs, hcells⟩ := F3.at (by omega)
              cases hao
              obtain ⟨⟨d1, d2⟩, d3, d4⟩ := hcells 0 hqn
              have F4 := F3.set 0 hqn zx zy
              rw [Nat.zero_mul, Nat.add_zero] at d1 d2 d3 d4 F4
              have HF : Hid ((∃ l', RowP ((x3.setCell ⟨g0, A, none⟩ (.int .i64 zx)).setCell ⟨g0, A + 1, none⟩ (.int .i64 zy)) w.heap.size (some ⟨g0, A, none⟩) q (c3 - 1) l') ∧ Cur ((x3.setCell ⟨g0, A, none⟩ (.int .i64 zx)).setCell ⟨g0, A + 1, none⟩ (.int .i64 zy)) g ao n c (M + 122 + 6) ∧ GB g w ((x3.setCell ⟨g0, A, none⟩ (.int .i64 zx)).setCell ⟨g0, A + 1, none⟩ (.int .i64 zy))) := ⟨⟨_, F4⟩, D3.out.grown (B := w.heap.size) (set2_grown x3 g0 _ _ _ _) (fun k hk => by simp at hk; omega) hgl HOld.out, E3.out.grown (set2_grown x3 g0 _ _ _ _) (fun k hk => by simp at hk; omega)⟩
              generalize (l.tail.getD 0 (0, 0)).1 = t1 at d1
              generalize (l.tail.getD 0 (0, 0)).2 = t2 at d2
              clear hcells F3 F4 D3 E3
              go_wp2
              go_ret
              obtain ⟨⟨l', h1⟩, h2, h3⟩ := HF.out
              exact ⟨_, _, _, l', rfl, by omega, h1, h2.mono (by omega), h3⟩
      · have p1 : ¬ (1 : Int) < (p : Int) := by omega
        by_cases hk0 : 0 < k
        · have k1 : (0 : Int) < (k : Int) := by omega
          by_cases hq0 : p = 0
          · have hq1 : ¬ (0 : Int) < ((p : Nat) : Int) := by omega
            clear hq0
            go_wp2
            go_ret
            exact ⟨_, _, _, l, rfl, by omega, hR.out, HC7.out.mono (by omega), hG.out⟩
          · have hq1 : (0 : Int) < ((p : Nat) : Int) := by omega
            have hqn : 0 < p := by omega
            clear hq0
            go_wp2_with fail
            refine (one_c g ao n c (M + 120) 12 _ (by omega) (by omega) HC7.out).mono ?_
            rintro e x1 ⟨b2, rfl, hc1, hg1⟩
            have D1 : Hid (Cur x1 g ao n c (M + 120 + 2)) := hc1
            have E1 : Hid (GB g w x1) := hG.out.trans hg1
            have F1 : Hid (RowP x1 w.heap.size a3 p c3 l) := hR.out.kept hg1 hgl
            clear hc1 hg1 HC7 hG hR
            cases b2
            · go_wp2
              go_ret
              exact ⟨_, _, _, l, rfl, by omega, F1.out, D1.out.mono (by omega), E1.out⟩
            · skip
              have hlit := lit_cells (fun _ => True) x1 #[.int .i64 0, .int .i64 2, .int .i64 1498, .int .i64 1499] 3 4 rfl ⟨trivial, trivial, trivial, trivial, trivial⟩
              have hgd : g < x1.heap.size := D1.out.lt
              go_wp2_with fail
              refine (among_p (fun _ => True) g ao n c _ x1.heap.size 4 _ (by omega) (by omega) hlit (by omega) (D1.out.alloc _)).mono ?_
              rintro e x2 ⟨zx, rfl, _, hc1, hg1⟩
              have D2 : Hid (Cur x2 g ao n c (M + 120 + 4)) := hc1.mono (by omega)
              have E2 : Hid (GB g w x2) := (E1.out.alloc _).trans hg1
              have F2 : Hid (RowP x2 w.heap.size a3 p c3 l) := (F1.out.later (balloc _ _)).kept hg1 hgl
              clear hc1 hg1 D1 E1 F1 hlit hgd
              have hlit := lit_cells (fun _ => True) x2 #[.int .i64 0, .int .i64 1498, .int .i64 1499] 3 3 rfl ⟨trivial, trivial, trivial, trivial⟩
              have hgd : g < x2.heap.size := D2.out.lt
              go_wp2_with fail
              refine (among_p (fun _ => True) g ao n c _ x2.heap.size 3 _ (by omega) (by omega) hlit (by omega) (D2.out.alloc _)).mono ?_
              rintro e x3 ⟨zy, rfl, _, hc1, hg1⟩
              have D3 : Hid (Cur x3 g ao n c (M + 120 + 6)) := hc1.mono (by omega)
              have E3 : Hid (GB g w x3) := (E2.out.alloc _).trans hg1
              have F3 : RowP x3 w.heap.size a3 p c3 l := (F2.out.later (balloc _ _)).kept hg1 hgl
              clear hc1 hg1 D2 E2 F2 hlit hgd
              obtain ⟨gg, off, hao, hgb, hgs, hcells⟩ := F3.at (by omega)
              subst hao
              obtain ⟨⟨d1, d2⟩, d3, d4⟩ := hcells 0 hqn
              have F4 := F3.set 0 hqn zx zy
              rw [Nat.zero_mul, Nat.add_zero] at d1 d2 d3 d4 F4
              have HF : Hid ((∃ l', RowP ((x3.setCell ⟨gg, off, none⟩ (.int .i64 zx)).setCell ⟨gg, off + 1, none⟩ (.int .i64 zy)) w.heap.size (some ⟨gg, off, none⟩) p c3 l') ∧ Cur ((x3.setCell ⟨gg, off, none⟩ (.int .i64 zx)).setCell ⟨gg, off + 1, none⟩ (.int .i64 zy)) g ao n c (M + 120 + 6) ∧ GB g w ((x3.setCell ⟨gg, off, none⟩ (.int .i64 zx)).setCell ⟨gg, off + 1, none⟩ (.int .i64 zy))) := ⟨⟨_, F4⟩, D3.out.grown (B := w.heap.size) (set2_grown x3 gg _ _ _ _) (fun k hk => by simp at hk; omega) hgl HOld.out, E3.out.grown (set2_grown x3 gg _ _ _ _) (fun k hk => by simp at hk; omega)⟩
              generalize (l.getD 0 (0, 0)).1 = t1 at d1
              generalize (l.getD 0 (0, 0)).2 = t2 at d2
              clear hcells F3 F4 D3 E3
              go_wp2
              go_ret
              obtain ⟨⟨l', h1⟩, h2, h3⟩ := HF.out
              exact ⟨_, _, _, l', rfl, by omega, h1, h2.mono (by omega), h3⟩
        · have k1 : ¬ (0 : Int) < (k : Int) := by omega
          by_cases hq0 : p = 0
          · have hq1 : ¬ (0 : Int) < ((p : Nat) : Int) := by omega
            clear hq0
            go_wp2
            go_ret
            exact ⟨_, _, _, l, rfl, by omega, hR.out, HC7.out.mono (by omega), hG.out⟩
          · have hq1 : (0 : Int) < ((p : Nat) : Int) := by omega
            have hqn : 0 < p := by omega
            clear hq0
            go_wp2_with fail
            refine (one_c g ao n c (M + 120) 12 _ (by omega) (by omega) HC7.out).mono ?_
            rintro e x1 ⟨b2, rfl, hc1, hg1⟩
            have D1 : Hid (Cur x1 g ao n c (M + 120 + 2)) := hc1
            have E1 : Hid (GB g w x1) := hG.out.trans hg1
            have F1 : Hid (RowP x1 w.heap.size a3 p c3 l) := hR.out.kept hg1 hgl
            clear hc1 hg1 HC7 hG hR
            cases b2
            · go_wp2
              go_ret
              exact ⟨_, _, _, l, rfl, by omega, F1.out, D1.out.mono (by omega), E1.out⟩
            · skip
              have hlit := lit_cells (fun _ => True) x1 #[.int .i64 0, .int .i64 2, .int .i64 1498, .int .i64 1499] 3 4 rfl ⟨trivial, trivial, trivial, trivial, trivial⟩
              have hgd : g < x1.heap.size := D1.out.lt
              go_wp2_with fail
              refine (among_p (fun _ => True) g ao n c _ x1.heap.size 4 _ (by omega) (by omega) hlit (by omega) (D1.out.alloc _)).mono ?_
              rintro e x2 ⟨zx, rfl, _, hc1, hg1⟩
              have D2 : Hid (Cur x2 g ao n c (M + 120 + 4)) := hc1.mono (by omega)
              have E2 : Hid (GB g w x2) := (E1.out.alloc _).trans hg1
              have F2 : Hid (RowP x2 w.heap.size a3 p c3 l) := (F1.out.later (balloc _ _)).kept hg1 hgl
              clear hc1 hg1 D1 E1 F1 hlit hgd
              have hlit := lit_cells (fun _ => True) x2 #[.int .i64 0, .int .i64 1498, .int .i64 1499] 3 3 rfl ⟨trivial, trivial, trivial, trivial⟩
              have hgd : g < x2.heap.size := D2.out.lt
              go_wp2_with fail
              refine (among_p (fun _ => True) g ao n c _ x2.heap.size 3 _ (by omega) (by omega) hlit (by omega) (D2.out.alloc _)).mono ?_
              rintro e x3 ⟨zy, rfl, _, hc1, hg1⟩
              have D3 : Hid (Cur x3 g ao n c (M + 120 + 6)) := hc1.mono (by omega)
              have E3 : Hid (GB g w x3) := (E2.out.alloc _).trans hg1
              have F3 : RowP x3 w.heap.size a3 p c3 l := (F2.out.later (balloc _ _)).kept hg1 hgl
              clear hc1 hg1 D2 E2 F2 hlit hgd
              obtain ⟨gg, off, hao, hgb, hgs, hcells⟩ := F3.at (by omega)
              subst hao
              obtain ⟨⟨d1, d2⟩, d3, d4⟩ := hcells 0 hqn
              have F4 := F3.set 0 hqn zx zy
              rw [Nat.zero_mul, Nat.add_zero] at d1 d2 d3 d4 F4
              have HF : Hid ((∃ l', RowP ((x3.setCell ⟨gg, off, none⟩ (.int .i64 zx)).setCell ⟨gg, off + 1, none⟩ (.int .i64 zy)) w.heap.size (some ⟨gg, off, none⟩) p c3 l') ∧ Cur ((x3.setCell ⟨gg, off, none⟩ (.int .i64 zx)).setCell ⟨gg, off + 1, none⟩ (.int .i64 zy)) g ao n c (M + 120 + 6) ∧ GB g w ((x3.setCell ⟨gg, off, none⟩ (.int .i64 zx)).setCell ⟨gg, off + 1, none⟩ (.int .i64 zy))) := ⟨⟨_, F4⟩, D3.out.grown (B := w.heap.size) (set2_grown x3 gg _ _ _ _) (fun k hk => by simp at hk; omega) hgl HOld.out, E3.out.grown (set2_grown x3 gg _ _ _ _) (fun k hk => by simp at hk; omega)⟩
              generalize (l.getD 0 (0, 0)).1 = t1 at d1
              generalize (l.getD 0 (0, 0)).2 = t2 at d2
              clear hcells F3 F4 D3 E3
              go_wp2
              go_ret
              obtain ⟨⟨l', h1⟩, h2, h3⟩ := HF.out
              exact ⟨_, _, _, l', rfl, by omega, h1, h2.mono (by omega), h3⟩

end Go.Proofs.Ytamppekadobagaa
