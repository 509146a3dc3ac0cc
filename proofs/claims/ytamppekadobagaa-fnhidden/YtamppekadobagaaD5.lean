/- What chapter 5 draws: a polynomial. -/
import Derived.Test.YtamppekadobagaaD3G
import Derived.Test.YtamppekadobagaaPL5
namespace Go.Proofs.Ytamppekadobagaa
set_option linter.unusedVariables false
set_option linter.unusedSimpArgs false
open Go.RowKit

def DrawnPo (g : Nat) (ao : Option Addr) (n c : Nat) (M : Int) (w : World) (e : Ending) (w' : World) : Prop := ∃ a' q c' zs, e = .returned (.slice a' q c') ∧ q ≤ 9 ∧ zs.length = q ∧ Own w' w.heap.size (.slice a' q c') zs ∧ Cur w' g ao n c (M + 100) ∧ GB g w w'

set_option maxHeartbeats 2000000 in
set_option maxRecDepth 1000000 in
theorem poly_c (g : Nat) (ao : Option Addr) (n c : Nat) (M : Int) (w : World) (hM : M ≤ 1000000) (h : Cur w g ao n c M) :
    Calls Try.prog 50 #[.pointer (some ⟨g, 0, none⟩)] w (DrawnPo g ao n c M w) := by
  obtain ⟨i0, hi, hz0, hz1, hz2⟩ := info_parts Try.infoInt
  have HC : Hid (Cur w g ao n c M) := h
  have HOld : Hid (Old ao n w.heap.size) := h.code.old
  have hgl : g < w.heap.size := h.lt
  clear h
  go_enter Try.func50, Try.ntmps50
  go_wp2_with fail
  refine (pick_c g ao n c M 5 _ (by omega) (by omega) HC.out).mono ?_
  rintro e w1 ⟨z, rfl, hz0', hz1', hc1, hg1⟩
  have HC1 : Hid (Cur w1 g ao n c (M + 2)) := hc1
  have HG1 : Hid (GB g w w1) := hg1
  clear hc1 hg1 HC
  go_wp2_with fail
  refine (one_c g ao n c (M + 2) 20 _ (by omega) (by omega) HC1.out).mono ?_
  rintro e w2 ⟨b1, rfl, hc1, hg1⟩
  have HC2 : Hid (Cur w2 g ao n c (M + 4)) := hc1.mono (by omega)
  have HG2 : Hid (GB g w w2) := HG1.out.trans hg1
  clear hc1 hg1 HC1 HG1
  cases b1
  · obtain ⟨k0, hk0⟩ : ∃ k0 : Nat, 1 + z = (k0 : Int) := ⟨(1 + z).toNat, by omega⟩
    go_wp2
    go_loopw [3, 4] (fun v i wr => ∃ (k : Nat) (zs : List Int), i = .int .i64 k ∧ zs.length + k ≤ 9 ∧ Hid (Own wr w.heap.size v zs) ∧ Hid (Cur wr g ao n c (M + 6 + 4 * zs.length)) ∧ Hid (GB g w wr)) (fun _ i _ => (intOf i).toNat)
    case atStart => exact ⟨k0, [], by first | rfl | go_num, by simp; omega, World.ownsRow_nil _ _ _ _, HC2.out.mono (by simp; try omega), HG2⟩
    case round =>
      clear HC2 HG2
      obtain ⟨k, zs, rfl, hk, hO, hC, hG⟩ := hrel
      by_cases hlt : 0 < k
      · have k1 : (0 : Int) < (k : Int) := by omega
        go_wp2_with fail
        refine (pick_c g ao n c (M + 6 + 4 * zs.length) 250 _ (by omega) (by omega) hC.out).mono ?_
        rintro e wa ⟨x, rfl, hx0, hx1, hc1, hg1⟩
        have hCx : Hid (Cur wa g ao n c (M + 6 + 4 * zs.length + 2)) := hc1
        have hGx : Hid (GB g w wa) := hG.out.trans hg1
        have hOx : Hid (Own wa w.heap.size u3 zs) := hO.out.kept hg1 (sep_own hO.out hgl)
        clear hc1 hg1 hC hG hO
        go_wp2_with fail
        refine (pick_c g ao n c (M + 6 + 4 * zs.length + 2) 5 _ (by omega) (by omega) hCx.out).mono ?_
        rintro e wb ⟨y, rfl, hy0, hy1, hc1, hg1⟩
        have hCxx : Hid (Cur wb g ao n c (M + 6 + 4 * zs.length + 2 + 2)) := hc1
        have hGxx : Hid (GB g w wb) := hGx.out.trans hg1
        have hOxx : Hid (Own wb w.heap.size u3 zs) := hOx.out.kept hg1 (sep_own hOx.out hgl)
        clear hc1 hg1 hCx hGx hOx
        obtain ⟨p, hp⟩ : ∃ p, zs.length = p := ⟨_, rfl⟩
        have hown : wb.ownsRow w.heap.size 3 1 u3 p (cellsI zs) := by have h := hOxx.out; unfold Own at h; rw [hp] at h; exact h
        have hob : ∀ k', u3.ownBlock = some k' → w.heap.size ≤ k' := own_block_ge hOxx.out
        have hws : w.heap.size ≤ wb.heap.size := hGxx.out.size
        have hone : ∀ u ∈ [Value.int .i64 (x * 5 + y)], u.oneCell' = true := ints_oneCell _ [x * 5 + y]
        have HP : Hid (zs.length = p) := hp
        have hp5 : p + k ≤ 9 := by omega
        clear hp hk
        go_wp2_with (at_builtin; refine wpList_append_own _ rfl _ _ 23 rfl w.heap.size 3 i0 (.int .i64 0) 1 8 Try.underlying23 hi hz0 hz1 hz2 rfl (by decide) _ _ _ rfl (hown.alloc _) ⟨wb.heap.size, 0, none⟩ 1 1 [.int .i64 (x * 5 + y)] rfl rfl (cell_new1 _ _ _) hone (by unfold maxLen; omega) (by omega) (by simp; omega) ?_; intro v' w9 hown' hgrow _; have HO2 : Hid (Own w9 w.heap.size v' (zs ++ [x * 5 + y])) := own_push (w := wb) (v := u3) (by simpa [HP.out] using hown'); have HC2 : Hid (Cur w9 g ao n c (M + 6 + 4 * zs.length + 2 + 2)) := (hCxx.out.alloc _).grown hgrow hob hgl HOld.out; have HG2 : Hid (GB g w w9) := (hGxx.out.alloc _).grown hgrow hob; clear hown' hgrow hown hob)
        go_roundw
        case rel => exact ⟨k - 1, zs ++ [x * 5 + y], by go_num, by rw [List.length_append, HP.out]; simp; omega, HO2, HC2.out.mono (by rw [List.length_append]; simp; omega), HG2⟩
        case measure => simp [intOf]; omega
      · have k1 : (k : Int) ≤ 0 := by omega
        obtain ⟨a1, c1, hv⟩ := hO.out.shape
        obtain ⟨p, hp⟩ : ∃ p, zs.length = p := ⟨_, rfl⟩
        rw [hp] at hv
        subst hv
        have hp9 : p ≤ 9 := by omega
        have HC0 : Hid (Cur wr g ao n c (M + 42)) := hC.out.mono (by omega)
        have HP : Hid (zs.length = p) := hp
        clear hp hk hC
        by_cases hq0 : p = 0
        · have hq1 : ¬ (0 : Int) < (p : Int) := by omega
          clear hq0
          go_wp2
          go_ret
          exact ⟨_, _, _, zs, rfl, by omega, HP.out, hO.out, HC0.out.mono (by omega), hG.out⟩
        · have hq1 : (0 : Int) < (p : Int) := by omega
          obtain ⟨gg, hgg, hgb⟩ := own_some hO.out (by omega)
          subst hgg
          clear hq0
          go_wp2_with fail
          refine (one_c g ao n c (M + 42) 30 _ (by omega) (by omega) HC0.out).mono ?_
          rintro e wd ⟨b2, rfl, hc1, hg1⟩
          have C3 : Hid (Cur wd g ao n c (M + 42 + 2)) := hc1
          have G3 : Hid (GB g w wd) := hG.out.trans hg1
          have O3 : Hid (Own wd w.heap.size (.slice (some ⟨gg, 0, none⟩) p c1) zs) := hO.out.kept hg1 (sep_own hO.out hgl)
          clear hc1 hg1 HC0 hG hO
          cases b2
          · go_wp2
            go_ret
            exact ⟨_, _, _, zs, rfl, by omega, HP.out, O3.out, C3.out.mono (by omega), G3.out⟩
          · skip
            have hlit := lit_cells (fun _ => True) wd #[.int .i64 (-1), .int .i64 1498, .int .i64 1499] 3 3 rfl ⟨trivial, trivial, trivial, trivial⟩
            have hgd : g < wd.heap.size := C3.out.lt
            go_wp2_with fail
            refine (among_p (fun _ => True) g ao n c _ wd.heap.size 3 _ (by omega) (by omega) hlit (by omega) (C3.out.alloc _)).mono ?_
            rintro e we ⟨zz, rfl, _, hc1, hg1⟩
            have C4 : Hid (Cur we g ao n c (M + 42 + 2 + 2)) := hc1
            have G4 : Hid (GB g w we) := (G3.out.alloc _).trans hg1
            have O4 : Hid (Own we w.heap.size (.slice (some ⟨gg, 0, none⟩) p c1) zs) := (O3.out.later (balloc _ _)).kept hg1 (sep_own (O3.out.later (balloc wd (.cells #[.int .i64 (-1), .int .i64 1498, .int .i64 1499] 3))) hgl)
            clear hc1 hg1 C3 G3 O3 hlit
            have gc : we.cell? ⟨gg, 0, none⟩ = some (.int .i64 (zs.getD 0 0)) := by
              have h := O4.out
              rw [← HP.out] at h
              exact h.cell 0 (by rw [HP.out]; omega)
            have gf : we.frozen? ⟨gg, 0, none⟩ = false := by
              have h := O4.out
              rw [← HP.out] at h
              exact h.free 0
            have O5 : Hid (Own (we.setCell ⟨gg, 0, none⟩ (.int .i64 zz)) w.heap.size (.slice (some ⟨gg, 0, none⟩) p c1) (zs.set 0 zz)) := own_set O4.out 0 zz
            have hgr : we.grownBy (we.setCell ⟨gg, 0, none⟩ (.int .i64 zz)) (some gg) := (GB.refl gg we).setCell _ _
            have C5 : Hid (Cur (we.setCell ⟨gg, 0, none⟩ (.int .i64 zz)) g ao n c (M + 42 + 2 + 2)) := C4.out.grown (B := w.heap.size) hgr (fun k hk => by simp at hk; omega) hgl HOld.out
            have G5 : Hid (GB g w (we.setCell ⟨gg, 0, none⟩ (.int .i64 zz))) := G4.out.grown hgr (fun k hk => by simp at hk; omega)
            clear hgr C4 G4 O4
            generalize zs.getD 0 0 = y0 at gc
            go_wp2
            go_ret
            exact ⟨_, _, _, zs.set 0 zz, rfl, by omega, by rw [List.length_set]; exact HP.out, O5.out, C5.out.mono (by omega), G5.out⟩
  · skip
    have hlit := lit_cells (fun v => 0 ≤ v ∧ v ≤ 9) w2 #[.int .i64 0, .int .i64 8, .int .i64 9] 3 3 rfl ⟨by omega, by omega, by omega, trivial⟩
    have hgd : g < w2.heap.size := HC2.out.lt
    go_wp2_with fail
    refine (among_p (fun v => 0 ≤ v ∧ v ≤ 9) g ao n c _ w2.heap.size 3 _ (by omega) (by omega) hlit (by omega) (HC2.out.alloc _)).mono ?_
    rintro e w3 ⟨z2, rfl, hz2', hc1, hg1⟩
    have HC3 : Hid (Cur w3 g ao n c (M + 6)) := hc1.mono (by omega)
    have HG3 : Hid (GB g w w3) := (HG2.out.alloc _).trans hg1
    clear hc1 hg1 HC2 HG2 hlit
    obtain ⟨k0, rfl⟩ : ∃ k0 : Nat, z2 = (k0 : Int) := ⟨z2.toNat, by omega⟩
    go_wp2
    go_loopw [3, 4] (fun v i wr => ∃ (k : Nat) (zs : List Int), i = .int .i64 k ∧ zs.length + k ≤ 9 ∧ Hid (Own wr w.heap.size v zs) ∧ Hid (Cur wr g ao n c (M + 6 + 4 * zs.length)) ∧ Hid (GB g w wr)) (fun _ i _ => (intOf i).toNat)
    case atStart => exact ⟨k0, [], by first | rfl | go_num, by simp; omega, World.ownsRow_nil _ _ _ _, HC3.out.mono (by simp; try omega), HG3⟩
    case round =>
      clear HC3 HG3
      obtain ⟨k, zs, rfl, hk, hO, hC, hG⟩ := hrel
      by_cases hlt : 0 < k
      · have k1 : (0 : Int) < (k : Int) := by omega
        go_wp2_with fail
        refine (pick_c g ao n c (M + 6 + 4 * zs.length) 250 _ (by omega) (by omega) hC.out).mono ?_
        rintro e wa ⟨x, rfl, hx0, hx1, hc1, hg1⟩
        have hCx : Hid (Cur wa g ao n c (M + 6 + 4 * zs.length + 2)) := hc1
        have hGx : Hid (GB g w wa) := hG.out.trans hg1
        have hOx : Hid (Own wa w.heap.size u3 zs) := hO.out.kept hg1 (sep_own hO.out hgl)
        clear hc1 hg1 hC hG hO
        go_wp2_with fail
        refine (pick_c g ao n c (M + 6 + 4 * zs.length + 2) 5 _ (by omega) (by omega) hCx.out).mono ?_
        rintro e wb ⟨y, rfl, hy0, hy1, hc1, hg1⟩
        have hCxx : Hid (Cur wb g ao n c (M + 6 + 4 * zs.length + 2 + 2)) := hc1
        have hGxx : Hid (GB g w wb) := hGx.out.trans hg1
        have hOxx : Hid (Own wb w.heap.size u3 zs) := hOx.out.kept hg1 (sep_own hOx.out hgl)
        clear hc1 hg1 hCx hGx hOx
        obtain ⟨p, hp⟩ : ∃ p, zs.length = p := ⟨_, rfl⟩
        have hown : wb.ownsRow w.heap.size 3 1 u3 p (cellsI zs) := by have h := hOxx.out; unfold Own at h; rw [hp] at h; exact h
        have hob : ∀ k', u3.ownBlock = some k' → w.heap.size ≤ k' := own_block_ge hOxx.out
        have hws : w.heap.size ≤ wb.heap.size := hGxx.out.size
        have hone : ∀ u ∈ [Value.int .i64 (x * 5 + y)], u.oneCell' = true := ints_oneCell _ [x * 5 + y]
        have HP : Hid (zs.length = p) := hp
        have hp5 : p + k ≤ 9 := by omega
        clear hp hk
        go_wp2_with (at_builtin; refine wpList_append_own _ rfl _ _ 23 rfl w.heap.size 3 i0 (.int .i64 0) 1 8 Try.underlying23 hi hz0 hz1 hz2 rfl (by decide) _ _ _ rfl (hown.alloc _) ⟨wb.heap.size, 0, none⟩ 1 1 [.int .i64 (x * 5 + y)] rfl rfl (cell_new1 _ _ _) hone (by unfold maxLen; omega) (by omega) (by simp; omega) ?_; intro v' w9 hown' hgrow _; have HO2 : Hid (Own w9 w.heap.size v' (zs ++ [x * 5 + y])) := own_push (w := wb) (v := u3) (by simpa [HP.out] using hown'); have HC2 : Hid (Cur w9 g ao n c (M + 6 + 4 * zs.length + 2 + 2)) := (hCxx.out.alloc _).grown hgrow hob hgl HOld.out; have HG2 : Hid (GB g w w9) := (hGxx.out.alloc _).grown hgrow hob; clear hown' hgrow hown hob)
        go_roundw
        case rel => exact ⟨k - 1, zs ++ [x * 5 + y], by go_num, by rw [List.length_append, HP.out]; simp; omega, HO2, HC2.out.mono (by rw [List.length_append]; simp; omega), HG2⟩
        case measure => simp [intOf]; omega
      · have k1 : (k : Int) ≤ 0 := by omega
        obtain ⟨a1, c1, hv⟩ := hO.out.shape
        obtain ⟨p, hp⟩ : ∃ p, zs.length = p := ⟨_, rfl⟩
        rw [hp] at hv
        subst hv
        have hp9 : p ≤ 9 := by omega
        have HC0 : Hid (Cur wr g ao n c (M + 42)) := hC.out.mono (by omega)
        have HP : Hid (zs.length = p) := hp
        clear hp hk hC
        by_cases hq0 : p = 0
        · have hq1 : ¬ (0 : Int) < (p : Int) := by omega
          clear hq0
          go_wp2
          go_ret
          exact ⟨_, _, _, zs, rfl, by omega, HP.out, hO.out, HC0.out.mono (by omega), hG.out⟩
        · have hq1 : (0 : Int) < (p : Int) := by omega
          obtain ⟨gg, hgg, hgb⟩ := own_some hO.out (by omega)
          subst hgg
          clear hq0
          go_wp2_with fail
          refine (one_c g ao n c (M + 42) 30 _ (by omega) (by omega) HC0.out).mono ?_
          rintro e wd ⟨b2, rfl, hc1, hg1⟩
          have C3 : Hid (Cur wd g ao n c (M + 42 + 2)) := hc1
          have G3 : Hid (GB g w wd) := hG.out.trans hg1
          have O3 : Hid (Own wd w.heap.size (.slice (some ⟨gg, 0, none⟩) p c1) zs) := hO.out.kept hg1 (sep_own hO.out hgl)
          clear hc1 hg1 HC0 hG hO
          cases b2
          · go_wp2
            go_ret
            exact ⟨_, _, _, zs, rfl, by omega, HP.out, O3.out, C3.out.mono (by omega), G3.out⟩
          · skip
            have hlit := lit_cells (fun _ => True) wd #[.int .i64 (-1), .int .i64 1498, .int .i64 1499] 3 3 rfl ⟨trivial, trivial, trivial, trivial⟩
            have hgd : g < wd.heap.size := C3.out.lt
            go_wp2_with fail
            refine (among_p (fun _ => True) g ao n c _ wd.heap.size 3 _ (by omega) (by omega) hlit (by omega) (C3.out.alloc _)).mono ?_
            rintro e we ⟨zz, rfl, _, hc1, hg1⟩
            have C4 : Hid (Cur we g ao n c (M + 42 + 2 + 2)) := hc1
            have G4 : Hid (GB g w we) := (G3.out.alloc _).trans hg1
            have O4 : Hid (Own we w.heap.size (.slice (some ⟨gg, 0, none⟩) p c1) zs) := (O3.out.later (balloc _ _)).kept hg1 (sep_own (O3.out.later (balloc wd (.cells #[.int .i64 (-1), .int .i64 1498, .int .i64 1499] 3))) hgl)
            clear hc1 hg1 C3 G3 O3 hlit
            have gc : we.cell? ⟨gg, 0, none⟩ = some (.int .i64 (zs.getD 0 0)) := by
              have h := O4.out
              rw [← HP.out] at h
              exact h.cell 0 (by rw [HP.out]; omega)
            have gf : we.frozen? ⟨gg, 0, none⟩ = false := by
              have h := O4.out
              rw [← HP.out] at h
              exact h.free 0
            have O5 : Hid (Own (we.setCell ⟨gg, 0, none⟩ (.int .i64 zz)) w.heap.size (.slice (some ⟨gg, 0, none⟩) p c1) (zs.set 0 zz)) := own_set O4.out 0 zz
            have hgr : we.grownBy (we.setCell ⟨gg, 0, none⟩ (.int .i64 zz)) (some gg) := (GB.refl gg we).setCell _ _
            have C5 : Hid (Cur (we.setCell ⟨gg, 0, none⟩ (.int .i64 zz)) g ao n c (M + 42 + 2 + 2)) := C4.out.grown (B := w.heap.size) hgr (fun k hk => by simp at hk; omega) hgl HOld.out
            have G5 : Hid (GB g w (we.setCell ⟨gg, 0, none⟩ (.int .i64 zz))) := G4.out.grown hgr (fun k hk => by simp at hk; omega)
            clear hgr C4 G4 O4
            generalize zs.getD 0 0 = y0 at gc
            go_wp2
            go_ret
            exact ⟨_, _, _, zs.set 0 zz, rfl, by omega, by rw [List.length_set]; exact HP.out, O5.out, C5.out.mono (by omega), G5.out⟩

end Go.Proofs.Ytamppekadobagaa
