/- What chapter 4 draws for its blocks: keys, a block. -/
import Derived.Test.YtlmamlhpjakcoaaD3G
namespace Go.Proofs.Ytlmamlhpjakcoaa
set_option linter.unusedVariables false
set_option linter.unusedSimpArgs false
open Go.RowKit

theorem make_own {w : World} {base q g : Nat} (h : w.ownsRow base 3 1 (.slice (some ⟨g, 0, none⟩) q q) q (madeCells (Value.int .i64 0).cells (q * 1)).toList) : Own w base (.slice (some ⟨g, 0, none⟩) q q) (List.replicate q 0) := by
  have e : (madeCells (Value.int .i64 0).cells (q * 1)).toList = cellsI (List.replicate q 0) := by
    rw [Nat.mul_one]
    exact (toList_madeCells_one _ _).trans (by simp [cellsI])
  unfold Own
  rw [List.length_replicate, ← e]
  exact h

set_option maxHeartbeats 2000000 in
set_option maxRecDepth 1000000 in
theorem keys_c (g : Nat) (ao : Option Addr) (n c : Nat) (M : Int) (w : World) (hM : M ≤ 1000000) (h : Cur w g ao n c M) :
    Calls Try.prog 50 #[.pointer (some ⟨g, 0, none⟩)] w fun e w' => ∃ a' q c' zs, e = .returned (.slice a' q c') ∧ q ≤ 9 ∧ zs.length = q ∧ Own w' w.heap.size (.slice a' q c') zs ∧ Cur w' g ao n c (M + 100) ∧ GB g w w' := by
  obtain ⟨i0, hi, hz0, hz1, hz2⟩ := info_parts Try.infoInt
  have HC : Hid (Cur w g ao n c M) := h
  have HOld : Hid (Old ao n w.heap.size) := h.code.old
  have hgl : g < w.heap.size := h.lt
  clear h
  go_enter Try.func50, Try.ntmps50
  go_wp2_with fail
  refine (pick_c g ao n c M 6 _ (by omega) (by omega) HC.out).mono ?_
  rintro e w1 ⟨z, rfl, hz0', hz1', hc1, hg1⟩
  obtain ⟨k0, rfl⟩ : ∃ k0 : Nat, z = k0 := ⟨z.toNat, by omega⟩
  have HC1 : Hid (Cur w1 g ao n c (M + 2)) := hc1
  have HG1 : Hid (GB g w w1) := hg1
  clear hc1 hg1 HC
  go_wp2
  go_loopw [3, 4] (fun v i wr => ∃ (k : Nat) (zs : List Int), i = .int .i64 k ∧ zs.length + k ≤ 5 ∧ Hid (Own wr w.heap.size v zs) ∧ Hid (Cur wr g ao n c (M + 2 + 4 * zs.length)) ∧ Hid (GB g w wr)) (fun _ i _ => (intOf i).toNat)
  case atStart => exact ⟨k0, [], rfl, by simp; omega, World.ownsRow_nil _ _ _ _, HC1.out.mono (by simp), HG1⟩
  case round =>
    clear HC1 HG1
    obtain ⟨k, zs, rfl, hk, hO, hC, hG⟩ := hrel
    by_cases hlt : 0 < k
    · have k1 : (0 : Int) < (k : Int) := by omega
      go_wp2_with fail
      refine (pick_c g ao n c (M + 2 + 4 * zs.length) 256 _ (by omega) (by omega) hC.out).mono ?_
      rintro e wa ⟨x, rfl, hx0, hx1, hc1, hg1⟩
      have hCx : Hid (Cur wa g ao n c (M + 2 + 4 * zs.length + 2)) := hc1
      have hGx : Hid (GB g w wa) := hG.out.trans hg1
      have hOx : Hid (Own wa w.heap.size u3 zs) := hO.out.kept hg1 (sep_own hO.out hgl)
      clear hc1 hg1 hC hG hO
      go_wp2_with fail
      refine (pick_c g ao n c (M + 2 + 4 * zs.length + 2) 256 _ (by omega) (by omega) hCx.out).mono ?_
      rintro e wb ⟨y, rfl, hy0, hy1, hc1, hg1⟩
      have hCxx : Hid (Cur wb g ao n c (M + 2 + 4 * zs.length + 2 + 2)) := hc1
      have hGxx : Hid (GB g w wb) := hGx.out.trans hg1
      have hOxx : Hid (Own wb w.heap.size u3 zs) := hOx.out.kept hg1 (sep_own hOx.out hgl)
      clear hc1 hg1 hCx hGx hOx
      obtain ⟨X, hX⟩ : ∃ X, wrap64 (x * y) = X := ⟨_, rfl⟩
      obtain ⟨p, hp⟩ : ∃ p, zs.length = p := ⟨_, rfl⟩
      have hown : wb.ownsRow w.heap.size 3 1 u3 p (cellsI zs) := by have h := hOxx.out; unfold Own at h; rw [hp] at h; exact h
      have hob : ∀ k', u3.ownBlock = some k' → w.heap.size ≤ k' := own_block_ge hOxx.out
      have hws : w.heap.size ≤ wb.heap.size := hGxx.out.size
      have hone : ∀ u ∈ [Value.int .i64 X], u.oneCell' = true := ints_oneCell _ [X]
      have HP : Hid (zs.length = p) := hp
      have hp5 : p + k ≤ 5 := by omega
      clear hp hk
      go_wp2_with (at_builtin; refine wpList_append_own _ rfl _ _ 23 rfl w.heap.size 3 i0 (.int .i64 0) 1 8 Try.underlying23 hi hz0 hz1 hz2 rfl (by decide) _ _ _ rfl (hown.alloc _) ⟨wb.heap.size, 0, none⟩ 1 1 [.int .i64 X] rfl rfl (cell_new1 _ _ _) hone (by unfold maxLen; omega) (by omega) (by simp; omega) ?_; intro v' w2 hown' hgrow _; have HO2 : Hid (Own w2 w.heap.size v' (zs ++ [X])) := own_push (w := wb) (v := u3) (by simpa [HP.out] using hown'); have HC2 : Hid (Cur w2 g ao n c (M + 2 + 4 * zs.length + 2 + 2)) := (hCxx.out.alloc _).grown hgrow hob hgl HOld.out; have HG2 : Hid (GB g w w2) := (hGxx.out.alloc _).grown hgrow hob; clear hown' hgrow hown hob)
      go_roundw
      case rel => exact ⟨k - 1, zs ++ [X], by go_num, by rw [List.length_append, HP.out]; simp; omega, HO2, HC2.out.mono (by rw [List.length_append]; simp; omega), HG2⟩
      case measure => simp [intOf]; omega
    · have k1 : (k : Int) ≤ 0 := by omega
      obtain ⟨a1, c1, hv⟩ := hO.out.shape
      obtain ⟨p, hp⟩ : ∃ p, zs.length = p := ⟨_, rfl⟩
      rw [hp] at hv
      subst hv
      have hp5 : p ≤ 5 := by omega
      have HC0 : Hid (Cur wr g ao n c (M + 22)) := hC.out.mono (by omega)
      have HP : Hid (zs.length = p) := hp
      clear hp hk hC
      go_wp2_with fail
      refine (one_c g ao n c (M + 22) 20 _ (by omega) (by omega) HC0.out).mono ?_
      rintro e wc ⟨b1, rfl, hc1, hg1⟩
      have C1 : Hid (Cur wc g ao n c (M + 24)) := hc1.mono (by omega)
      have G1 : Hid (GB g w wc) := hG.out.trans hg1
      have O1 : Hid (Own wc w.heap.size (.slice a1 p c1) zs) := hO.out.kept hg1 (sep_own hO.out hgl)
      clear hc1 hg1 HC0 hG hO
      cases b1
      · skip
        by_cases hq0 : p = 0
        · have hq1 : ¬ (0 : Int) < (p : Int) := by omega
          clear hq0
          go_wp2
          go_ret
          exact ⟨_, _, _, zs, rfl, by omega, HP.out, O1.out, C1.out.mono (by omega), G1.out⟩
        · have hq1 : (0 : Int) < (p : Int) := by omega
          obtain ⟨gg, hgg, hgb⟩ := own_some O1.out (by omega)
          subst hgg
          clear hq0
          go_wp2_with fail
          refine (one_c g ao n c (M + 24) 20 _ (by omega) (by omega) C1.out).mono ?_
          rintro e wd ⟨b2, rfl, hc1, hg1⟩
          have C3 : Hid (Cur wd g ao n c (M + 24 + 2)) := hc1
          have G3 : Hid (GB g w wd) := G1.out.trans hg1
          have O3 : Hid (Own wd w.heap.size (.slice (some ⟨gg, 0, none⟩) p c1) zs) := O1.out.kept hg1 (sep_own O1.out hgl)
          clear hc1 hg1 C1 G1 O1
          cases b2
          · go_wp2
            go_ret
            exact ⟨_, _, _, zs, rfl, by omega, HP.out, O3.out, C3.out.mono (by omega), G3.out⟩
          · skip
            have hlit := lit_cells (fun _ => True) wd #[.int .i64 (-1), .int .i64 65535, .int .i64 65536] 3 3 rfl ⟨trivial, trivial, trivial, trivial⟩
            have hgd : g < wd.heap.size := C3.out.lt
            go_wp2_with fail
            refine (among_p (fun _ => True) g ao n c _ wd.heap.size 3 _ (by omega) (by omega) hlit (by omega) (C3.out.alloc _)).mono ?_
            rintro e we ⟨zz, rfl, _, hc1, hg1⟩
            have C4 : Hid (Cur we g ao n c (M + 24 + 2 + 2)) := hc1
            have G4 : Hid (GB g w we) := (G3.out.alloc _).trans hg1
            have O4 : Hid (Own we w.heap.size (.slice (some ⟨gg, 0, none⟩) p c1) zs) := (O3.out.later (balloc _ _)).kept hg1 (sep_own (O3.out.later (balloc wd (.cells #[.int .i64 (-1), .int .i64 65535, .int .i64 65536] 3))) hgl)
            clear hc1 hg1 C3 G3 O3 hlit
            have gc : we.cell? ⟨gg, 0, none⟩ = some (.int .i64 (zs.getD 0 0)) := by
              have h := O4.out
              rw [← HP.out] at h
              exact h.cell 0 (by rw [HP.out]; omega)
            have gf : we.frozen? ⟨gg, 0, none⟩ = false := by
              have h := O4.out
              rw [← HP.out] at h
              exact h.free 0
            have O5 : Hid (Own (we.setCell ⟨gg, 0, none⟩ (.int .i64 zz)) w.heap.size (.slice (some ⟨gg, 0, none⟩) p c1) (zs.set 0 zz)) := own_set O4.out 0 zz
            have hgr : we.grownBy (we.setCell ⟨gg, 0, none⟩ (.int .i64 zz)) (some gg) := (GB.refl gg we).setCell _ _
            have C5 : Hid (Cur (we.setCell ⟨gg, 0, none⟩ (.int .i64 zz)) g ao n c (M + 24 + 2 + 2)) := C4.out.grown (B := w.heap.size) hgr (fun k hk => by simp at hk; omega) hgl HOld.out
            have G5 : Hid (GB g w (we.setCell ⟨gg, 0, none⟩ (.int .i64 zz))) := G4.out.grown hgr (fun k hk => by simp at hk; omega)
            clear hgr C4 G4 O4
            generalize zs.getD 0 0 = y0 at gc
            go_wp2
            go_ret
            exact ⟨_, _, _, zs.set 0 zz, rfl, by omega, by rw [List.length_set]; exact HP.out, O5.out, C5.out.mono (by omega), G5.out⟩
      · skip
        clear O1
        go_wp2_with fail
        refine (pick_c g ao n c (M + 24) 2 _ (by omega) (by omega) C1.out).mono ?_
        rintro e wf ⟨z2, rfl, hz20, hz21, hc1, hg1⟩
        have C2 : Hid (Cur wf g ao n c (M + 26)) := hc1.mono (by omega)
        have G2 : Hid (GB g w wf) := G1.out.trans hg1
        obtain ⟨q, hq⟩ : ∃ q : Nat, 8 + z2 = q := ⟨(8 + z2).toNat, by omega⟩
        have hq9 : q ≤ 9 := by omega
        have hq8 : 8 ≤ q := by omega
        have hws : w.heap.size ≤ wf.heap.size := G2.out.size
        clear hc1 hg1 C1 G1
        obtain ⟨gg, hgg⟩ : ∃ gg, gg = wf.heap.size := ⟨_, rfl⟩
        have hgb : w.heap.size ≤ gg := by omega
        have hq1 : (0 : Int) < (q : Int) := by omega
        obtain ⟨rs, hrs⟩ : ∃ rs : List Int, rs = List.replicate q 0 := ⟨_, rfl⟩
        have HRS : Hid (rs.length = q) := by show _ = _; rw [hrs]; simp
        have HRR : Hid (rs = List.replicate q 0) := hrs
        clear hrs
        go_wp2_with (at_make; refine wpList_make_full _ rfl _ _ 23 rfl w.heap.size 3 i0 (.int .i64 0) 1 Try.underlying23 hi hz0 hz1 _ _ _ _ q rfl rfl rfl rfl (by rw [hz2]; omega) (by unfold maxLen; omega) (by omega) ?_; intro wm hown0 hgrow0; have O2 : Hid (Own wm w.heap.size (.slice (some ⟨wf.heap.size, 0, none⟩) q q) rs) := (by show Own _ _ _ _; rw [HRR.out]; exact make_own hown0); have C2' : Hid (Cur wm g ao n c (M + 26)) := C2.out.grown (B := w.heap.size) hgrow0 (fun k h => by cases h) hgl HOld.out; have G2' : Hid (GB g w wm) := G2.out.grown hgrow0 (fun k h => by cases h); clear hown0 hgrow0 C2 G2)
        refine (one_c g ao n c (M + 26) 20 _ (by omega) (by omega) C2'.out).mono ?_
        rintro e wd ⟨b2, rfl, hc1, hg1⟩
        have C3 : Hid (Cur wd g ao n c (M + 26 + 2)) := hc1
        have G3 : Hid (GB g w wd) := G2'.out.trans hg1
        have O3 : Hid (Own wd w.heap.size (.slice (some ⟨wf.heap.size, 0, none⟩) q q) rs) := O2.out.kept hg1 (sep_own O2.out hgl)
        clear hc1 hg1 C2' G2' O2
        cases b2
        · go_wp2
          go_ret
          exact ⟨_, _, _, rs, rfl, by omega, HRS.out, O3.out, C3.out.mono (by omega), G3.out⟩
        · skip
          have hlit := lit_cells (fun _ => True) wd #[.int .i64 (-1), .int .i64 65535, .int .i64 65536] 3 3 rfl ⟨trivial, trivial, trivial, trivial⟩
          have hgd : g < wd.heap.size := C3.out.lt
          go_wp2_with fail
          refine (among_p (fun _ => True) g ao n c _ wd.heap.size 3 _ (by omega) (by omega) hlit (by omega) (C3.out.alloc _)).mono ?_
          rintro e we ⟨zz, rfl, _, hc1, hg1⟩
          have C4 : Hid (Cur we g ao n c (M + 26 + 2 + 2)) := hc1
          have G4 : Hid (GB g w we) := (G3.out.alloc _).trans hg1
          have O4 : Hid (Own we w.heap.size (.slice (some ⟨wf.heap.size, 0, none⟩) q q) rs) := (O3.out.later (balloc _ _)).kept hg1 (sep_own (O3.out.later (balloc wd (.cells #[.int .i64 (-1), .int .i64 65535, .int .i64 65536] 3))) hgl)
          clear hc1 hg1 C3 G3 O3 hlit
          have gc : we.cell? ⟨wf.heap.size, 0, none⟩ = some (.int .i64 (rs.getD 0 0)) := by
            have h := O4.out
            rw [← HRS.out] at h
            exact h.cell 0 (by rw [HRS.out]; omega)
          have gf : we.frozen? ⟨wf.heap.size, 0, none⟩ = false := by
            have h := O4.out
            rw [← HRS.out] at h
            exact h.free 0
          have O5 : Hid (Own (we.setCell ⟨wf.heap.size, 0, none⟩ (.int .i64 zz)) w.heap.size (.slice (some ⟨wf.heap.size, 0, none⟩) q q) (rs.set 0 zz)) := own_set O4.out 0 zz
          have hgr : we.grownBy (we.setCell ⟨wf.heap.size, 0, none⟩ (.int .i64 zz)) (some wf.heap.size) := (GB.refl wf.heap.size we).setCell _ _
          have C5 : Hid (Cur (we.setCell ⟨wf.heap.size, 0, none⟩ (.int .i64 zz)) g ao n c (M + 26 + 2 + 2)) := C4.out.grown (B := w.heap.size) hgr (fun k hk => by simp at hk; omega) hgl HOld.out
          have G5 : Hid (GB g w (we.setCell ⟨wf.heap.size, 0, none⟩ (.int .i64 zz))) := G4.out.grown hgr (fun k hk => by simp at hk; omega)
          clear hgr C4 G4 O4
          generalize rs.getD 0 0 = y0 at gc
          go_wp2
          go_ret
          exact ⟨_, _, _, rs.set 0 zz, rfl, by omega, by rw [List.length_set]; exact HRS.out, O5.out, C5.out.mono (by omega), G5.out⟩

end Go.Proofs.Ytlmamlhpjakcoaa
