/- Chapter 11: what is drawn: secrets of hands, trips, signs. -/
import Derived.Test.YtdhnolafkgkliaaDoorD6G
import Derived.Test.YtdhnolafkgkliaaDoorD2
import Derived.Test.YtdhnolafkgkliaaDoorW11
import Derived.Deep.AppendLies
namespace Go.Proofs.YtdhnolafkgkliaaDoor
set_option linter.unusedVariables false
set_option maxRecDepth 1000000
set_option linter.unusedSimpArgs false
open Go.RowKit

def DrawnHands (g : Nat) (ao : Option Addr) (n c : Nat) (M : Int) (w : World) (e : Ending) (w' : World) : Prop := ∃ a' q c' zs, e = .returned (.slice a' q c') ∧ 1 ≤ q ∧ q ≤ 5 ∧ zs.length = q ∧ Own w' w.heap.size (.slice a' q c') zs ∧ Cur w' g ao n c (M + 100) ∧ GB g w w'

set_option maxHeartbeats 4000000 in
set_option maxRecDepth 1000000 in
theorem handSecrets_c (g : Nat) (ao : Option Addr) (n c : Nat) (M : Int) (w : World) (hM : M ≤ 1000000) (h : Cur w g ao n c M) :
    Calls Tryd.prog 40 #[.pointer (some ⟨g, 0, none⟩)] w (DrawnHands g ao n c M w) := by
  obtain ⟨i0, hi, hz0, hz1, hz2⟩ := info_parts Tryd.infoInt
  have HC : Hid (Cur w g ao n c M) := h
  have HOld : Hid (Old ao n w.heap.size) := h.code.old
  have hgl : g < w.heap.size := h.lt
  clear h
  go_enter Tryd.func40, Tryd.ntmps40
  go_wp2_with fail
  refine (pick_c g ao n c M 5 _ (by omega) (by omega) HC.out).mono ?_
  rintro e w1 ⟨z, rfl, hz0', hz1', hc1, hg1⟩
  have HC1 : Hid (Cur w1 g ao n c (M + 2)) := hc1
  have HG1 : Hid (GB g w w1) := hg1
  clear hc1 hg1 HC
  obtain ⟨k0, hk0⟩ : ∃ k0 : Nat, 1 + z = (k0 : Int) := ⟨(1 + z).toNat, by omega⟩
  go_wp2
  go_loopw [3, 4] (fun v i wr => ∃ (k : Nat) (zs : List Int), i = .int .i64 k ∧ zs.length + k ≤ 5 ∧ 1 ≤ zs.length + k ∧ Hid (Own wr w.heap.size v zs) ∧ Hid (Cur wr g ao n c (M + 6 + 4 * zs.length)) ∧ Hid (GB g w wr)) (fun _ i _ => (intOf i).toNat)
  case atStart => exact ⟨k0, [], by first | rfl | go_num, by simp; omega, by simp; omega, World.ownsRow_nil _ _ _ _, HC1.out.mono (by simp; try omega), HG1⟩
  case round =>
    clear HC1 HG1
    obtain ⟨k, zs, rfl, hk, hk2, hO, hC, hG⟩ := hrel
    by_cases hlt : 0 < k
    · have k1 : (0 : Int) < (k : Int) := by omega
      go_wp2_with fail
      refine (pick_c g ao n c (M + 6 + 4 * zs.length) 250 _ (by omega) (by omega) hC.out).mono ?_
      rintro e wb ⟨x, rfl, hx0, hx1, hc1, hg1⟩
      have hCx : Hid (Cur wb g ao n c (M + 6 + 4 * zs.length + 2)) := hc1
      have hGx : Hid (GB g w wb) := hG.out.trans hg1
      have hOx : Hid (Own wb w.heap.size u3 zs) := hO.out.kept hg1 (sep_own hO.out hgl)
      clear hc1 hg1 hC hG hO
      obtain ⟨p, hp⟩ : ∃ p, zs.length = p := ⟨_, rfl⟩
      have hown : wb.ownsRow w.heap.size 3 1 u3 p (cellsI zs) := by have h := hOx.out; unfold Own at h; rw [hp] at h; exact h
      have hob : ∀ k', u3.ownBlock = some k' → w.heap.size ≤ k' := own_block_ge hOx.out
      have hws : w.heap.size ≤ wb.heap.size := hGx.out.size
      have hone : ∀ u ∈ [Value.int .i64 (1 + x * 5)], u.oneCell' = true := ints_oneCell _ [1 + x * 5]
      have HP : Hid (zs.length = p) := hp
      have hp5 : p + k ≤ 5 := by omega
      have hp6 : 1 ≤ p + k := by omega
      clear hp hk hk2
      go_wp2_with (at_builtin; refine wpList_append_own _ rfl _ _ 23 rfl w.heap.size 3 i0 (.int .i64 0) 1 8 Tryd.underlying23 hi hz0 hz1 hz2 rfl (by decide) _ _ _ rfl (hown.alloc _) ⟨wb.heap.size, 0, none⟩ 1 1 [.int .i64 (1 + x * 5)] rfl rfl (cell_new1 _ _ _) hone (by unfold maxLen; omega) (by omega) (by simp; omega) ?_; intro v' w9 hown' hgrow _; have HO2 : Hid (Own w9 w.heap.size v' (zs ++ [1 + x * 5])) := own_push (w := wb) (v := u3) (by simpa [HP.out] using hown'); have HC2 : Hid (Cur w9 g ao n c (M + 6 + 4 * zs.length + 2)) := (hCx.out.alloc _).grown hgrow hob hgl HOld.out; have HG2 : Hid (GB g w w9) := (hGx.out.alloc _).grown hgrow hob; clear hown' hgrow hown hob)
      go_roundw
      case rel => exact ⟨k - 1, zs ++ [1 + x * 5], by go_num, by rw [List.length_append, HP.out]; simp; omega, by rw [List.length_append, HP.out]; simp; omega, HO2, HC2.out.mono (by rw [List.length_append]; simp; omega), HG2⟩
      case measure => simp [intOf]; omega
    · have k1 : (k : Int) ≤ 0 := by omega
      obtain ⟨a1, c1, hv⟩ := hO.out.shape
      obtain ⟨p, hp⟩ : ∃ p, zs.length = p := ⟨_, rfl⟩
      rw [hp] at hv
      subst hv
      have hp9 : p ≤ 5 := by omega
      have hp1 : 1 ≤ p := by omega
      have HC0 : Hid (Cur wr g ao n c (M + 30)) := hC.out.mono (by omega)
      have HP : Hid (zs.length = p) := hp
      obtain ⟨gg, hgg, hgb⟩ := own_some hO.out (by omega)
      subst hgg
      clear hp hk hk2 hC
      go_wp2_with fail
      refine (one_c g ao n c (M + 30) 20 _ (by omega) (by omega) HC0.out).mono ?_
      rintro e wd ⟨bo, rfl, hc1, hg1⟩
      have C3 : Hid (Cur wd g ao n c (M + 32)) := hc1.mono (by omega)
      have G3 : Hid (GB g w wd) := hG.out.trans hg1
      have O3 : Hid (Own wd w.heap.size (.slice (some ⟨gg, 0, none⟩) p c1) zs) := hO.out.kept hg1 (sep_own hO.out hgl)
      clear hc1 hg1 HC0 hG hO
      by_cases s0 : bo = true
      · subst s0
        have hlit := lit_cells (fun _ => True) wd #[.int .i64 0, .int .i64 1498, .int .i64 1499] 3 3 rfl ⟨trivial, trivial, trivial, trivial⟩
        have hgd : g < wd.heap.size := C3.out.lt
        go_wp2_with fail
        refine (among_p (fun _ => True) g ao n c _ wd.heap.size 3 _ (by omega) (by omega) hlit (by omega) (C3.out.alloc _)).mono ?_
        rintro e we ⟨zz, rfl, _, hc1, hg1⟩
        have C4 : Hid (Cur we g ao n c (M + 34)) := hc1.mono (by omega)
        have G4 : Hid (GB g w we) := (G3.out.alloc _).trans hg1
        have O4 : Hid (Own we w.heap.size (.slice (some ⟨gg, 0, none⟩) p c1) zs) := (O3.out.later (balloc _ _)).kept hg1 (sep_own (O3.out.later (balloc wd (.cells #[.int .i64 0, .int .i64 1498, .int .i64 1499] 3))) hgl)
        clear hc1 hg1 C3 G3 O3 hlit
        have gc : we.cell? ⟨gg, 0, none⟩ = some (.int .i64 (zs.getD 0 0)) := by
          have h := O4.out
          rw [← HP.out] at h
          exact h.cell 0 (by rw [HP.out]; omega)
        have gf : we.frozen? ⟨gg, 0, none⟩ = false := by
          have h := O4.out
          rw [← HP.out] at h
          exact h.free 0
        have O5 : Hid (Own (we.setCell ⟨gg, 0, none⟩ (.int .i64 zz)) w.heap.size (.slice (some ⟨gg, 0, none⟩) p c1) (zs.set 0 zz)) := own_set O4.out 0 zz
        have hgr : we.grownBy (we.setCell ⟨gg, 0, none⟩ (.int .i64 zz)) (some gg) := (GB.refl gg we).setCell _ _
        have C5 : Hid (Cur (we.setCell ⟨gg, 0, none⟩ (.int .i64 zz)) g ao n c (M + 34)) := C4.out.grown (B := w.heap.size) hgr (fun k hk => by simp at hk; omega) hgl HOld.out
        have G5 : Hid (GB g w (we.setCell ⟨gg, 0, none⟩ (.int .i64 zz))) := G4.out.grown hgr (fun k hk => by simp at hk; omega)
        clear hgr C4 G4 O4
        generalize zs.getD 0 0 = y0 at gc
        have hpi : (0 : Int) < (p : Int) := by omega
        go_wp2
        go_ret
        exact ⟨_, _, _, zs.set 0 zz, rfl, by omega, by omega, by rw [List.length_set]; exact HP.out, O5.out, C5.out.mono (by omega), G5.out⟩
      · rw [Bool.not_eq_true] at s0
        subst s0
        go_wp2
        go_ret
        exact ⟨_, _, _, zs, rfl, by omega, by omega, HP.out, O3.out, C3.out.mono (by omega), G3.out⟩

set_option maxHeartbeats 2000000 in
theorem drawRunTrip_c (ao : Option Addr) (n c : Nat) (w : World) (hn : n ≤ 9223372036854775807) (h : CodeOk w w.heap.size ao n) :
    Calls Tryd.prog 9 #[.slice ao n c] w fun e w' => ∃ a' q c' zs l lo, e = .returned (.tuple #[.slice a' q c', .int .i64 l, .int .i64 lo]) ∧ 1 ≤ q ∧ q ≤ 5 ∧ zs.length = q ∧ Own w' w.heap.size (.slice a' q c') zs ∧ Below w.heap.size w w' := by
  have HC : Hid (Cur (w.alloc (.cells #[.slice ao n c, .int .i64 0, .int .u64 0] 70)) w.heap.size ao n c 0) := cur_new _ hn h
  have HB0 : Hid (Below w.heap.size w (w.alloc (.cells #[.slice ao n c, .int .i64 0, .int .u64 0] 70))) := balloc _ _
  clear h
  go_enter Tryd.func9, Tryd.ntmps9
  go_wp2_with fail
  refine (handSecrets_c w.heap.size ao n c 0 _ (by omega) HC.out).mono ?_
  rintro e w1 ⟨a', q, c', zs, rfl, hq1, hq, hl, ho, hc, hg⟩
  have HO : Hid (Own w1 w.heap.size (.slice a' q c') zs) := ho.mono (by simp)
  have HO9 : Hid (Own w1 (w.heap.size + 1) (.slice a' q c') zs) := ho.mono (by simp)
  have HL : Hid (zs.length = q) := hl
  have C1 : Hid (Cur w1 w.heap.size ao n c 100) := hc
  have B1 : Hid (Below w.heap.size w w1) := HB0.out.trans (hg.below HB0.out.size (Nat.le_refl _))
  have hg1 : w.heap.size < w1.heap.size := hc.lt
  clear hl ho hc hg HC HB0
  have hlit := lit_cells (fun _ => True) w1 #[.int .i64 (-1), .int .i64 0, .int .i64 5, .int .i64 1000, .int .i64 1001] 3 5 rfl ⟨trivial, trivial, trivial, trivial, trivial, trivial⟩
  go_wp2_with fail
  refine (among_p (fun _ => True) w.heap.size ao n c _ w1.heap.size 5 _ (by omega) (by omega) hlit (by omega) (C1.out.alloc _)).mono ?_
  rintro e w2 ⟨l, rfl, _, hc, hg⟩
  have C2 : Hid (Cur w2 w.heap.size ao n c 200) := hc.mono (by omega)
  have B2 : Hid (Below w.heap.size w w2) := (B1.out.alloc B1.out.size _).trans (hg.below (by have := B1.out.size; simp; omega) (Nat.le_refl _))
  have O2 : Hid (Own w2 (w.heap.size + 1) (.slice a' q c') zs) := (HO9.out.later (balloc _ _)).kept hg (sep_own (HO9.out.later (balloc w1 (.cells #[.int .i64 (-1), .int .i64 0, .int .i64 5, .int .i64 1000, .int .i64 1001] 3))) (by omega))
  clear hc hg C1 B1 HO HO9 hlit
  go_wp2_with fail
  refine (pick_c w.heap.size ao n c 200 ((q : Int) + 3) _ (by omega) (by omega) C2.out).mono ?_
  rintro e w3 ⟨x, rfl, hx0, hx1, hc, hg⟩
  have B3 : Hid (Below w.heap.size w w3) := B2.out.trans (hg.below B2.out.size (Nat.le_refl _))
  have O3 : Hid (Own w3 w.heap.size (.slice a' q c') zs) := (O2.out.kept hg (sep_own O2.out (by omega))).mono (by omega)
  clear hc hg C2 B2 O2
  go_wp2
  refine bodyPost_ret (v := .tuple #[.slice a' q c', .int .i64 l, .int .i64 (x - 2)]) (by simp [results, Tryd.results9, go_sem]; try rfl) rfl ?_
  exact ⟨a', q, c', zs, l, x - 2, rfl, hq1, hq, HL.out, O3.out, B3.out⟩

set_option maxHeartbeats 2000000 in
theorem drawSignFor_c (ao : Option Addr) (n c : Nat) (w : World) (hn : n ≤ 9223372036854775807) (h : CodeOk w w.heap.size ao n) :
    Calls Tryd.prog 23 #[.slice ao n c] w fun e w' => ∃ s f t l : Int, e = .returned (.tuple #[.int .i64 s, .int .i64 f, .int .i64 t, .int .i64 l]) ∧ (-2 ≤ f ∧ f ≤ 4) ∧ (-2 ≤ t ∧ t ≤ 6) ∧ Below w.heap.size w w' := by
  have HC : Hid (Cur (w.alloc (.cells #[.slice ao n c, .int .i64 0, .int .u64 0] 70)) w.heap.size ao n c 0) := cur_new _ hn h
  have HB0 : Hid (Below w.heap.size w (w.alloc (.cells #[.slice ao n c, .int .i64 0, .int .u64 0] 70))) := balloc _ _
  clear h
  go_enter Tryd.func23, Tryd.ntmps23
  go_wp2_with fail
  refine (pick_c w.heap.size ao n c 0 7 _ (by omega) (by omega) HC.out).mono ?_
  rintro e w1 ⟨x, rfl, hx0, hx1, hc, hg⟩
  have C1 : Hid (Cur w1 w.heap.size ao n c 100) := hc.mono (by omega)
  have B1 : Hid (Below w.heap.size w w1) := HB0.out.trans (hg.below HB0.out.size (Nat.le_refl _))
  clear hc hg HC HB0
  go_wp2_with fail
  refine (secret_c w.heap.size ao n c 100 _ (by omega) C1.out).mono ?_
  rintro e w2 ⟨s, rfl, hc, hg⟩
  have C2 : Hid (Cur w2 w.heap.size ao n c 200) := hc.mono (by omega)
  have B2 : Hid (Below w.heap.size w w2) := B1.out.trans (hg.below B1.out.size (Nat.le_refl _))
  clear hc hg C1 B1
  go_wp2_with fail
  refine (pick_c w.heap.size ao n c 200 9 _ (by omega) (by omega) C2.out).mono ?_
  rintro e w3 ⟨y, rfl, hy0, hy1, hc, hg⟩
  have C3 : Hid (Cur w3 w.heap.size ao n c 300) := hc.mono (by omega)
  have B3 : Hid (Below w.heap.size w w3) := B2.out.trans (hg.below B2.out.size (Nat.le_refl _))
  have hg1 : w.heap.size < w3.heap.size := hc.lt
  clear hc hg C2 B2
  have hlit := lit_cells (fun _ => True) w3 #[.int .i64 (-1), .int .i64 0, .int .i64 5, .int .i64 1000, .int .i64 1001] 3 5 rfl ⟨trivial, trivial, trivial, trivial, trivial, trivial⟩
  go_wp2_with fail
  refine (among_p (fun _ => True) w.heap.size ao n c _ w3.heap.size 5 _ (by omega) (by omega) hlit (by omega) (C3.out.alloc _)).mono ?_
  rintro e w4 ⟨l, rfl, _, hc, hg⟩
  have B4 : Hid (Below w.heap.size w w4) := (B3.out.alloc B3.out.size _).trans (hg.below (by have := B3.out.size; simp; omega) (Nat.le_refl _))
  clear hc hg C3 B3 hlit
  go_wp2
  refine bodyPost_ret (v := .tuple #[.int .i64 s, .int .i64 (x - 2), .int .i64 (x - 2 + 1 + y / 8), .int .i64 l]) (by simp [results, Tryd.results23, go_sem]; try rfl) rfl ?_
  exact ⟨s, x - 2, x - 2 + 1 + y / 8, l, rfl, ⟨by omega, by omega⟩, ⟨by omega, by omega⟩, B4.out⟩

end Go.Proofs.YtdhnolafkgkliaaDoor
