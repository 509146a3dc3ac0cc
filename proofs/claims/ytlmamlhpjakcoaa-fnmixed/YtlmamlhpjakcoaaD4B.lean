/- What chapter 4 draws: a block, keys with a block, a round. -/
import Derived.Test.YtlmamlhpjakcoaaD4
namespace Go.Proofs.Ytlmamlhpjakcoaa
set_option linter.unusedVariables false
set_option linter.unusedSimpArgs false
open Go.RowKit

set_option maxHeartbeats 1000000 in
theorem block_c (g : Nat) (ao : Option Addr) (n c : Nat) (M : Int) (w : World) (hM : M ≤ 1000000) (h : Cur w g ao n c M) :
    Calls Try.prog 51 #[.pointer (some ⟨g, 0, none⟩)] w fun e w' => ∃ z : Int, e = .returned (.int .i64 z) ∧ Cur w' g ao n c (M + 10) ∧ GB g w w' := by
  have C0 : Hid (Cur w g ao n c M) := h
  have G0 : Hid (GB g w w) := GB.refl _ _
  clear h
  go_enter Try.func51, Try.ntmps51
  go_wp2_with fail
  refine (pick_c g ao n c (M) 256 _ (by omega) (by omega) C0.out).mono ?_
  rintro e w1 ⟨x1, rfl, hx10, hx11, hc1, hg1⟩
  have C1 : Hid (Cur w1 g ao n c (M + 2)) := hc1
  have G1 : Hid (GB g w w1) := G0.out.trans hg1
  clear hc1 hg1 C0 G0
  go_wp2_with fail
  refine (pick_c g ao n c (M + 2) 256 _ (by omega) (by omega) C1.out).mono ?_
  rintro e w2 ⟨x2, rfl, hx20, hx21, hc1, hg1⟩
  have C2 : Hid (Cur w2 g ao n c (M + 2 + 2)) := hc1
  have G2 : Hid (GB g w w2) := G1.out.trans hg1
  clear hc1 hg1 C1 G1
  go_wp2_with fail
  refine (pick_c g ao n c (M + 2 + 2) 256 _ (by omega) (by omega) C2.out).mono ?_
  rintro e w3 ⟨x3, rfl, hx30, hx31, hc1, hg1⟩
  have C3 : Hid (Cur w3 g ao n c (M + 2 + 2 + 2)) := hc1
  have G3 : Hid (GB g w w3) := G2.out.trans hg1
  clear hc1 hg1 C2 G2
  go_wp2_with fail
  refine (pick_c g ao n c (M + 2 + 2 + 2) 256 _ (by omega) (by omega) C3.out).mono ?_
  rintro e w4 ⟨x4, rfl, hx40, hx41, hc1, hg1⟩
  have C4 : Hid (Cur w4 g ao n c (M + 2 + 2 + 2 + 2)) := hc1
  have G4 : Hid (GB g w w4) := G3.out.trans hg1
  clear hc1 hg1 C3 G3
  obtain ⟨X, hX⟩ : ∃ X, x1 * 256 + x2 = X := ⟨_, rfl⟩
  obtain ⟨Y, hY⟩ : ∃ Y, x3 * 256 + x4 = Y := ⟨_, rfl⟩
  have hlit := lit_cells (fun _ => True) w4 #[.int .i64 (-1), .int .i64 0, .int .i64 1, .int .i64 65535, .int .i64 65536, .int .i64 X, .int .i64 Y] 3 7 rfl ⟨trivial, trivial, trivial, trivial, trivial, trivial, trivial, trivial⟩
  have hgd : g < w4.heap.size := C4.out.lt
  go_wp2_with fail
  refine (among_p (fun _ => True) g ao n c _ w4.heap.size 7 _ (by omega) (by omega) hlit (by omega) (C4.out.alloc _)).mono ?_
  rintro e w5 ⟨zz, rfl, _, hc1, hg1⟩
  have C5 : Hid (Cur w5 g ao n c (M + 2 + 2 + 2 + 2 + 2)) := hc1
  have G5 : Hid (GB g w w5) := (G4.out.alloc _).trans hg1
  clear hc1 hg1
  go_wp2
  go_ret
  exact ⟨zz, rfl, C5.out.mono (by omega), G5.out⟩
  
set_option maxHeartbeats 1000000 in
theorem drawMixBlock_c (ao : Option Addr) (n c : Nat) (w : World) (hn : n ≤ 9223372036854775807) (h : CodeOk w w.heap.size ao n) :
    Calls Try.prog 14 #[.slice ao n c] w fun e w' => (∃ a' q c' zs b, e = .returned (.tuple #[.slice a' q c', .int .i64 b]) ∧ q ≤ 9 ∧ zs.length = q ∧ Own w' w.heap.size (.slice a' q c') zs) ∧ Below w.heap.size w w' := by
  have C0 : Hid (Cur (w.alloc (.cells #[.slice ao n c, .int .i64 0, .int .u64 0] 62)) w.heap.size ao n c 0) := cur_new _ hn h
  have G0 : Hid (GB w.heap.size w (w.alloc (.cells #[.slice ao n c, .int .i64 0, .int .u64 0] 62))) := (GB.refl _ _).alloc _
  have hz0 : w.heap.size + 1 ≤ (w.alloc (.cells #[.slice ao n c, .int .i64 0, .int .u64 0] 62)).heap.size := by simp
  clear h
  go_enter Try.func14, Try.ntmps14
  go_wp2_with fail
  refine (keys_c w.heap.size ao n c 0 _ (by omega) C0.out).mono ?_
  rintro e w1 ⟨a1, q, c1, zs, rfl, hq9, hzl, ho, hc1, hg1⟩
  have C1 : Hid (Cur w1 w.heap.size ao n c 100) := hc1
  have G1 : Hid (GB w.heap.size w w1) := G0.out.trans hg1
  have O1 : Hid (Own w1 (w.heap.size + 1) (.slice a1 q c1) zs) := ho.mono hz0
  have HZ : Hid (zs.length = q) := hzl
  clear hc1 hg1 ho hzl C0 G0
  go_wp2_with fail
  refine (block_c w.heap.size ao n c 100 _ (by omega) C1.out).mono ?_
  rintro e w2 ⟨b, rfl, hc1, hg1⟩
  have G2 : Hid (GB w.heap.size w w2) := G1.out.trans hg1
  have O2 : Hid (Own w2 (w.heap.size + 1) (.slice a1 q c1) zs) := O1.out.kept hg1 (sep_own O1.out (by omega))
  clear hc1 hg1 C1 G1 O1
  go_wp2
  refine bodyPost_ret (v := .tuple #[.slice a1 q c1, .int .i64 b]) (by simp [results, Try.results14, go_sem]) rfl ⟨⟨a1, q, c1, zs, b, rfl, hq9, HZ.out, O2.out.mono (by omega)⟩, G2.out.below (Nat.le_refl _) (Nat.le_refl _)⟩
  
set_option maxHeartbeats 1000000 in
theorem drawRound_c (ao : Option Addr) (n c : Nat) (w : World) (hn : n ≤ 9223372036854775807) (h : CodeOk w w.heap.size ao n) :
    Calls Try.prog 24 #[.slice ao n c] w fun e w' => (∃ a b, e = .returned (.tuple #[.int .i64 a, .int .i64 b])) ∧ Below w.heap.size w w' := by
  have C0 : Hid (Cur (w.alloc (.cells #[.slice ao n c, .int .i64 0, .int .u64 0] 62)) w.heap.size ao n c 0) := cur_new _ hn h
  have G0 : Hid (GB w.heap.size w (w.alloc (.cells #[.slice ao n c, .int .i64 0, .int .u64 0] 62))) := (GB.refl _ _).alloc _
  have hz0 : w.heap.size + 1 ≤ (w.alloc (.cells #[.slice ao n c, .int .i64 0, .int .u64 0] 62)).heap.size := by simp
  clear h
  go_enter Try.func24, Try.ntmps24
  go_wp2_with fail
  refine (block_c w.heap.size ao n c 0 _ (by omega) C0.out).mono ?_
  rintro e w1 ⟨a, rfl, hc1, hg1⟩
  have C1 : Hid (Cur w1 w.heap.size ao n c 10) := hc1
  have G1 : Hid (GB w.heap.size w w1) := G0.out.trans hg1
  clear hc1 hg1 C0 G0
  go_wp2_with fail
  refine (pick_c w.heap.size ao n c 10 256 _ (by omega) (by omega) C1.out).mono ?_
  rintro e w2 ⟨x, rfl, hx0, hx1, hc1, hg1⟩
  have C2 : Hid (Cur w2 w.heap.size ao n c 12) := hc1
  have G2 : Hid (GB w.heap.size w w2) := G1.out.trans hg1
  clear hc1 hg1 C1 G1
  have hlit := lit_cells (fun _ => True) w2 #[.int .i64 (-1), .int .i64 0, .int .i64 255, .int .i64 256, .int .i64 x] 3 5 rfl ⟨trivial, trivial, trivial, trivial, trivial, trivial⟩
  have hgd : w.heap.size < w2.heap.size := C2.out.lt
  go_wp2_with fail
  refine (among_p (fun _ => True) w.heap.size ao n c _ w2.heap.size 5 _ (by omega) (by omega) hlit (by omega) (C2.out.alloc _)).mono ?_
  rintro e w3 ⟨b, rfl, _, hc1, hg1⟩
  have G3 : Hid (GB w.heap.size w w3) := (G2.out.alloc _).trans hg1
  clear hc1 hg1
  go_wp2
  refine bodyPost_ret (v := .tuple #[.int .i64 a, .int .i64 b]) (by simp [results, Try.results24, go_sem]) rfl ⟨⟨a, b, rfl⟩, G3.out.below (Nat.le_refl _) (Nat.le_refl _)⟩
  
end Go.Proofs.Ytlmamlhpjakcoaa
