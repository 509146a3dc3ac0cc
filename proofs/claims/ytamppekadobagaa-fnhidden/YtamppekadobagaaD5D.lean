/- What the laws of chapter 5 draw. -/
import Derived.Test.YtamppekadobagaaD5P
namespace Go.Proofs.Ytamppekadobagaa
set_option linter.unusedVariables false
set_option linter.unusedSimpArgs false
open Go.RowKit

def DrawnI (w : World) (e : Ending) (w' : World) : Prop := ∃ a' q c' zs b, e = .returned (.tuple #[.slice a' q c', .int .i64 b]) ∧ q ≤ 9 ∧ zs.length = q ∧ Own w' w.heap.size (.slice a' q c') zs ∧ (-9 ≤ b ∧ b ≤ 2000) ∧ Below w.heap.size w w'
def DrawnP (w : World) (e : Ending) (w' : World) : Prop := ∃ a' q c' zs, e = .returned (.slice a' q c') ∧ q ≤ 8 ∧ RowP w' w.heap.size a' q c' zs ∧ Below w.heap.size w w'
def DrawnPI (w : World) (e : Ending) (w' : World) : Prop := ∃ a' q c' zs b, e = .returned (.tuple #[.slice a' q c', .int .i64 b]) ∧ q ≤ 8 ∧ RowP w' w.heap.size a' q c' zs ∧ (-9 ≤ b ∧ b ≤ 2000) ∧ Below w.heap.size w w'
def DrawnW (w : World) (e : Ending) (w' : World) : Prop := ∃ a' q c' zs, e = .returned (.slice a' q c') ∧ q ≤ 8 ∧ zs.length = q ∧ Own w' w.heap.size (.slice a' q c') zs ∧ Below w.heap.size w w'
def DrawnPP (w : World) (e : Ending) (w' : World) : Prop := ∃ a' q c' zs a2 c2 ys, e = .returned (.tuple #[.slice a' q c', .slice a2 q c2]) ∧ q ≤ 8 ∧ RowP w' w.heap.size a' q c' zs ∧ RowP w' w.heap.size a2 q c2 ys ∧ Below w.heap.size w w'

theorem row_mono {w : World} {base base' q c : Nat} {ao : Option Addr} {l : List (Int × Int)} (h : RowP w base ao q c l) (hb : base' ≤ base) : RowP w base' ao q c l := by
  refine ⟨h.1, h.2.1, h.2.2.1, ?_⟩
  rcases h.2.2.2 with h0 | ⟨g, off, e, h1, h2⟩
  · exact Or.inl h0
  · exact Or.inr ⟨g, off, e, Nat.le_trans hb h1, h2⟩

set_option maxHeartbeats 2000000 in
set_option maxRecDepth 1000000 in
theorem drawSplit_c (ao : Option Addr) (n c : Nat) (w : World) (hn : n ≤ 9223372036854775807) (h : CodeOk w w.heap.size ao n) :
    Calls Try.prog 13 #[.slice ao n c] w (DrawnI w) := by
  have C0 : Hid (Cur (w.alloc (.cells #[.slice ao n c, .int .i64 0, .int .u64 0] 66)) w.heap.size ao n c 0) := cur_new _ hn h
  have G0 : Hid (GB w.heap.size w (w.alloc (.cells #[.slice ao n c, .int .i64 0, .int .u64 0] 66))) := (GB.refl _ _).alloc _
  have hz0 : w.heap.size + 1 ≤ (w.alloc (.cells #[.slice ao n c, .int .i64 0, .int .u64 0] 66)).heap.size := by simp
  clear h
  go_enter Try.func13, Try.ntmps13
  go_wp2_with fail
  refine (poly_c w.heap.size ao n c 0 _ (by omega) C0.out).mono ?_
  rintro e w1 ⟨a1, q, c1, zs, rfl, hq9, hzl, ho, hc1, hg1⟩
  have C1 : Hid (Cur w1 w.heap.size ao n c 200) := hc1.mono (by omega)
  have G1 : Hid (GB w.heap.size w w1) := G0.out.trans hg1
  have O1 : Hid (Own w1 (w.heap.size + 1) (.slice a1 q c1) zs) := ho.mono hz0
  have HZ : Hid (zs.length = q) := hzl
  clear hc1 hg1 ho hzl C0 G0
  go_wp2_with fail
  refine (pick_c w.heap.size ao n c 200 10 _ (by omega) (by omega) C1.out).mono ?_
  rintro e w2 ⟨b, rfl, hb0, hb1, hc1, hg1⟩
  have G2 : Hid (GB w.heap.size w w2) := G1.out.trans hg1
  have O2 : Hid (Own w2 (w.heap.size + 1) (.slice a1 q c1) zs) := O1.out.kept hg1 (sep_own O1.out (by omega))
  clear hc1 hg1 C1 G1 O1
  go_wp2
  refine bodyPost_ret (v := .tuple #[.slice a1 q c1, .int .i64 b]) (by simp [results, Try.results13, go_sem]; try rfl) rfl ?_
  exact ⟨a1, q, c1, zs, b, rfl, hq9, HZ.out, O2.out.mono (by omega), by omega, G2.out.below (Nat.le_refl _) (Nat.le_refl _)⟩
  
set_option maxHeartbeats 2000000 in
set_option maxRecDepth 1000000 in
theorem drawValue_c (ao : Option Addr) (n c : Nat) (w : World) (hn : n ≤ 9223372036854775807) (h : CodeOk w w.heap.size ao n) :
    Calls Try.prog 26 #[.slice ao n c] w (DrawnI w) := by
  have C0 : Hid (Cur (w.alloc (.cells #[.slice ao n c, .int .i64 0, .int .u64 0] 66)) w.heap.size ao n c 0) := cur_new _ hn h
  have G0 : Hid (GB w.heap.size w (w.alloc (.cells #[.slice ao n c, .int .i64 0, .int .u64 0] 66))) := (GB.refl _ _).alloc _
  have hz0 : w.heap.size + 1 ≤ (w.alloc (.cells #[.slice ao n c, .int .i64 0, .int .u64 0] 66)).heap.size := by simp
  clear h
  go_enter Try.func26, Try.ntmps26
  go_wp2_with fail
  refine (poly_c w.heap.size ao n c 0 _ (by omega) C0.out).mono ?_
  rintro e w1 ⟨a1, q, c1, zs, rfl, hq9, hzl, ho, hc1, hg1⟩
  have C1 : Hid (Cur w1 w.heap.size ao n c 200) := hc1.mono (by omega)
  have G1 : Hid (GB w.heap.size w w1) := G0.out.trans hg1
  have O1 : Hid (Own w1 (w.heap.size + 1) (.slice a1 q c1) zs) := ho.mono hz0
  have HZ : Hid (zs.length = q) := hzl
  clear hc1 hg1 ho hzl C0 G0
  have hlit := lit_cells (fun v => -9 ≤ v ∧ v ≤ 2000) w1 #[.int .i64 (-1), .int .i64 0, .int .i64 1, .int .i64 7, .int .i64 1498, .int .i64 1499] 3 6 rfl ⟨by omega, by omega, by omega, by omega, by omega, by omega, trivial⟩
  have hgd : w.heap.size < w1.heap.size := C1.out.lt
  go_wp2_with fail
  refine (among_p (fun v => -9 ≤ v ∧ v ≤ 2000) w.heap.size ao n c _ w1.heap.size 6 _ (by omega) (by omega) hlit (by omega) (C1.out.alloc _)).mono ?_
  rintro e w2 ⟨b, rfl, hbb, hc1, hg1⟩
  have G2 : Hid (GB w.heap.size w w2) := (G1.out.alloc _).trans hg1
  have O2 : Hid (Own w2 (w.heap.size + 1) (.slice a1 q c1) zs) := (O1.out.later (balloc _ _)).kept hg1 (sep_own (O1.out.later (balloc w1 (.cells #[.int .i64 (-1), .int .i64 0, .int .i64 1, .int .i64 7, .int .i64 1498, .int .i64 1499] 3))) (by omega))
  clear hc1 hg1 C1 G1 O1 hlit
  go_wp2
  refine bodyPost_ret (v := .tuple #[.slice a1 q c1, .int .i64 b]) (by simp [results, Try.results26, go_sem]; try rfl) rfl ?_
  exact ⟨a1, q, c1, zs, b, rfl, hq9, HZ.out, O2.out.mono (by omega), hbb, G2.out.below (Nat.le_refl _) (Nat.le_refl _)⟩
  
set_option maxHeartbeats 2000000 in
set_option maxRecDepth 1000000 in
theorem drawThrough_c (ao : Option Addr) (n c : Nat) (w : World) (hn : n ≤ 9223372036854775807) (h : CodeOk w w.heap.size ao n) :
    Calls Try.prog 33 #[.slice ao n c] w (DrawnPI w) := by
  have C0 : Hid (Cur (w.alloc (.cells #[.slice ao n c, .int .i64 0, .int .u64 0] 66)) w.heap.size ao n c 0) := cur_new _ hn h
  have G0 : Hid (GB w.heap.size w (w.alloc (.cells #[.slice ao n c, .int .i64 0, .int .u64 0] 66))) := (GB.refl _ _).alloc _
  have hz0 : w.heap.size + 1 ≤ (w.alloc (.cells #[.slice ao n c, .int .i64 0, .int .u64 0] 66)).heap.size := by simp
  clear h
  go_enter Try.func33, Try.ntmps33
  go_wp2_with fail
  refine (parts_c w.heap.size ao n c 0 _ (by omega) C0.out).mono ?_
  rintro e w1 ⟨a1, q, c1, zs, rfl, hq9, ho, hc1, hg1⟩
  have C1 : Hid (Cur w1 w.heap.size ao n c 200) := hc1.mono (by omega)
  have G1 : Hid (GB w.heap.size w w1) := G0.out.trans hg1
  have O1 : Hid (RowP w1 (w.heap.size + 1) a1 q c1 zs) := row_mono ho hz0
  clear hc1 hg1 ho C0 G0
  have hlit := lit_cells (fun v => -9 ≤ v ∧ v ≤ 2000) w1 #[.int .i64 (-1), .int .i64 0, .int .i64 1, .int .i64 5, .int .i64 1498, .int .i64 1499] 3 6 rfl ⟨by omega, by omega, by omega, by omega, by omega, by omega, trivial⟩
  have hgd : w.heap.size < w1.heap.size := C1.out.lt
  go_wp2_with fail
  refine (among_p (fun v => -9 ≤ v ∧ v ≤ 2000) w.heap.size ao n c _ w1.heap.size 6 _ (by omega) (by omega) hlit (by omega) (C1.out.alloc _)).mono ?_
  rintro e w2 ⟨b, rfl, hbb, hc1, hg1⟩
  have G2 : Hid (GB w.heap.size w w2) := (G1.out.alloc _).trans hg1
  have O2 : Hid (RowP w2 (w.heap.size + 1) a1 q c1 zs) := (O1.out.later (balloc w1 (.cells #[.int .i64 (-1), .int .i64 0, .int .i64 1, .int .i64 5, .int .i64 1498, .int .i64 1499] 3))).kept hg1 (by omega)
  clear hc1 hg1 C1 G1 O1 hlit
  go_wp2
  refine bodyPost_ret (v := .tuple #[.slice a1 q c1, .int .i64 b]) (by simp [results, Try.results33, go_sem]; try rfl) rfl ?_
  exact ⟨a1, q, c1, zs, b, rfl, hq9, row_mono O2.out (by omega), hbb, G2.out.below (Nat.le_refl _) (Nat.le_refl _)⟩
  
set_option maxHeartbeats 2000000 in
set_option maxRecDepth 1000000 in
theorem drawFits_c (ao : Option Addr) (n c : Nat) (w : World) (hn : n ≤ 9223372036854775807) (h : CodeOk w w.heap.size ao n) :
    Calls Try.prog 30 #[.slice ao n c] w (DrawnPI w) := by
  have C0 : Hid (Cur (w.alloc (.cells #[.slice ao n c, .int .i64 0, .int .u64 0] 66)) w.heap.size ao n c 0) := cur_new _ hn h
  have G0 : Hid (GB w.heap.size w (w.alloc (.cells #[.slice ao n c, .int .i64 0, .int .u64 0] 66))) := (GB.refl _ _).alloc _
  have hz0 : w.heap.size + 1 ≤ (w.alloc (.cells #[.slice ao n c, .int .i64 0, .int .u64 0] 66)).heap.size := by simp
  clear h
  go_enter Try.func30, Try.ntmps30
  go_wp2_with fail
  refine (parts_c w.heap.size ao n c 0 _ (by omega) C0.out).mono ?_
  rintro e w1 ⟨a1, q, c1, zs, rfl, hq9, ho, hc1, hg1⟩
  have C1 : Hid (Cur w1 w.heap.size ao n c 200) := hc1.mono (by omega)
  have G1 : Hid (GB w.heap.size w w1) := G0.out.trans hg1
  have O1 : Hid (RowP w1 (w.heap.size + 1) a1 q c1 zs) := row_mono ho hz0
  clear hc1 hg1 ho C0 G0
  have hlit := lit_cells (fun v => -9 ≤ v ∧ v ≤ 2000) w1 #[.int .i64 (-1), .int .i64 0, .int .i64 7, .int .i64 1498, .int .i64 1499] 3 5 rfl ⟨by omega, by omega, by omega, by omega, by omega, trivial⟩
  have hgd : w.heap.size < w1.heap.size := C1.out.lt
  go_wp2_with fail
  refine (among_p (fun v => -9 ≤ v ∧ v ≤ 2000) w.heap.size ao n c _ w1.heap.size 5 _ (by omega) (by omega) hlit (by omega) (C1.out.alloc _)).mono ?_
  rintro e w2 ⟨b, rfl, hbb, hc1, hg1⟩
  have G2 : Hid (GB w.heap.size w w2) := (G1.out.alloc _).trans hg1
  have O2 : Hid (RowP w2 (w.heap.size + 1) a1 q c1 zs) := (O1.out.later (balloc w1 (.cells #[.int .i64 (-1), .int .i64 0, .int .i64 7, .int .i64 1498, .int .i64 1499] 3))).kept hg1 (by omega)
  clear hc1 hg1 C1 G1 O1 hlit
  go_wp2
  refine bodyPost_ret (v := .tuple #[.slice a1 q c1, .int .i64 b]) (by simp [results, Try.results30, go_sem]; try rfl) rfl ?_
  exact ⟨a1, q, c1, zs, b, rfl, hq9, row_mono O2.out (by omega), hbb, G2.out.below (Nat.le_refl _) (Nat.le_refl _)⟩
  
set_option maxHeartbeats 2000000 in
set_option maxRecDepth 1000000 in
theorem drawJoin_c (ao : Option Addr) (n c : Nat) (w : World) (hn : n ≤ 9223372036854775807) (h : CodeOk w w.heap.size ao n) :
    Calls Try.prog 28 #[.slice ao n c] w (DrawnP w) := by
  have C0 : Hid (Cur (w.alloc (.cells #[.slice ao n c, .int .i64 0, .int .u64 0] 66)) w.heap.size ao n c 0) := cur_new _ hn h
  have G0 : Hid (GB w.heap.size w (w.alloc (.cells #[.slice ao n c, .int .i64 0, .int .u64 0] 66))) := (GB.refl _ _).alloc _
  have hz0 : w.heap.size + 1 ≤ (w.alloc (.cells #[.slice ao n c, .int .i64 0, .int .u64 0] 66)).heap.size := by simp
  clear h
  go_enter Try.func28, Try.ntmps28
  go_wp2_with fail
  refine (parts_c w.heap.size ao n c 0 _ (by omega) C0.out).mono ?_
  rintro e w1 ⟨a1, q, c1, zs, rfl, hq9, ho, hc1, hg1⟩
  have C1 : Hid (Cur w1 w.heap.size ao n c 200) := hc1.mono (by omega)
  have G1 : Hid (GB w.heap.size w w1) := G0.out.trans hg1
  have O1 : Hid (RowP w1 (w.heap.size + 1) a1 q c1 zs) := row_mono ho hz0
  clear hc1 hg1 ho C0 G0
  go_wp2
  go_ret
  exact ⟨a1, q, c1, zs, rfl, hq9, row_mono O1.out (by omega), G1.out.below (Nat.le_refl _) (Nat.le_refl _)⟩
  
theorem drawPoly_c (ao : Option Addr) (n c : Nat) (w : World) (hn : n ≤ 9223372036854775807) (h : CodeOk w w.heap.size ao n) :
    Calls Try.prog 35 #[.slice ao n c] w (DrawnP w) := by
  have q1 := drawJoin_c ao n c w hn h
  clear h
  go_enter Try.func35, Try.ntmps35
  go_wp2_with fail
  refine q1.mono ?_
  clear q1
  rintro e w1 ⟨a1, q, c1, zs, rfl, hq, hr, hb⟩
  have HR : Hid (RowP w1 w.heap.size a1 q c1 zs) := hr
  have HB : Hid (Below w.heap.size w w1) := hb
  clear hr hb
  go_wp2
  go_ret
  exact ⟨a1, q, c1, zs, rfl, hq, HR.out, HB.out⟩
  
set_option maxHeartbeats 2000000 in
set_option maxRecDepth 1000000 in
theorem drawWeights_c (ao : Option Addr) (n c : Nat) (w : World) (hn : n ≤ 9223372036854775807) (h : CodeOk w w.heap.size ao n) :
    Calls Try.prog 37 #[.slice ao n c] w (DrawnW w) := by
  have C0 : Hid (Cur (w.alloc (.cells #[.slice ao n c, .int .i64 0, .int .u64 0] 66)) w.heap.size ao n c 0) := cur_new _ hn h
  have G0 : Hid (GB w.heap.size w (w.alloc (.cells #[.slice ao n c, .int .i64 0, .int .u64 0] 66))) := (GB.refl _ _).alloc _
  have hz0 : w.heap.size + 1 ≤ (w.alloc (.cells #[.slice ao n c, .int .i64 0, .int .u64 0] 66)).heap.size := by simp
  clear h
  go_enter Try.func37, Try.ntmps37
  go_wp2_with fail
  refine (parts_c w.heap.size ao n c 0 _ (by omega) C0.out).mono ?_
  rintro e w1 ⟨a1, q, c1, zs, rfl, hq9, ho, hc1, hg1⟩
  have C1 : Hid (Cur w1 w.heap.size ao n c 200) := hc1.mono (by omega)
  have G1 : Hid (GB w.heap.size w w1) := G0.out.trans hg1
  have O1 : Hid (RowP w1 (w.heap.size + 1) a1 q c1 zs) := row_mono ho hz0
  clear hc1 hg1 ho C0 G0
  have hs := l5Split_c a1 q c1 zs w1 O1.out.1 (by omega) O1.out.rd
  go_wp2_with fail
  refine hs.mono ?_
  clear hs
  rintro e w2 ⟨a2, c2, a3, c3, rfl, ho1, ho2, hb⟩
  have HO : Hid (Own w2 w1.heap.size (.slice a2 q c2) (fsts zs)) := ho1
  have HB2 : Hid (Below w.heap.size w w2) := (G1.out.below (Nat.le_refl _) (Nat.le_refl _)).trans (hb.mono G1.out.size)
  have hsz : w.heap.size ≤ w1.heap.size := G1.out.size
  have HL : Hid ((fsts zs).length = q) := by show _ = _; rw [fsts_length]; exact O1.out.1
  clear ho1 ho2 hb
  go_wp2
  go_ret
  exact ⟨a2, q, c2, fsts zs, rfl, hq9, HL.out, HO.out.mono hsz, HB2.out⟩
  
end Go.Proofs.Ytamppekadobagaa
