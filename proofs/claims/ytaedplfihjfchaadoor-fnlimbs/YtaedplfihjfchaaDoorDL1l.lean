/- What FnLimbs draws besides: numbers, shifts, ints. -/
import Derived.Test.YtaedplfihjfchaaDoorD1Bl
namespace Go.Proofs.YtaedplfihjfchaaDoor
set_option linter.unusedVariables false
set_option maxRecDepth 1000000
set_option linter.unusedSimpArgs false
open Go.RowKit

def DrawnB (w : World) (e : Ending) (w' : World) : Prop := ∃ a' q c' zs, e = .returned (.agg #[.slice a' q c']) ∧ q ≤ 7 ∧ zs.length = q ∧ Own w' w.heap.size (.slice a' q c') zs ∧ Below w.heap.size w w'
def DrawnBI (w : World) (e : Ending) (w' : World) : Prop := ∃ a' q c' zs b, e = .returned (.tuple #[.agg #[.slice a' q c'], .int .i64 b]) ∧ q ≤ 7 ∧ zs.length = q ∧ (-97 ≤ b ∧ b ≤ 97) ∧ Own w' w.heap.size (.slice a' q c') zs ∧ Below w.heap.size w w'

/-- The box of an answer, nought, at the foot. -/
def One1 (w W : World) : Prop := W.cell? ⟨w.heap.size, 0, none⟩ = some (.slice none 0 0) ∧ W.frozen? ⟨w.heap.size, 0, none⟩ = false ∧ w.heap.size + 1 ≤ W.heap.size ∧ Below w.heap.size w W
theorem One1.grown {w W W' : World} {g : Nat} (h : One1 w W) (hg : GB g W W') (h2 : w.heap.size + 1 ≤ g) : One1 w W' := by
  obtain ⟨c1, f1, s1, b1⟩ := h
  have k := box_kept hg (r := w.heap.size) (by omega) (by omega)
  exact ⟨k.1 _ c1, k.2 f1, Nat.le_trans s1 hg.size, b1.trans (hg.below (by omega) (by omega))⟩
theorem One1.later {w W W' : World} (h : One1 w W) (hb : Below W.heap.size W W') : One1 w W' := by
  obtain ⟨c1, f1, s1, b1⟩ := h
  exact ⟨cell_keep (S := 0) hb c1, fcell_keep hb (by omega) f1, Nat.le_trans s1 hb.size, b1.trans (hb.mono b1.size)⟩
theorem start1 (ao : Option Addr) (n c : Nat) (w : World) (hn : n ≤ 9223372036854775807) (h : CodeOk w w.heap.size ao n) {W : World} (hW : (w.alloc (Obj.cells #[Value.slice none 0 0] 25)).alloc (Obj.cells #[Value.slice ao n c, Value.int IntKind.i64 0, Value.int IntKind.u64 0] 50) = W) : Cur W (w.heap.size + 1) ao n c 0 ∧ One1 w W ∧ W.heap.size = w.heap.size + 1 + 1 := by
  have e0 : (w.alloc (Obj.cells #[Value.slice none 0 0] 25)).heap.size = w.heap.size + 1 := by simp
  have o1 : One1 w (w.alloc (Obj.cells #[Value.slice none 0 0] 25)) := ⟨by simp, by rw [World.frozen?_alloc_at _ _ _ _ rfl], by simp, balloc _ _⟩
  refine ⟨?_, by rw [← hW]; exact o1.later (balloc _ _), by rw [← hW]; simp⟩
  rw [← hW]
  have h1 := cur_new (c := c) 50 hn (h.later (g' := (w.alloc (Obj.cells #[Value.slice none 0 0] 25)).heap.size) (balloc w _) (by rw [e0]; omega))
  rw [e0] at h1
  exact h1

set_option maxHeartbeats 2000000 in
theorem drawGood_c (ao : Option Addr) (n c : Nat) (w : World) (hn : n ≤ 9223372036854775807) (h : CodeOk w w.heap.size ao n) :
    Calls Tryd.prog 41 #[.slice ao n c] w (DrawnB w) := by
  obtain ⟨W, hW⟩ : ∃ W, (w.alloc (Obj.cells #[Value.slice none 0 0] 25)).alloc (Obj.cells #[Value.slice ao n c, Value.int IntKind.i64 0, Value.int IntKind.u64 0] 50) = W := ⟨_, rfl⟩
  obtain ⟨C0', T0', hs0⟩ := start1 ao n c w hn h hW
  have C0 : Hid (Cur W (w.heap.size + 1) ao n c 0) := C0'
  have T0 : Hid (One1 w W) := T0'
  clear h C0' T0'
  go_enter Tryd.func41, Tryd.ntmps41
  go_wp2_with fail
  clear hW
  refine (big_c (w.heap.size + 1) ao n c 0 _ (by omega) C0.out).mono ?_
  rintro e w1 ⟨a1, q1, c1, xs, rfl, hq1, hx, ho, hc1, hg1⟩
  have T1 : Hid (One1 w w1) := T0.out.grown hg1 (by omega)
  have O1 : Hid (Own w1 W.heap.size (.slice a1 q1 c1) xs) := ho
  have HX : Hid (xs.length = q1) := hx
  have sW := T0.out.2.2.1
  have k1 := T1.out.1
  have k3 := T1.out.2.1
  clear hc1 hg1 ho hx C0 T0
  go_wp2
  refine bodyPost_ret (v := .agg #[.slice a1 q1 c1]) (by simp [results, Tryd.results41, go_sem, k1]) rfl ?_
  exact ⟨a1, q1, c1, xs, rfl, hq1, HX.out, (own_set_below O1.out (by omega) _).mono (by omega), T1.out.2.2.2.setCell (Nat.le_refl _) _⟩

set_option maxHeartbeats 2000000 in
theorem drawDigits_c (ao : Option Addr) (n c : Nat) (w : World) (hn : n ≤ 9223372036854775807) (h : CodeOk w w.heap.size ao n) :
    Calls Tryd.prog 15 #[.slice ao n c] w (DrawnB w) := by
  obtain ⟨W, hW⟩ : ∃ W, w.alloc (Obj.cells #[Value.slice none 0 0] 25) = W := ⟨_, rfl⟩
  have T0 : Hid (One1 w W) := by rw [← hW]; exact ⟨by simp, by rw [World.frozen?_alloc_at _ _ _ _ rfl], by simp, balloc _ _⟩
  have H : Hid (CodeOk W W.heap.size ao n) := h.later T0.out.2.2.2 T0.out.2.2.2.size
  clear h
  go_enter Tryd.func15, Tryd.ntmps15
  go_wp2_with fail
  clear hW
  refine (drawGood_c ao n c _ hn H.out).mono ?_
  rintro e w1 ⟨a1, q1, c1, xs, rfl, hq1, hx, ho, hb⟩
  have T1 : Hid (One1 w w1) := T0.out.later hb
  have O1 : Hid (Own w1 W.heap.size (.slice a1 q1 c1) xs) := ho
  have HX : Hid (xs.length = q1) := hx
  have sW := T0.out.2.2.1
  have k1 := T1.out.1
  have k3 := T1.out.2.1
  clear hb ho hx T0
  go_wp2
  refine bodyPost_ret (v := .agg #[.slice a1 q1 c1]) (by simp [results, Tryd.results15, go_sem, k1]) rfl ?_
  exact ⟨a1, q1, c1, xs, rfl, hq1, HX.out, (own_set_below O1.out (by omega) _).mono (by omega), T1.out.2.2.2.setCell (Nat.le_refl _) _⟩

set_option maxHeartbeats 2000000 in
theorem drawBigOf_c (ao : Option Addr) (n c : Nat) (w : World) (hn : n ≤ 9223372036854775807) (h : CodeOk w w.heap.size ao n) :
    Calls Tryd.prog 24 #[.slice ao n c] w fun e w' => ∃ z : Int, e = .returned (.int .i64 z) ∧ (-1 ≤ z ∧ z ≤ 4611686018427387911) ∧ Below w.heap.size w w' := by
  have C0 : Hid (Cur (w.alloc (.cells #[.slice ao n c, .int .i64 0, .int .u64 0] 50)) w.heap.size ao n c 0) := cur_new _ hn h
  have G0 : Hid (GB w.heap.size w (w.alloc (.cells #[.slice ao n c, .int .i64 0, .int .u64 0] 50))) := (GB.refl _ _).alloc _
  clear h
  go_enter Tryd.func24, Tryd.ntmps24
  go_wp2_with fail
  refine (pick_c w.heap.size ao n c 0 256 _ (by omega) (by omega) C0.out).mono ?_
  rintro e w1 ⟨z, rfl, hz0, hz1, hc1, hg1⟩
  have G1 : Hid (GB w.heap.size w w1) := G0.out.trans hg1
  obtain ⟨V, hV⟩ : ∃ V, w1.alloc (.cells #[.int .i64 (-1), .int .i64 0, .int .i64 1, .int .i64 65535, .int .i64 65536, .int .i64 1099511627776, .int .i64 4611686018427387911, .int .i64 z] 3) = V := ⟨_, rfl⟩
  have C1 : Hid (Cur V w.heap.size ao n c 2) := by rw [← hV]; exact hc1.alloc _
  have G2 : Hid (GB w.heap.size w V) := by rw [← hV]; exact G1.out.alloc _
  have CV : Hid (∀ j, j < 8 → V.cell? ⟨w1.heap.size, j, none⟩ = some (.int .i64 (([-1, 0, 1, 65535, 65536, 1099511627776, 4611686018427387911, z] : List Int).getD j 0))) := fun j hj => by
    rw [← hV]
    have : j = 0 ∨ j = 1 ∨ j = 2 ∨ j = 3 ∨ j = 4 ∨ j = 5 ∨ j = 6 ∨ j = 7 := by omega
    rcases this with rfl | rfl | rfl | rfl | rfl | rfl | rfl | rfl <;> simp
  have hne : w1.heap.size ≠ w.heap.size := by have := G0.out.size; have := hg1.size; simp at *; omega
  clear hc1 hg1 C0 G0 G1
  go_wp2_with fail
  clear hV
  refine (among_c w.heap.size ao n c 2 w1.heap.size 8 [-1, 0, 1, 65535, 65536, 1099511627776, 4611686018427387911, z] _ (by omega) (by omega) rfl CV.out hne C1.out).mono ?_
  rintro e w2 ⟨y, rfl, hy, hc2, hg2⟩
  have hyb : -1 ≤ y ∧ y ≤ 4611686018427387911 := by
    simp only [List.mem_cons, List.not_mem_nil, or_false] at hy
    omega
  have B2 : Hid (Below w.heap.size w w2) := (G2.out.trans hg2).below (Nat.le_refl _) (Nat.le_refl _)
  clear hc2 hg2 hy C1 G2
  go_wp2
  go_ret
  exact ⟨y, rfl, hyb, B2.out⟩

set_option maxHeartbeats 2000000 in
theorem drawShift_c (ao : Option Addr) (n c : Nat) (w : World) (hn : n ≤ 9223372036854775807) (h : CodeOk w w.heap.size ao n) :
    Calls Tryd.prog 21 #[.slice ao n c] w (DrawnBI w) := by
  obtain ⟨W, hW⟩ : ∃ W, (w.alloc (Obj.cells #[Value.slice none 0 0] 25)).alloc (Obj.cells #[Value.slice ao n c, Value.int IntKind.i64 0, Value.int IntKind.u64 0] 50) = W := ⟨_, rfl⟩
  obtain ⟨C0', T0', hs0⟩ := start1 ao n c w hn h hW
  have C0 : Hid (Cur W (w.heap.size + 1) ao n c 0) := C0'
  have T0 : Hid (One1 w W) := T0'
  clear h C0' T0'
  go_enter Tryd.func21, Tryd.ntmps21
  go_wp2_with fail
  clear hW
  refine (big_c (w.heap.size + 1) ao n c 0 _ (by omega) C0.out).mono ?_
  rintro e w1 ⟨a1, q1, c1, xs, rfl, hq1, hx, ho, hc1, hg1⟩
  have T1 : Hid (One1 w w1) := T0.out.grown hg1 (by omega)
  have O1 : Hid (Own w1 W.heap.size (.slice a1 q1 c1) xs) := ho
  have HX : Hid (xs.length = q1) := hx
  have sW := T0.out.2.2.1
  have hne : w1.heap.size ≠ w.heap.size + 1 := by have := hg1.size; omega
  have hs1 : W.heap.size ≤ w1.heap.size := hg1.size
  obtain ⟨V, hV⟩ : ∃ V, w1.alloc (.cells #[.int .i64 (-97), .int .i64 (-96), .int .i64 (-17), .int .i64 (-1), .int .i64 0, .int .i64 1, .int .i64 5, .int .i64 16, .int .i64 40, .int .i64 96, .int .i64 97] 3) = V := ⟨_, rfl⟩
  have hbV : Below w1.heap.size w1 V := by rw [← hV]; exact balloc _ _
  have C1 : Hid (Cur V (w.heap.size + 1) ao n c 100) := hc1.later hbV
  have T2 : Hid (One1 w V) := T1.out.later hbV
  have O2 : Hid (Own V W.heap.size (.slice a1 q1 c1) xs) := O1.out.later hbV
  have CV : Hid (∀ j, j < 11 → V.cell? ⟨w1.heap.size, j, none⟩ = some (.int .i64 (([-97, -96, -17, -1, 0, 1, 5, 16, 40, 96, 97] : List Int).getD j 0))) := fun j hj => by
    rw [← hV]
    have : j = 0 ∨ j = 1 ∨ j = 2 ∨ j = 3 ∨ j = 4 ∨ j = 5 ∨ j = 6 ∨ j = 7 ∨ j = 8 ∨ j = 9 ∨ j = 10 := by omega
    rcases this with rfl | rfl | rfl | rfl | rfl | rfl | rfl | rfl | rfl | rfl | rfl <;> simp
  clear hc1 hg1 ho hx C0 T0 T1 O1 hbV
  go_wp2_with fail
  clear hV
  refine (among_c (w.heap.size + 1) ao n c 100 w1.heap.size 11 [-97, -96, -17, -1, 0, 1, 5, 16, 40, 96, 97] _ (by omega) (by omega) rfl CV.out hne C1.out).mono ?_
  rintro e w2 ⟨y, rfl, hy, hc2, hg2⟩
  have hyb : -97 ≤ y ∧ y ≤ 97 := by
    simp only [List.mem_cons, List.not_mem_nil, or_false] at hy
    omega
  have T3 : Hid (One1 w w2) := T2.out.grown hg2 (by omega)
  have O3 : Hid (Own w2 W.heap.size (.slice a1 q1 c1) xs) := O2.out.kept hg2 (sep_own O2.out (by omega))
  have k1 := T3.out.1
  have k3 := T3.out.2.1
  clear hc2 hg2 hy C1 T2 O2 CV
  go_wp2
  refine bodyPost_ret (v := .tuple #[.agg #[.slice a1 q1 c1], .int .i64 y]) (by simp [results, Tryd.results21, go_sem, k1]) rfl ?_
  exact ⟨a1, q1, c1, xs, y, rfl, hq1, HX.out, hyb, (own_set_below O3.out (by omega) _).mono (by omega), T3.out.2.2.2.setCell (Nat.le_refl _) _⟩

end Go.Proofs.YtaedplfihjfchaaDoor
