/- What chapter 10 draws for FnCover: steps with a number of ways, steps alone, a trace's two numbers. -/
import Derived.Test.YteopaocomfepfaaD10
namespace Go.Proofs.Yteopaocomfepfaa
set_option linter.unusedVariables false
set_option maxRecDepth 1000000
set_option linter.unusedSimpArgs false
open Go.RowKit

set_option maxHeartbeats 1000000 in
theorem drawPlayC_c (ao : Option Addr) (n c : Nat) (w : World) (hn : n ≤ 9223372036854775807) (h : CodeOk w w.heap.size ao n) :
    Calls Try.prog 12 #[.slice ao n c] w fun e w' => ∃ (y : Int) (a : Option Addr) (q cc : Nat) (xs : List (Int × ByteArray)), e = .returned (.tuple #[.int .i64 y, .slice a q cc]) ∧ (1 ≤ y ∧ y ≤ 4) ∧ xs.length = q ∧ q ≤ 81 ∧ (∀ x ∈ xs, StepOk x) ∧ OwnK w' w.heap.size (.slice a q cc) xs ∧ Below w.heap.size w w' := by
  have C0 : Hid (Cur (w.alloc (.cells #[.slice ao n c, .int .i64 0, .int .u64 0] 87)) w.heap.size ao n c 0) := cur_new _ hn h
  have B0 : Hid (Below w.heap.size w (w.alloc (.cells #[.slice ao n c, .int .i64 0, .int .u64 0] 87))) := balloc _ _
  clear h
  go_enter Try.func12, Try.ntmps12
  go_wp2_with fail
  refine (pick_c w.heap.size ao n c 0 4 _ (by omega) (by omega) C0.out).mono ?_
  rintro e w1 ⟨x, rfl, hx0, hx1, hc1, hg1⟩
  have C1 : Hid (Cur w1 w.heap.size ao n c 2) := hc1
  have B1 : Hid (Below w.heap.size w w1) := B0.out.trans (hg1.below (B0.out.size) (Nat.le_refl _))
  clear hc1 hg1 C0 B0
  go_wp2_with fail
  refine (coverSteps_c w.heap.size ao n c 2 _ (by omega) C1.out).mono ?_
  rintro e w3 ⟨a, q, cc, xs, rfl, hq, hq21, hl, ho, hc1, hg1⟩
  have HO : Hid (OwnK w3 w.heap.size (.slice a q cc) xs) := ho.mono B1.out.size
  have HL : Hid (∀ x ∈ xs, StepOk x) := hl
  have HQ : Hid (xs.length = q) := hq
  have B3 : Hid (Below w.heap.size w w3) := B1.out.trans (hg1.below (B1.out.size) (Nat.le_refl _))
  clear hc1 hg1 C1 B1 ho hl hq
  go_wp2
  refine bodyPost_ret (v := .tuple #[.int .i64 (1 + x), .slice a q cc]) (by simp [results, Try.results12, go_sem]; try rfl) rfl ?_
  exact ⟨_, a, q, cc, xs, rfl, ⟨by omega, by omega⟩, HQ.out, hq21, HL.out, HO.out, B3.out⟩

set_option maxHeartbeats 1000000 in
theorem drawErase_c (ao : Option Addr) (n c : Nat) (w : World) (hn : n ≤ 9223372036854775807) (h : CodeOk w w.heap.size ao n) :
    Calls Try.prog 20 #[.slice ao n c] w fun e w' => ∃ (a : Option Addr) (q cc : Nat) (xs : List (Int × ByteArray)), e = .returned (.slice a q cc) ∧ xs.length = q ∧ q ≤ 81 ∧ (∀ x ∈ xs, StepOk x) ∧ OwnK w' w.heap.size (.slice a q cc) xs ∧ Below w.heap.size w w' := by
  have C0 : Hid (Cur (w.alloc (.cells #[.slice ao n c, .int .i64 0, .int .u64 0] 87)) w.heap.size ao n c 0) := cur_new _ hn h
  have B0 : Hid (Below w.heap.size w (w.alloc (.cells #[.slice ao n c, .int .i64 0, .int .u64 0] 87))) := balloc _ _
  clear h
  go_enter Try.func20, Try.ntmps20
  go_wp2_with fail
  refine (coverSteps_c w.heap.size ao n c 0 _ (by omega) C0.out).mono ?_
  rintro e w3 ⟨a, q, cc, xs, rfl, hq, hq21, hl, ho, hc1, hg1⟩
  have HO : Hid (OwnK w3 w.heap.size (.slice a q cc) xs) := ho.mono B0.out.size
  have HL : Hid (∀ x ∈ xs, StepOk x) := hl
  have HQ : Hid (xs.length = q) := hq
  have B3 : Hid (Below w.heap.size w w3) := B0.out.trans (hg1.below (B0.out.size) (Nat.le_refl _))
  clear hc1 hg1 C0 B0 ho hl hq
  go_wp2
  go_ret
  exact ⟨a, q, cc, xs, rfl, HQ.out, hq21, HL.out, HO.out, B3.out⟩

set_option maxHeartbeats 1000000 in
theorem drawTrace_c (ao : Option Addr) (n c : Nat) (w : World) (hn : n ≤ 9223372036854775807) (h : CodeOk w w.heap.size ao n) :
    Calls Try.prog 22 #[.slice ao n c] w fun e w' => ∃ (x y : Int), e = .returned (.tuple #[.int .i64 x, .int .i64 y]) ∧ (0 ≤ x ∧ x ≤ 5) ∧ (-1 ≤ y ∧ y ≤ 81) ∧ Below w.heap.size w w' := by
  have C0 : Hid (Cur (w.alloc (.cells #[.slice ao n c, .int .i64 0, .int .u64 0] 87)) w.heap.size ao n c 0) := cur_new _ hn h
  have B0 : Hid (Below w.heap.size w (w.alloc (.cells #[.slice ao n c, .int .i64 0, .int .u64 0] 87))) := balloc _ _
  clear h
  go_enter Try.func22, Try.ntmps22
  go_wp2_with fail
  refine (pick_c w.heap.size ao n c 0 6 _ (by omega) (by omega) C0.out).mono ?_
  rintro e w1 ⟨x, rfl, hx0, hx1, hc1, hg1⟩
  have C1 : Hid (Cur w1 w.heap.size ao n c 2) := hc1
  have B1 : Hid (Below w.heap.size w w1) := B0.out.trans (hg1.below (B0.out.size) (Nat.le_refl _))
  have hlt : w.heap.size < w1.heap.size := hc1.lt
  have hlit := lit_cells (fun v => -1 ≤ v ∧ v ≤ 81) w1 #[.int .i64 (-1), .int .i64 0, .int .i64 1, .int .i64 10, .int .i64 80, .int .i64 81] 3 6 rfl (by simp [allP])
  clear hc1 hg1 C0 B0
  go_wp2_with fail
  refine (among_p (fun v => -1 ≤ v ∧ v ≤ 81) w.heap.size ao n c 2 w1.heap.size 6 _ (by omega) (by omega) hlit (by omega) (C1.out.alloc _)).mono ?_
  rintro e w2 ⟨y, rfl, hy, hc1, hg1⟩
  have B2 : Hid (Below w.heap.size w w2) := (B1.out.trans ((balloc w1 _).mono B1.out.size)).trans (hg1.below (Nat.le_trans B1.out.size (balloc w1 _).size) (Nat.le_refl _))
  clear hc1 hg1 C1 B1 hlit
  go_wp2
  refine bodyPost_ret (v := .tuple #[.int .i64 x, .int .i64 y]) (by simp [results, Try.results22, go_sem]; try rfl) rfl ?_
  exact ⟨x, y, rfl, ⟨hx0, by omega⟩, hy, B2.out⟩

end Go.Proofs.Yteopaocomfepfaa
