/- The Draw.. functions of the law on sealed numbers. -/
import Derived.Test.YtobomcmjilcnaaaD2S
namespace Go.Proofs.Ytobomcmjilcnaaa
set_option linter.unusedVariables false
set_option maxRecDepth 1000000
set_option linter.unusedSimpArgs false
open Go.RowKit

/-- A block of two ints that may be written. -/
structure W2 (w : World) (r : Nat) : Prop where
  c0 : ∃ x, w.cell? ⟨r, 0, none⟩ = some (.int .i64 x)
  c1 : ∃ x, w.cell? ⟨r, 1, none⟩ = some (.int .i64 x)
  f : ∀ j, w.frozen? ⟨r, j, none⟩ = false
theorem W2.lt {w : World} {r : Nat} (h : W2 w r) : r < w.heap.size := by obtain ⟨x, hx⟩ := h.c0; exact World.block_lt_of_cell? _ _ hx
theorem W2.kept {w w' : World} {r g : Nat} (h : W2 w r) (hg : GB g w w') (hne : r ≠ g) : W2 w' r := by
  have hn : some r ≠ some g := by simpa using hne
  refine ⟨?_, ?_, fun j => ?_⟩
  · obtain ⟨x, hx⟩ := h.c0; exact ⟨x, hg.cell (a := ⟨r, 0, none⟩) hx hn⟩
  · obtain ⟨x, hx⟩ := h.c1; exact ⟨x, hg.cell (a := ⟨r, 1, none⟩) hx hn⟩
  · rw [World.frozen?_of_block (w := w) (hg.block r h.lt hn)]; exact h.f j
theorem W2.alloc {w : World} {r : Nat} (h : W2 w r) (o : Obj) : W2 (w.alloc o) r := by
  refine ⟨?_, ?_, fun j => ?_⟩
  · obtain ⟨x, hx⟩ := h.c0; exact ⟨x, by rw [World.cell?_alloc_lt _ _ _ h.lt]; exact hx⟩
  · obtain ⟨x, hx⟩ := h.c1; exact ⟨x, by rw [World.cell?_alloc_lt _ _ _ h.lt]; exact hx⟩
  · rw [World.frozen?_of_block (w := w) ((World.grownBy_alloc w o none).block r h.lt (by simp))]; exact h.f j
theorem W2.new (w : World) (x y : Int) (t : TypeId) : W2 (w.alloc (.cells #[.int .i64 x, .int .i64 y] t)) w.heap.size :=
  ⟨⟨x, by simp⟩, ⟨y, by simp⟩, fun j => by rw [World.frozen?_alloc_at _ _ _ _ rfl]⟩

set_option maxHeartbeats 4000000 in
theorem drawOpenNumber_c (ao : Option Addr) (n c : Nat) (w : World) (hn : n ≤ 9223372036854775807) (h : CodeOk w w.heap.size ao n) :
    Calls Try.prog 62 #[.slice ao n c] w fun e w' => ∃ x1 x2 x3 : Int, e = .returned (.tuple #[.int .i64 x1, .agg #[.int .i64 x2, .int .i64 x3]]) ∧ Below w.heap.size w w' := by
  have hb0 : Below w.heap.size w (w.alloc (.cells #[.int .i64 0, .int .i64 0] 25)) := (Below.refl _ _).alloc (by first | (simp; done) | (simp; omega)) _
  have HC : Hid (Cur ((w.alloc (.cells #[.int .i64 0, .int .i64 0] 25)).alloc (.cells #[.slice ao n c, .int .i64 0, .int .u64 0] 61)) (w.heap.size + 1) ao n c 0) := by
    have h1 := cur_new (w := (w.alloc (.cells #[.int .i64 0, .int .i64 0] 25))) (c := c) 61 hn (h.later hb0 (by first | (simp; done) | (simp; omega)))
    show Cur _ _ _ _ _ _
    simpa using h1
  have HG : Hid (Below w.heap.size w ((w.alloc (.cells #[.int .i64 0, .int .i64 0] 25)).alloc (.cells #[.slice ao n c, .int .i64 0, .int .u64 0] 61))) := hb0.alloc (by first | (simp; done) | (simp; omega)) _
  have R0 : Hid (W2 ((w.alloc (.cells #[.int .i64 0, .int .i64 0] 25)).alloc (.cells #[.slice ao n c, .int .i64 0, .int .u64 0] 61)) w.heap.size) := ((by have h1 := W2.new w 0 0 25; simpa using h1 : W2 (w.alloc (.cells #[.int .i64 0, .int .i64 0] 25)) w.heap.size)).alloc _
  have tok0 : True := trivial
  have tok1 : True := trivial
  clear h hb0
  go_enter Try.func62, Try.ntmps62
  go_wp2_with (first | (go_at_call 76; have _t := tok0; refine (secret_c (w.heap.size + 1) ao n c _ _ (by omega) HC.out).mono ?_; rintro e w1 ⟨x1, rfl, hc1, hg1⟩; replace R0 : Hid (W2 w1 w.heap.size) := R0.out.kept hg1 (by omega); replace HC : Hid (Cur w1 (w.heap.size + 1) ao n c _) := hc1; replace HG : Hid (Below w.heap.size w w1) := HG.out.trans (hg1.below (by have := HG.out.size; omega) (by omega)); clear hc1 hg1 tok0 _t) | (go_at_call 34; have _t := tok1; refine (sealed_c (w.heap.size + 1) ao n c _ _ (by omega) HC.out).mono ?_; rintro e w2 ⟨x2, x3, rfl, hc1, hg1⟩; replace R0 : Hid (W2 w2 w.heap.size) := R0.out.kept hg1 (by omega); replace HC : Hid (Cur w2 (w.heap.size + 1) ao n c _) := hc1; replace HG : Hid (Below w.heap.size w w2) := HG.out.trans (hg1.below (by have := HG.out.size; omega) (by omega)); clear hc1 hg1 tok1 _t; obtain ⟨y00, hy00⟩ := R0.out.c0; obtain ⟨y01, hy01⟩ := R0.out.c1; have hf00 := R0.out.f 0; have hf01 := R0.out.f 1))
  refine bodyPost_ret (v := .tuple #[.int .i64 x1, .agg #[.int .i64 x2, .int .i64 x3]]) (by simp [results, Try.results62, go_sem, hy00, hy01]) rfl ⟨x1, x2, x3, rfl, ((HG.out.setCell (by simp) _).setCell (by simp) _)⟩

end Go.Proofs.Ytobomcmjilcnaaa
