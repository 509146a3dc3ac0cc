/- Chapter 10, the specification: a client's own copy. -/
import Derived.Test.YteopaocomfepfaaAR10
namespace Go.Proofs.Yteopaocomfepfaa
set_option linter.unusedVariables false
set_option maxRecDepth 1000000
set_option linter.unusedSimpArgs false
open Go.RowKit

set_option maxHeartbeats 2000000 in
theorem l10Own_c (ao : Option Addr) (n c : Nat) (t y : Int) (xs : List ByteArray) (w : World) (hn : n ≤ 1000) (hq : QOk w ao n c xs) :
    Calls Try.prog 77 #[.agg #[.slice ao n c, .int .i64 t, .int .i64 y]] w fun e w' => ∃ a' c', e = .returned (.agg #[.slice a' n c', .int .i64 t, .int .i64 y]) ∧ OwnS w' w.heap.size (.slice a' n c') xs ∧ Below w.heap.size w w' := by
  have hC0 := (x3_new w (.slice ao n c) (.int .i64 t) (.int .i64 y) 45 (w.heap.size) (by simp)).later (balloc (w.alloc (.cells #[.slice ao n c, .int .i64 t, .int .i64 y] 45)) (.cells #[.slice none 0 0, .int .i64 0, .int .i64 0] 45))
  have hR0 := x3_new (w.alloc (.cells #[.slice ao n c, .int .i64 t, .int .i64 y] 45)) (.slice none 0 0) (.int .i64 0) (.int .i64 0) 45 (w.heap.size + 1) (by simp)
  have hB_W0 : Below w.heap.size w ((w.alloc (.cells #[.slice ao n c, .int .i64 t, .int .i64 y] 45)).alloc (.cells #[.slice none 0 0, .int .i64 0, .int .i64 0] 45)) := (balloc w (.cells #[.slice ao n c, .int .i64 t, .int .i64 y] 45)).alloc (by simp) (.cells #[.slice none 0 0, .int .i64 0, .int .i64 0] 45)
  have hS_W0 : (((w.alloc (.cells #[.slice ao n c, .int .i64 t, .int .i64 y] 45)).alloc (.cells #[.slice none 0 0, .int .i64 0, .int .i64 0] 45))).heap.size = w.heap.size + 2 := by simp
  obtain ⟨W0, hW0⟩ : ∃ V, ((w.alloc (.cells #[.slice ao n c, .int .i64 t, .int .i64 y] 45)).alloc (.cells #[.slice none 0 0, .int .i64 0, .int .i64 0] 45)) = V := ⟨_, rfl⟩
  rw [hW0] at hC0 hR0 hB_W0 hS_W0
  have HC0 : Hid (X3 W0 (w.heap.size) (.slice ao n c) (.int .i64 t) (.int .i64 y)) := hC0
  have HR0 : Hid (X3 W0 (w.heap.size + 1) (.slice none 0 0) (.int .i64 0) (.int .i64 0)) := hR0
  have HB_W0 : Hid (Below w.heap.size w W0) := hB_W0
  have HS_W0 : Hid (W0.heap.size = w.heap.size + 2) := hS_W0
  clear hB_W0 hS_W0 hC0 hR0
  have hx := hq.len
  have hE := emptyS W0
  have bE := balloc W0 (.cells #[] 9)
  have cE := HC0.out.later bE
  have rE := HR0.out.later bE
  have qE := (hq.later HB_W0.out).later bE
  have hz := HS_W0.out
  obtain ⟨E, hEe⟩ : ∃ E, W0.alloc (.cells #[] 9) = E := ⟨_, rfl⟩
  rw [hEe] at hE bE cE rE qE
  obtain ⟨v1, w1, r1, o1, g1, b1⟩ := appendS_run E W0.heap.size _ [] xs ao n c hE qE.rd hx qE.nil (by simp; omega) bE.size
  rw [List.nil_append] at o1
  obtain ⟨p1, k1, hv1⟩ := o1.shape
  rw [hx] at hv1
  subst hv1
  have c1 := cE.grown g1 (by simp [Value.ownBlock]; omega)
  have d1 := rE.grown g1 (by simp [Value.ownBlock]; omega)
  have HO : Hid (OwnS w1 W0.heap.size (.slice p1 n k1) xs) := o1
  have HB : Hid (Below w.heap.size w w1) := HB_W0.out.trans ((bE.trans b1).mono HB_W0.out.size)
  obtain ⟨⟨ca0, ca1, ca2⟩, caf⟩ := id (cE)
  clear caf
  obtain ⟨⟨cb0, cb1, cb2⟩, cbf⟩ := id (c1)
  have cbf0 := cbf 0
  clear cbf
  obtain ⟨⟨cd0, cd1, cd2⟩, cdf⟩ := id (d1)
  have cdf0 := cdf 0
  have cdf1 := cdf 1
  have cdf2 := cdf 2
  clear cdf
  clear hE bE cE rE qE hz o1 g1 b1 c1 d1 hq hx
  go_enter Try.func77, Try.ntmps77
  go_wp2_with (at_builtin; refine Lib.wpList_append_run _ rfl _ _ _ _ rfl _ _ rfl rfl _ _ (r1 _) ?_; clear r1)
  refine bodyPost_ret (v := .agg #[.slice p1 n k1, .int .i64 t, .int .i64 y]) (by simp [results, Try.results77, go_sem, cb0, cb1, cb2, cd0, cd1, cd2]; try rfl) rfl ?_
  refine ⟨p1, k1, rfl, ?_, ?_⟩
  · have hL := HS_W0.out
    refine OwnS.mono (base := W0.heap.size) ?_ (by omega)
    repeat (refine OwnS.set ?_ (by omega))
    exact HO.out
  · repeat (refine Below.setCell ?_ (by dsimp only; omega) _)
    exact HB.out

end Go.Proofs.Yteopaocomfepfaa
