/- Chapter 10, the specification: l10Step at a tick. -/
import Derived.Test.YteopaocomfepfaaLO10
import Derived.Deep.RegionWith
namespace Go.Proofs.Yteopaocomfepfaa
set_option linter.unusedVariables false
set_option maxRecDepth 1000000
set_option linter.unusedSimpArgs false
open Go.RowKit

theorem OwnS.nilq (w : World) (base : Nat) : OwnS w base (.slice none 0 0) [] := World.ownsRow_nil _ _ _ _

set_option maxHeartbeats 8000000 in
theorem l10Step_tick0 (ao : Option Addr) (c : Nat) (t y : Int) (w : World) (ht : 0 ≤ t ∧ t < 1000) (hy : 1 ≤ y ∧ y ≤ 4) :
    Calls Try.prog 62 #[.agg #[.slice ao 0 c, .int .i64 t, .int .i64 y], .agg #[.int .i64 2, .string ByteArray.empty]] w fun e w' => e = .returned (.tuple #[.agg #[.slice ao 0 c, .int .i64 (t + 1), .int .i64 y], .agg #[.int .i64 t, .int .i64 (t % y), .int .i64 24], .string ByteArray.empty, .bool true]) ∧ Below w.heap.size w w' := by
  have t0 := ht.1
  have t1 := ht.2
  have qe := fun wx => l10Emit_c t y wx t0 (by omega) hy.1 hy.2
  generalize t % y = ty at qe ⊢
  have hC0 := (((x3_new w (.slice ao 0 c) (.int .i64 t) (.int .i64 y) 45 (w.heap.size) (by simp)).later (balloc (w.alloc (.cells #[.slice ao 0 c, .int .i64 t, .int .i64 y] 45)) (.cells #[.int .i64 2, .string ByteArray.empty] 39))).later (balloc ((w.alloc (.cells #[.slice ao 0 c, .int .i64 t, .int .i64 y] 45)).alloc (.cells #[.int .i64 2, .string ByteArray.empty] 39)) (.cells #[.slice none 0 0, .int .i64 0, .int .i64 0] 45))).later (balloc (((w.alloc (.cells #[.slice ao 0 c, .int .i64 t, .int .i64 y] 45)).alloc (.cells #[.int .i64 2, .string ByteArray.empty] 39)).alloc (.cells #[.slice none 0 0, .int .i64 0, .int .i64 0] 45)) (.cells #[.int .i64 0, .int .i64 0, .int .i64 0] 52))
  have hS0 := ((x2_new (w.alloc (.cells #[.slice ao 0 c, .int .i64 t, .int .i64 y] 45)) (.int .i64 2) (.string ByteArray.empty) 39 (w.heap.size + 1) (by simp)).later (balloc ((w.alloc (.cells #[.slice ao 0 c, .int .i64 t, .int .i64 y] 45)).alloc (.cells #[.int .i64 2, .string ByteArray.empty] 39)) (.cells #[.slice none 0 0, .int .i64 0, .int .i64 0] 45))).later (balloc (((w.alloc (.cells #[.slice ao 0 c, .int .i64 t, .int .i64 y] 45)).alloc (.cells #[.int .i64 2, .string ByteArray.empty] 39)).alloc (.cells #[.slice none 0 0, .int .i64 0, .int .i64 0] 45)) (.cells #[.int .i64 0, .int .i64 0, .int .i64 0] 52))
  have hR0 := (x3_new ((w.alloc (.cells #[.slice ao 0 c, .int .i64 t, .int .i64 y] 45)).alloc (.cells #[.int .i64 2, .string ByteArray.empty] 39)) (.slice none 0 0) (.int .i64 0) (.int .i64 0) 45 (w.heap.size + 2) (by simp)).later (balloc (((w.alloc (.cells #[.slice ao 0 c, .int .i64 t, .int .i64 y] 45)).alloc (.cells #[.int .i64 2, .string ByteArray.empty] 39)).alloc (.cells #[.slice none 0 0, .int .i64 0, .int .i64 0] 45)) (.cells #[.int .i64 0, .int .i64 0, .int .i64 0] 52))
  have hE0 := x3_new (((w.alloc (.cells #[.slice ao 0 c, .int .i64 t, .int .i64 y] 45)).alloc (.cells #[.int .i64 2, .string ByteArray.empty] 39)).alloc (.cells #[.slice none 0 0, .int .i64 0, .int .i64 0] 45)) (.int .i64 0) (.int .i64 0) (.int .i64 0) 52 (w.heap.size + 3) (by simp)
  have hB_W0 : Below w.heap.size w ((((w.alloc (.cells #[.slice ao 0 c, .int .i64 t, .int .i64 y] 45)).alloc (.cells #[.int .i64 2, .string ByteArray.empty] 39)).alloc (.cells #[.slice none 0 0, .int .i64 0, .int .i64 0] 45)).alloc (.cells #[.int .i64 0, .int .i64 0, .int .i64 0] 52)) := (((balloc w (.cells #[.slice ao 0 c, .int .i64 t, .int .i64 y] 45)).alloc (by simp) (.cells #[.int .i64 2, .string ByteArray.empty] 39)).alloc (by simp; omega) (.cells #[.slice none 0 0, .int .i64 0, .int .i64 0] 45)).alloc (by simp; omega) (.cells #[.int .i64 0, .int .i64 0, .int .i64 0] 52)
  have hS_W0 : (((((w.alloc (.cells #[.slice ao 0 c, .int .i64 t, .int .i64 y] 45)).alloc (.cells #[.int .i64 2, .string ByteArray.empty] 39)).alloc (.cells #[.slice none 0 0, .int .i64 0, .int .i64 0] 45)).alloc (.cells #[.int .i64 0, .int .i64 0, .int .i64 0] 52))).heap.size = w.heap.size + 4 := by simp
  obtain ⟨W0, hW0⟩ : ∃ V, ((((w.alloc (.cells #[.slice ao 0 c, .int .i64 t, .int .i64 y] 45)).alloc (.cells #[.int .i64 2, .string ByteArray.empty] 39)).alloc (.cells #[.slice none 0 0, .int .i64 0, .int .i64 0] 45)).alloc (.cells #[.int .i64 0, .int .i64 0, .int .i64 0] 52)) = V := ⟨_, rfl⟩
  rw [hW0] at hC0 hS0 hR0 hE0 hB_W0 hS_W0
  have HC0 : Hid (X3 W0 (w.heap.size) (.slice ao 0 c) (.int .i64 t) (.int .i64 y)) := hC0
  have HS0 : Hid (X2 W0 (w.heap.size + 1) (.int .i64 2) (.string ByteArray.empty)) := hS0
  have HR0 : Hid (X3 W0 (w.heap.size + 2) (.slice none 0 0) (.int .i64 0) (.int .i64 0)) := hR0
  have HE0 : Hid (X3 W0 (w.heap.size + 3) (.int .i64 0) (.int .i64 0) (.int .i64 0)) := hE0
  have HB_W0 : Hid (Below w.heap.size w W0) := hB_W0
  have HS_W0 : Hid (W0.heap.size = w.heap.size + 4) := hS_W0
  clear hB_W0 hS_W0 hC0 hS0 hR0 hE0
  obtain ⟨⟨c0, c1, c2⟩, cf⟩ := id (HC0.out)
  have cf0 := cf 0
  have cf1 := cf 1
  clear cf
  obtain ⟨⟨q0, q1⟩, qf⟩ := id (HS0.out)
  clear qf
  obtain ⟨⟨r0, r1, r2⟩, rf⟩ := id (HR0.out)
  have rf0 := rf 0
  have rf1 := rf 1
  have rf2 := rf 2
  clear rf
  obtain ⟨⟨m0, m1, m2⟩, mf⟩ := id (HE0.out)
  have mf0 := mf 0
  have mf1 := mf 1
  have mf2 := mf 2
  clear mf
  have e1 := text_is (s := ByteArray.empty) rfl
  have hwr : IntKind.i64.wrap t = t := wrap_small t (by omega) (by omega)
  have hz := HS_W0.out
  have HCx : Hid (X3 (W0.setCell ⟨w.heap.size, 1, none⟩ (.int .i64 (t + 1))) w.heap.size (.slice ao 0 c) (.int .i64 (t + 1)) (.int .i64 y)) := HC0.out.set1 _
  have HRx : Hid (X3 (W0.setCell ⟨w.heap.size, 1, none⟩ (.int .i64 (t + 1))) (w.heap.size + 2) (.slice none 0 0) (.int .i64 0) (.int .i64 0)) := HR0.out.other (by omega)
  have HEx : Hid (X3 (W0.setCell ⟨w.heap.size, 1, none⟩ (.int .i64 (t + 1))) (w.heap.size + 3) (.int .i64 0) (.int .i64 0) (.int .i64 0)) := HE0.out.other (by omega)
  have HBx : Hid (Below w.heap.size w (W0.setCell ⟨w.heap.size, 1, none⟩ (.int .i64 (t + 1)))) := HB_W0.out.setCell (Nat.le_refl _) _
  have HQx : Hid (OwnS (W0.setCell ⟨w.heap.size, 1, none⟩ (.int .i64 (t + 1))) 0 (.slice none 0 0) []) := OwnS.nilq _ _
  obtain ⟨V, hV⟩ : ∃ V, W0.setCell ⟨w.heap.size, 1, none⟩ (.int .i64 (t + 1)) = V := ⟨_, rfl⟩
  rw [hV] at HCx HRx HEx HBx HQx
  obtain ⟨⟨cx0, cx1, cx2⟩, cxf⟩ := id (HCx.out)
  clear cxf
  obtain ⟨⟨rx0, rx1, rx2⟩, rxf⟩ := id (HRx.out)
  have rxf0 := rxf 0
  have rxf1 := rxf 1
  have rxf2 := rxf 2
  clear rxf
  obtain ⟨⟨mx0, mx1, mx2⟩, mxf⟩ := id (HEx.out)
  have mxf0 := mxf 0
  have mxf1 := mxf 1
  have mxf2 := mxf 2
  clear mxf
  go_enter Try.func62, Try.ntmps62
  go_wp2_with fail
  go_region_with (go_at_call 68; refine (qe _).mono ?_; rintro e w9 ⟨rfl, hb⟩; have hb9 : Below V.heap.size V w9 := (by first | exact hb | exact ((Below.refl V.heap.size V).drew).trans hb); have HQ9 := HQx.out.later hb9; have HB9 : Hid (Below w.heap.size w w9) := HBx.out.trans (hb9.mono HBx.out.size); obtain ⟨⟨c0', c1', c2'⟩, cf'⟩ := HCx.out.later hb9; obtain ⟨⟨r0', r1', r2'⟩, rf'⟩ := HRx.out.later hb9; obtain ⟨⟨m0', m1', m2'⟩, mf'⟩ := HEx.out.later hb9; have rf0' := rf' 0; have rf1' := rf' 1; have rf2' := rf' 2; have mf0' := mf' 0; have mf1' := mf' 1; have mf2' := mf' 2; clear cf' rf' mf' hb hb9)
  all_goals (
    go_wp2
    refine bodyPost_ret (v := .tuple #[.agg #[.slice ao 0 c, .int .i64 (t + 1), .int .i64 y], .agg #[.int .i64 t, .int .i64 ty, .int .i64 24], .string ByteArray.empty, .bool true]) (by simp [results, Try.results62, go_sem, r0', r1', r2', m0', m1', m2']; try rfl) rfl ?_
    exact ⟨rfl, by
      repeat (refine Below.setCell ?_ (by dsimp only; omega) _)
      exact HB9.out⟩)

end Go.Proofs.Yteopaocomfepfaa
