/- Chapter 10, the specification: l10Step at a tick, something waiting. -/
import Derived.Test.YteopaocomfepfaaLO10
import Derived.Deep.RegionWith
namespace Go.Proofs.Yteopaocomfepfaa
set_option linter.unusedVariables false
set_option maxRecDepth 1000000
set_option linter.unusedSimpArgs false
open Go.RowKit

set_option maxHeartbeats 8000000 in
theorem l10Step_tick1 (b o m c : Nat) (t y : Int) (x : ByteArray) (rest : List ByteArray) (w : World) (hm : m ≤ 1000) (hq : QOk w (some ⟨b, o, none⟩) (m + 1) c (x :: rest)) (ht : 0 ≤ t ∧ t < 1000) (hy : 1 ≤ y ∧ y ≤ 4) :
    Calls Try.prog 62 #[.agg #[.slice (some ⟨b, o, none⟩) (m + 1) c, .int .i64 t, .int .i64 y], .agg #[.int .i64 2, .string ByteArray.empty]] w fun e w' => ∃ a' c', e = .returned (.tuple #[.agg #[.slice a' m c', .int .i64 (t + 1), .int .i64 y], .agg #[.int .i64 t, .int .i64 (t % y), .int .i64 24], .string x, .bool true]) ∧ OwnS w' w.heap.size (.slice a' m c') rest ∧ Below w.heap.size w w' := by
  have t0 := ht.1
  have t1 := ht.2
  have qe := fun wx => l10Emit_c t y wx t0 (by omega) hy.1 hy.2
  generalize t % y = ty at qe ⊢
  have hC0 := (((x3_new w (.slice (some ⟨b, o, none⟩) (m + 1) c) (.int .i64 t) (.int .i64 y) 45 (w.heap.size) (by simp)).later (balloc (w.alloc (.cells #[.slice (some ⟨b, o, none⟩) (m + 1) c, .int .i64 t, .int .i64 y] 45)) (.cells #[.int .i64 2, .string ByteArray.empty] 39))).later (balloc ((w.alloc (.cells #[.slice (some ⟨b, o, none⟩) (m + 1) c, .int .i64 t, .int .i64 y] 45)).alloc (.cells #[.int .i64 2, .string ByteArray.empty] 39)) (.cells #[.slice none 0 0, .int .i64 0, .int .i64 0] 45))).later (balloc (((w.alloc (.cells #[.slice (some ⟨b, o, none⟩) (m + 1) c, .int .i64 t, .int .i64 y] 45)).alloc (.cells #[.int .i64 2, .string ByteArray.empty] 39)).alloc (.cells #[.slice none 0 0, .int .i64 0, .int .i64 0] 45)) (.cells #[.int .i64 0, .int .i64 0, .int .i64 0] 52))
  have hS0 := ((x2_new (w.alloc (.cells #[.slice (some ⟨b, o, none⟩) (m + 1) c, .int .i64 t, .int .i64 y] 45)) (.int .i64 2) (.string ByteArray.empty) 39 (w.heap.size + 1) (by simp)).later (balloc ((w.alloc (.cells #[.slice (some ⟨b, o, none⟩) (m + 1) c, .int .i64 t, .int .i64 y] 45)).alloc (.cells #[.int .i64 2, .string ByteArray.empty] 39)) (.cells #[.slice none 0 0, .int .i64 0, .int .i64 0] 45))).later (balloc (((w.alloc (.cells #[.slice (some ⟨b, o, none⟩) (m + 1) c, .int .i64 t, .int .i64 y] 45)).alloc (.cells #[.int .i64 2, .string ByteArray.empty] 39)).alloc (.cells #[.slice none 0 0, .int .i64 0, .int .i64 0] 45)) (.cells #[.int .i64 0, .int .i64 0, .int .i64 0] 52))
  have hR0 := (x3_new ((w.alloc (.cells #[.slice (some ⟨b, o, none⟩) (m + 1) c, .int .i64 t, .int .i64 y] 45)).alloc (.cells #[.int .i64 2, .string ByteArray.empty] 39)) (.slice none 0 0) (.int .i64 0) (.int .i64 0) 45 (w.heap.size + 2) (by simp)).later (balloc (((w.alloc (.cells #[.slice (some ⟨b, o, none⟩) (m + 1) c, .int .i64 t, .int .i64 y] 45)).alloc (.cells #[.int .i64 2, .string ByteArray.empty] 39)).alloc (.cells #[.slice none 0 0, .int .i64 0, .int .i64 0] 45)) (.cells #[.int .i64 0, .int .i64 0, .int .i64 0] 52))
  have hE0 := x3_new (((w.alloc (.cells #[.slice (some ⟨b, o, none⟩) (m + 1) c, .int .i64 t, .int .i64 y] 45)).alloc (.cells #[.int .i64 2, .string ByteArray.empty] 39)).alloc (.cells #[.slice none 0 0, .int .i64 0, .int .i64 0] 45)) (.int .i64 0) (.int .i64 0) (.int .i64 0) 52 (w.heap.size + 3) (by simp)
  have hB_W0 : Below w.heap.size w ((((w.alloc (.cells #[.slice (some ⟨b, o, none⟩) (m + 1) c, .int .i64 t, .int .i64 y] 45)).alloc (.cells #[.int .i64 2, .string ByteArray.empty] 39)).alloc (.cells #[.slice none 0 0, .int .i64 0, .int .i64 0] 45)).alloc (.cells #[.int .i64 0, .int .i64 0, .int .i64 0] 52)) := (((balloc w (.cells #[.slice (some ⟨b, o, none⟩) (m + 1) c, .int .i64 t, .int .i64 y] 45)).alloc (by simp) (.cells #[.int .i64 2, .string ByteArray.empty] 39)).alloc (by simp; omega) (.cells #[.slice none 0 0, .int .i64 0, .int .i64 0] 45)).alloc (by simp; omega) (.cells #[.int .i64 0, .int .i64 0, .int .i64 0] 52)
  have hS_W0 : (((((w.alloc (.cells #[.slice (some ⟨b, o, none⟩) (m + 1) c, .int .i64 t, .int .i64 y] 45)).alloc (.cells #[.int .i64 2, .string ByteArray.empty] 39)).alloc (.cells #[.slice none 0 0, .int .i64 0, .int .i64 0] 45)).alloc (.cells #[.int .i64 0, .int .i64 0, .int .i64 0] 52))).heap.size = w.heap.size + 4 := by simp
  obtain ⟨W0, hW0⟩ : ∃ V, ((((w.alloc (.cells #[.slice (some ⟨b, o, none⟩) (m + 1) c, .int .i64 t, .int .i64 y] 45)).alloc (.cells #[.int .i64 2, .string ByteArray.empty] 39)).alloc (.cells #[.slice none 0 0, .int .i64 0, .int .i64 0] 45)).alloc (.cells #[.int .i64 0, .int .i64 0, .int .i64 0] 52)) = V := ⟨_, rfl⟩
  rw [hW0] at hC0 hS0 hR0 hE0 hB_W0 hS_W0
  have HC0 : Hid (X3 W0 (w.heap.size) (.slice (some ⟨b, o, none⟩) (m + 1) c) (.int .i64 t) (.int .i64 y)) := hC0
  have HS0 : Hid (X2 W0 (w.heap.size + 1) (.int .i64 2) (.string ByteArray.empty)) := hS0
  have HR0 : Hid (X3 W0 (w.heap.size + 2) (.slice none 0 0) (.int .i64 0) (.int .i64 0)) := hR0
  have HE0 : Hid (X3 W0 (w.heap.size + 3) (.int .i64 0) (.int .i64 0) (.int .i64 0)) := hE0
  have HB_W0 : Hid (Below w.heap.size w W0) := hB_W0
  have HS_W0 : Hid (W0.heap.size = w.heap.size + 4) := hS_W0
  clear hB_W0 hS_W0 hC0 hS0 hR0 hE0
  obtain ⟨⟨c0, c1, c2⟩, cf⟩ := id (HC0.out)
  have cf0 := cf 0
  have cf1 := cf 1
  clear cf
  obtain ⟨⟨q0, q1⟩, qf⟩ := id (HS0.out)
  clear qf
  obtain ⟨⟨r0, r1, r2⟩, rf⟩ := id (HR0.out)
  have rf0 := rf 0
  have rf1 := rf 1
  have rf2 := rf 2
  clear rf
  obtain ⟨⟨m0, m1, m2⟩, mf⟩ := id (HE0.out)
  have mf0 := mf 0
  have mf1 := mf 1
  have mf2 := mf 2
  clear mf
  have e1 := text_is (s := ByteArray.empty) rfl
  have hwr : IntKind.i64.wrap t = t := wrap_small t (by omega) (by omega)
  have hz := HS_W0.out
  have hx : rest.length = m := by have := hq.len; simpa using this
  have hcap := hq.cap
  have hrW := (hq.later HB_W0.out).rd
  obtain ⟨A, hA⟩ : ∃ A : Nat, A = (if c = 1 then o else o + 1) := ⟨_, rfl⟩
  have hsl : (if c = 1 then (some ⟨b, o, none⟩ : Option Addr) else some ⟨b, o + 1, none⟩) = some ⟨b, A, none⟩ := by rw [hA]; split <;> rfl
  have hR : RdS W0 (some ⟨b, A, none⟩) rest := by
    rcases hrW with h | ⟨b', o', he, hcell⟩
    · cases h
    · simp only [Option.some.injEq, Addr.mk.injEq] at he
      obtain ⟨rfl, rfl, _⟩ := he
      by_cases h0 : m = 0
      · exact Or.inl (List.length_eq_zero_iff.1 (hx.trans h0))
      · refine Or.inr ⟨b, A, rfl, fun j hj => ?_⟩
        rw [hA, if_neg (by omega)]
        have := hcell (j + 1) (by simpa using hj)
        rw [show o + 1 + j = o + (j + 1) by omega]
        simpa [List.getD] using this
  have g1 : W0.cell? ⟨b, o, none⟩ = some (.string x) := by
    obtain ⟨b', o', he, h⟩ := hrW.get (k := 0) (by simp)
    simp only [Option.some.injEq, Addr.mk.injEq] at he
    obtain ⟨rfl, rfl, _⟩ := he
    simpa [List.getD] using h
  -- the copy of what is left
  have bE := balloc W0 (.cells #[] 9)
  have hEo := emptyS W0
  have cE := HC0.out.later bE
  have rE := HR0.out.later bE
  have mE := HE0.out.later bE
  have hRE := hR.later bE
  obtain ⟨E, hEe⟩ : ∃ E, W0.alloc (.cells #[] 9) = E := ⟨_, rfl⟩
  rw [hEe] at bE hEo cE rE mE hRE
  obtain ⟨v1, w1, r1A, o1, g1A, b1⟩ := appendS_run E W0.heap.size _ [] rest (some ⟨b, A, none⟩) m (c - 1) hEo hRE hx (fun e => by cases e) (by simp; omega) bE.size
  rw [List.nil_append] at o1
  obtain ⟨a1, d1, hv1⟩ := o1.shape
  rw [hx] at hv1
  subst hv1
  have c1x := cE.grown g1A (by simp [Value.ownBlock]; omega)
  have r1x := rE.grown g1A (by simp [Value.ownBlock]; omega)
  have m1x := mE.grown g1A (by simp [Value.ownBlock]; omega)
  have B1 : Below w.heap.size w w1 := HB_W0.out.trans ((bE.trans b1).mono HB_W0.out.size)
  have HCu : Hid (X3 (w1.setCell ⟨w.heap.size, 0, none⟩ (.slice a1 m d1)) w.heap.size (.slice a1 m d1) (.int .i64 t) (.int .i64 y)) := c1x.set0 _
  have HRu : Hid (X3 (w1.setCell ⟨w.heap.size, 0, none⟩ (.slice a1 m d1)) (w.heap.size + 2) (.slice none 0 0) (.int .i64 0) (.int .i64 0)) := r1x.other (by omega)
  have HEu : Hid (X3 (w1.setCell ⟨w.heap.size, 0, none⟩ (.slice a1 m d1)) (w.heap.size + 3) (.int .i64 0) (.int .i64 0) (.int .i64 0)) := m1x.other (by omega)
  have HBu : Hid (Below w.heap.size w (w1.setCell ⟨w.heap.size, 0, none⟩ (.slice a1 m d1))) := B1.setCell (Nat.le_refl _) _
  have HQu : Hid (OwnS (w1.setCell ⟨w.heap.size, 0, none⟩ (.slice a1 m d1)) W0.heap.size (.slice a1 m d1) rest) := o1.set (by omega)
  obtain ⟨U, hU⟩ : ∃ U, w1.setCell ⟨w.heap.size, 0, none⟩ (.slice a1 m d1) = U := ⟨_, rfl⟩
  rw [hU] at HCu HRu HEu HBu HQu
  have HCx : Hid (X3 (U.setCell ⟨w.heap.size, 1, none⟩ (.int .i64 (t + 1))) w.heap.size (.slice a1 m d1) (.int .i64 (t + 1)) (.int .i64 y)) := HCu.out.set1 _
  have HRx : Hid (X3 (U.setCell ⟨w.heap.size, 1, none⟩ (.int .i64 (t + 1))) (w.heap.size + 2) (.slice none 0 0) (.int .i64 0) (.int .i64 0)) := HRu.out.other (by omega)
  have HEx : Hid (X3 (U.setCell ⟨w.heap.size, 1, none⟩ (.int .i64 (t + 1))) (w.heap.size + 3) (.int .i64 0) (.int .i64 0) (.int .i64 0)) := HEu.out.other (by omega)
  have HBx : Hid (Below w.heap.size w (U.setCell ⟨w.heap.size, 1, none⟩ (.int .i64 (t + 1)))) := HBu.out.setCell (Nat.le_refl _) _
  have HQx : Hid (OwnS (U.setCell ⟨w.heap.size, 1, none⟩ (.int .i64 (t + 1))) W0.heap.size (.slice a1 m d1) rest) := HQu.out.set (by omega)
  obtain ⟨V, hV⟩ : ∃ V, U.setCell ⟨w.heap.size, 1, none⟩ (.int .i64 (t + 1)) = V := ⟨_, rfl⟩
  rw [hV] at HCx HRx HEx HBx HQx
  have hp : (0 : Int) < (m : Int) + 1 := by omega
  have hc' : ((m : Int) + 1 ≤ (c : Int)) := by omega
  obtain ⟨⟨ca0, ca1, ca2⟩, caf⟩ := id (cE)
  clear caf
  obtain ⟨⟨cb0, cb1, cb2⟩, cbf⟩ := id (c1x)
  have cbf0 := cbf 0
  clear cbf
  obtain ⟨⟨cu0, cu1, cu2⟩, cuf⟩ := id (HCu.out)
  have cuf1 := cuf 1
  clear cuf
  obtain ⟨⟨cx0, cx1, cx2⟩, cxf⟩ := id (HCx.out)
  clear cxf
  obtain ⟨⟨rx0, rx1, rx2⟩, rxf⟩ := id (HRx.out)
  have rxf0 := rxf 0
  have rxf1 := rxf 1
  have rxf2 := rxf 2
  clear rxf
  obtain ⟨⟨mx0, mx1, mx2⟩, mxf⟩ := id (HEx.out)
  have mxf0 := mxf 0
  have mxf1 := mxf 1
  have mxf2 := mxf 2
  clear mxf
  clear bE hEo cE rE mE hRE o1 g1A b1 c1x r1x m1x B1 hR hrW hq hA hz hcap
  go_enter Try.func62, Try.ntmps62
  go_wp2_with (at_builtin; refine Lib.wpList_append_run _ rfl _ _ _ _ rfl _ _ rfl rfl _ _ (r1A _) ?_; clear r1A)
  go_region_with (go_at_call 68; refine (qe _).mono ?_; rintro e w9 ⟨rfl, hb⟩; have hb9 : Below V.heap.size V w9 := (by first | exact hb | exact ((Below.refl V.heap.size V).drew).trans hb); have HQ9 := HQx.out.later hb9; have HB9 : Hid (Below w.heap.size w w9) := HBx.out.trans (hb9.mono HBx.out.size); obtain ⟨⟨c0', c1', c2'⟩, cf'⟩ := HCx.out.later hb9; obtain ⟨⟨r0', r1', r2'⟩, rf'⟩ := HRx.out.later hb9; obtain ⟨⟨m0', m1', m2'⟩, mf'⟩ := HEx.out.later hb9; have rf0' := rf' 0; have rf1' := rf' 1; have rf2' := rf' 2; have mf0' := mf' 0; have mf1' := mf' 1; have mf2' := mf' 2; clear cf' rf' mf' hb hb9)
  all_goals (
    go_wp2
    refine bodyPost_ret (v := .tuple #[.agg #[.slice a1 m d1, .int .i64 (t + 1), .int .i64 y], .agg #[.int .i64 t, .int .i64 ty, .int .i64 24], .string x, .bool true]) (by simp [results, Try.results62, go_sem, r0', r1', r2', m0', m1', m2']; try rfl) rfl ?_
    have hz := HS_W0.out
    refine ⟨a1, d1, rfl, ?_, ?_⟩
    · refine OwnS.mono (base := W0.heap.size) ?_ (by omega)
      repeat (refine OwnS.set ?_ (by omega))
      exact HQ9
    · repeat (refine Below.setCell ?_ (by dsimp only; omega) _)
      exact HB9.out)

end Go.Proofs.Yteopaocomfepfaa
