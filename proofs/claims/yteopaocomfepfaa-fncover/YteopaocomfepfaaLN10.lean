/- Chapter 10, the specification: l10Step that is not done. -/
import Derived.Test.YteopaocomfepfaaLO10
import Derived.Deep.RegionWith
namespace Go.Proofs.Yteopaocomfepfaa
set_option linter.unusedVariables false
set_option maxRecDepth 1000000
set_option linter.unusedSimpArgs false
open Go.RowKit

set_option maxHeartbeats 4000000 in
theorem l10Step_k1a (ao : Option Addr) (n c : Nat) (t y : Int) (s : ByteArray) (w : World) (hn : n ≤ 1000) (hs : s.size ≤ 9223372036854775807) (hsay : sayB s = false) :
    Calls Try.prog 62 #[.agg #[.slice ao n c, .int .i64 t, .int .i64 y], .agg #[.int .i64 1, .string s]] w fun e w' => e = .returned (.tuple #[.agg #[.slice ao n c, .int .i64 t, .int .i64 y], .agg #[.int .i64 0, .int .i64 0, .int .i64 0], .string ByteArray.empty, .bool false]) ∧ Below w.heap.size w w' := by
  have hC0 := (((x3_new w (.slice ao n c) (.int .i64 t) (.int .i64 y) 45 (w.heap.size) (by simp)).later (balloc (w.alloc (.cells #[.slice ao n c, .int .i64 t, .int .i64 y] 45)) (.cells #[.int .i64 1, .string s] 39))).later (balloc ((w.alloc (.cells #[.slice ao n c, .int .i64 t, .int .i64 y] 45)).alloc (.cells #[.int .i64 1, .string s] 39)) (.cells #[.slice none 0 0, .int .i64 0, .int .i64 0] 45))).later (balloc (((w.alloc (.cells #[.slice ao n c, .int .i64 t, .int .i64 y] 45)).alloc (.cells #[.int .i64 1, .string s] 39)).alloc (.cells #[.slice none 0 0, .int .i64 0, .int .i64 0] 45)) (.cells #[.int .i64 0, .int .i64 0, .int .i64 0] 52))
  have hS0 := ((x2_new (w.alloc (.cells #[.slice ao n c, .int .i64 t, .int .i64 y] 45)) (.int .i64 1) (.string s) 39 (w.heap.size + 1) (by simp)).later (balloc ((w.alloc (.cells #[.slice ao n c, .int .i64 t, .int .i64 y] 45)).alloc (.cells #[.int .i64 1, .string s] 39)) (.cells #[.slice none 0 0, .int .i64 0, .int .i64 0] 45))).later (balloc (((w.alloc (.cells #[.slice ao n c, .int .i64 t, .int .i64 y] 45)).alloc (.cells #[.int .i64 1, .string s] 39)).alloc (.cells #[.slice none 0 0, .int .i64 0, .int .i64 0] 45)) (.cells #[.int .i64 0, .int .i64 0, .int .i64 0] 52))
  have hR0 := (x3_new ((w.alloc (.cells #[.slice ao n c, .int .i64 t, .int .i64 y] 45)).alloc (.cells #[.int .i64 1, .string s] 39)) (.slice none 0 0) (.int .i64 0) (.int .i64 0) 45 (w.heap.size + 2) (by simp)).later (balloc (((w.alloc (.cells #[.slice ao n c, .int .i64 t, .int .i64 y] 45)).alloc (.cells #[.int .i64 1, .string s] 39)).alloc (.cells #[.slice none 0 0, .int .i64 0, .int .i64 0] 45)) (.cells #[.int .i64 0, .int .i64 0, .int .i64 0] 52))
  have hE0 := x3_new (((w.alloc (.cells #[.slice ao n c, .int .i64 t, .int .i64 y] 45)).alloc (.cells #[.int .i64 1, .string s] 39)).alloc (.cells #[.slice none 0 0, .int .i64 0, .int .i64 0] 45)) (.int .i64 0) (.int .i64 0) (.int .i64 0) 52 (w.heap.size + 3) (by simp)
  have hB_W0 : Below w.heap.size w ((((w.alloc (.cells #[.slice ao n c, .int .i64 t, .int .i64 y] 45)).alloc (.cells #[.int .i64 1, .string s] 39)).alloc (.cells #[.slice none 0 0, .int .i64 0, .int .i64 0] 45)).alloc (.cells #[.int .i64 0, .int .i64 0, .int .i64 0] 52)) := (((balloc w (.cells #[.slice ao n c, .int .i64 t, .int .i64 y] 45)).alloc (by simp) (.cells #[.int .i64 1, .string s] 39)).alloc (by simp; omega) (.cells #[.slice none 0 0, .int .i64 0, .int .i64 0] 45)).alloc (by simp; omega) (.cells #[.int .i64 0, .int .i64 0, .int .i64 0] 52)
  have hS_W0 : (((((w.alloc (.cells #[.slice ao n c, .int .i64 t, .int .i64 y] 45)).alloc (.cells #[.int .i64 1, .string s] 39)).alloc (.cells #[.slice none 0 0, .int .i64 0, .int .i64 0] 45)).alloc (.cells #[.int .i64 0, .int .i64 0, .int .i64 0] 52))).heap.size = w.heap.size + 4 := by simp
  obtain ⟨W0, hW0⟩ : ∃ V, ((((w.alloc (.cells #[.slice ao n c, .int .i64 t, .int .i64 y] 45)).alloc (.cells #[.int .i64 1, .string s] 39)).alloc (.cells #[.slice none 0 0, .int .i64 0, .int .i64 0] 45)).alloc (.cells #[.int .i64 0, .int .i64 0, .int .i64 0] 52)) = V := ⟨_, rfl⟩
  rw [hW0] at hC0 hS0 hR0 hE0 hB_W0 hS_W0
  have HC0 : Hid (X3 W0 (w.heap.size) (.slice ao n c) (.int .i64 t) (.int .i64 y)) := hC0
  have HS0 : Hid (X2 W0 (w.heap.size + 1) (.int .i64 1) (.string s)) := hS0
  have HR0 : Hid (X3 W0 (w.heap.size + 2) (.slice none 0 0) (.int .i64 0) (.int .i64 0)) := hR0
  have HE0 : Hid (X3 W0 (w.heap.size + 3) (.int .i64 0) (.int .i64 0) (.int .i64 0)) := hE0
  have HB_W0 : Hid (Below w.heap.size w W0) := hB_W0
  have HS_W0 : Hid (W0.heap.size = w.heap.size + 4) := hS_W0
  clear hB_W0 hS_W0 hC0 hS0 hR0 hE0
  obtain ⟨⟨c0, c1, c2⟩, cf⟩ := id (HC0.out)
  have cf0 := cf 0
  have cf1 := cf 1
  clear cf
  obtain ⟨⟨q0, q1⟩, qf⟩ := id (HS0.out)
  clear qf
  obtain ⟨⟨r0, r1, r2⟩, rf⟩ := id (HR0.out)
  have rf0 := rf 0
  have rf1 := rf 1
  have rf2 := rf 2
  clear rf
  obtain ⟨⟨m0, m1, m2⟩, mf⟩ := id (HE0.out)
  have mf0 := mf 0
  have mf1 := mf 1
  have mf2 := mf 2
  clear mf
  have qt := l10Text_c s W0 hs
  rw [hsay] at qt
  go_enter Try.func62, Try.ntmps62
  go_wp2_with fail
  refine qt.mono ?_
  clear qt
  rintro e w' ⟨rfl, hw⟩
  subst w'
  clear hW0
  go_wp2
  refine bodyPost_ret (v := .tuple #[.agg #[.slice ao n c, .int .i64 t, .int .i64 y], .agg #[.int .i64 0, .int .i64 0, .int .i64 0], .string ByteArray.empty, .bool false]) (by simp [results, Try.results62, go_sem, c0, c1, c2, r0, r1, r2, m0, m1, m2]; try rfl) rfl ?_
  exact ⟨rfl, by
    repeat (refine Below.setCell ?_ (by dsimp only; omega) _)
    exact HB_W0.out⟩

set_option maxHeartbeats 4000000 in
theorem l10Step_k1b (ao : Option Addr) (n c : Nat) (t y : Int) (s : ByteArray) (w : World) (hn : n ≤ 1000) (hs : s.size ≤ 9223372036854775807) (hsay : sayB s = true) (hl : ¬ n < 5) :
    Calls Try.prog 62 #[.agg #[.slice ao n c, .int .i64 t, .int .i64 y], .agg #[.int .i64 1, .string s]] w fun e w' => e = .returned (.tuple #[.agg #[.slice ao n c, .int .i64 t, .int .i64 y], .agg #[.int .i64 0, .int .i64 0, .int .i64 0], .string ByteArray.empty, .bool false]) ∧ Below w.heap.size w w' := by
  have hC0 := (((x3_new w (.slice ao n c) (.int .i64 t) (.int .i64 y) 45 (w.heap.size) (by simp)).later (balloc (w.alloc (.cells #[.slice ao n c, .int .i64 t, .int .i64 y] 45)) (.cells #[.int .i64 1, .string s] 39))).later (balloc ((w.alloc (.cells #[.slice ao n c, .int .i64 t, .int .i64 y] 45)).alloc (.cells #[.int .i64 1, .string s] 39)) (.cells #[.slice none 0 0, .int .i64 0, .int .i64 0] 45))).later (balloc (((w.alloc (.cells #[.slice ao n c, .int .i64 t, .int .i64 y] 45)).alloc (.cells #[.int .i64 1, .string s] 39)).alloc (.cells #[.slice none 0 0, .int .i64 0, .int .i64 0] 45)) (.cells #[.int .i64 0, .int .i64 0, .int .i64 0] 52))
  have hS0 := ((x2_new (w.alloc (.cells #[.slice ao n c, .int .i64 t, .int .i64 y] 45)) (.int .i64 1) (.string s) 39 (w.heap.size + 1) (by simp)).later (balloc ((w.alloc (.cells #[.slice ao n c, .int .i64 t, .int .i64 y] 45)).alloc (.cells #[.int .i64 1, .string s] 39)) (.cells #[.slice none 0 0, .int .i64 0, .int .i64 0] 45))).later (balloc (((w.alloc (.cells #[.slice ao n c, .int .i64 t, .int .i64 y] 45)).alloc (.cells #[.int .i64 1, .string s] 39)).alloc (.cells #[.slice none 0 0, .int .i64 0, .int .i64 0] 45)) (.cells #[.int .i64 0, .int .i64 0, .int .i64 0] 52))
  have hR0 := (x3_new ((w.alloc (.cells #[.slice ao n c, .int .i64 t, .int .i64 y] 45)).alloc (.cells #[.int .i64 1, .string s] 39)) (.slice none 0 0) (.int .i64 0) (.int .i64 0) 45 (w.heap.size + 2) (by simp)).later (balloc (((w.alloc (.cells #[.slice ao n c, .int .i64 t, .int .i64 y] 45)).alloc (.cells #[.int .i64 1, .string s] 39)).alloc (.cells #[.slice none 0 0, .int .i64 0, .int .i64 0] 45)) (.cells #[.int .i64 0, .int .i64 0, .int .i64 0] 52))
  have hE0 := x3_new (((w.alloc (.cells #[.slice ao n c, .int .i64 t, .int .i64 y] 45)).alloc (.cells #[.int .i64 1, .string s] 39)).alloc (.cells #[.slice none 0 0, .int .i64 0, .int .i64 0] 45)) (.int .i64 0) (.int .i64 0) (.int .i64 0) 52 (w.heap.size + 3) (by simp)
  have hB_W0 : Below w.heap.size w ((((w.alloc (.cells #[.slice ao n c, .int .i64 t, .int .i64 y] 45)).alloc (.cells #[.int .i64 1, .string s] 39)).alloc (.cells #[.slice none 0 0, .int .i64 0, .int .i64 0] 45)).alloc (.cells #[.int .i64 0, .int .i64 0, .int .i64 0] 52)) := (((balloc w (.cells #[.slice ao n c, .int .i64 t, .int .i64 y] 45)).alloc (by simp) (.cells #[.int .i64 1, .string s] 39)).alloc (by simp; omega) (.cells #[.slice none 0 0, .int .i64 0, .int .i64 0] 45)).alloc (by simp; omega) (.cells #[.int .i64 0, .int .i64 0, .int .i64 0] 52)
  have hS_W0 : (((((w.alloc (.cells #[.slice ao n c, .int .i64 t, .int .i64 y] 45)).alloc (.cells #[.int .i64 1, .string s] 39)).alloc (.cells #[.slice none 0 0, .int .i64 0, .int .i64 0] 45)).alloc (.cells #[.int .i64 0, .int .i64 0, .int .i64 0] 52))).heap.size = w.heap.size + 4 := by simp
  obtain ⟨W0, hW0⟩ : ∃ V, ((((w.alloc (.cells #[.slice ao n c, .int .i64 t, .int .i64 y] 45)).alloc (.cells #[.int .i64 1, .string s] 39)).alloc (.cells #[.slice none 0 0, .int .i64 0, .int .i64 0] 45)).alloc (.cells #[.int .i64 0, .int .i64 0, .int .i64 0] 52)) = V := ⟨_, rfl⟩
  rw [hW0] at hC0 hS0 hR0 hE0 hB_W0 hS_W0
  have HC0 : Hid (X3 W0 (w.heap.size) (.slice ao n c) (.int .i64 t) (.int .i64 y)) := hC0
  have HS0 : Hid (X2 W0 (w.heap.size + 1) (.int .i64 1) (.string s)) := hS0
  have HR0 : Hid (X3 W0 (w.heap.size + 2) (.slice none 0 0) (.int .i64 0) (.int .i64 0)) := hR0
  have HE0 : Hid (X3 W0 (w.heap.size + 3) (.int .i64 0) (.int .i64 0) (.int .i64 0)) := hE0
  have HB_W0 : Hid (Below w.heap.size w W0) := hB_W0
  have HS_W0 : Hid (W0.heap.size = w.heap.size + 4) := hS_W0
  clear hB_W0 hS_W0 hC0 hS0 hR0 hE0
  obtain ⟨⟨c0, c1, c2⟩, cf⟩ := id (HC0.out)
  have cf0 := cf 0
  have cf1 := cf 1
  clear cf
  obtain ⟨⟨q0, q1⟩, qf⟩ := id (HS0.out)
  clear qf
  obtain ⟨⟨r0, r1, r2⟩, rf⟩ := id (HR0.out)
  have rf0 := rf 0
  have rf1 := rf 1
  have rf2 := rf 2
  clear rf
  obtain ⟨⟨m0, m1, m2⟩, mf⟩ := id (HE0.out)
  have mf0 := mf 0
  have mf1 := mf 1
  have mf2 := mf 2
  clear mf
  have hl5 : ¬ (n : Int) < 5 := by omega
  clear hl
  have qt := l10Text_c s W0 hs
  rw [hsay] at qt
  go_enter Try.func62, Try.ntmps62
  go_wp2_with fail
  refine qt.mono ?_
  clear qt
  rintro e w' ⟨rfl, hw⟩
  subst w'
  clear hW0
  go_wp2
  refine bodyPost_ret (v := .tuple #[.agg #[.slice ao n c, .int .i64 t, .int .i64 y], .agg #[.int .i64 0, .int .i64 0, .int .i64 0], .string ByteArray.empty, .bool false]) (by simp [results, Try.results62, go_sem, c0, c1, c2, r0, r1, r2, m0, m1, m2]; try rfl) rfl ?_
  exact ⟨rfl, by
    repeat (refine Below.setCell ?_ (by dsimp only; omega) _)
    exact HB_W0.out⟩

set_option maxHeartbeats 4000000 in
theorem l10Step_k0 (ao : Option Addr) (n c : Nat) (t y k : Int) (s : ByteArray) (w : World) (hn : n ≤ 1000) (hk : k ≠ 1) (hk2 : k ≠ 2) :
    Calls Try.prog 62 #[.agg #[.slice ao n c, .int .i64 t, .int .i64 y], .agg #[.int .i64 k, .string s]] w fun e w' => e = .returned (.tuple #[.agg #[.slice ao n c, .int .i64 t, .int .i64 y], .agg #[.int .i64 0, .int .i64 0, .int .i64 0], .string ByteArray.empty, .bool false]) ∧ Below w.heap.size w w' := by
  have hC0 := (((x3_new w (.slice ao n c) (.int .i64 t) (.int .i64 y) 45 (w.heap.size) (by simp)).later (balloc (w.alloc (.cells #[.slice ao n c, .int .i64 t, .int .i64 y] 45)) (.cells #[.int .i64 k, .string s] 39))).later (balloc ((w.alloc (.cells #[.slice ao n c, .int .i64 t, .int .i64 y] 45)).alloc (.cells #[.int .i64 k, .string s] 39)) (.cells #[.slice none 0 0, .int .i64 0, .int .i64 0] 45))).later (balloc (((w.alloc (.cells #[.slice ao n c, .int .i64 t, .int .i64 y] 45)).alloc (.cells #[.int .i64 k, .string s] 39)).alloc (.cells #[.slice none 0 0, .int .i64 0, .int .i64 0] 45)) (.cells #[.int .i64 0, .int .i64 0, .int .i64 0] 52))
  have hS0 := ((x2_new (w.alloc (.cells #[.slice ao n c, .int .i64 t, .int .i64 y] 45)) (.int .i64 k) (.string s) 39 (w.heap.size + 1) (by simp)).later (balloc ((w.alloc (.cells #[.slice ao n c, .int .i64 t, .int .i64 y] 45)).alloc (.cells #[.int .i64 k, .string s] 39)) (.cells #[.slice none 0 0, .int .i64 0, .int .i64 0] 45))).later (balloc (((w.alloc (.cells #[.slice ao n c, .int .i64 t, .int .i64 y] 45)).alloc (.cells #[.int .i64 k, .string s] 39)).alloc (.cells #[.slice none 0 0, .int .i64 0, .int .i64 0] 45)) (.cells #[.int .i64 0, .int .i64 0, .int .i64 0] 52))
  have hR0 := (x3_new ((w.alloc (.cells #[.slice ao n c, .int .i64 t, .int .i64 y] 45)).alloc (.cells #[.int .i64 k, .string s] 39)) (.slice none 0 0) (.int .i64 0) (.int .i64 0) 45 (w.heap.size + 2) (by simp)).later (balloc (((w.alloc (.cells #[.slice ao n c, .int .i64 t, .int .i64 y] 45)).alloc (.cells #[.int .i64 k, .string s] 39)).alloc (.cells #[.slice none 0 0, .int .i64 0, .int .i64 0] 45)) (.cells #[.int .i64 0, .int .i64 0, .int .i64 0] 52))
  have hE0 := x3_new (((w.alloc (.cells #[.slice ao n c, .int .i64 t, .int .i64 y] 45)).alloc (.cells #[.int .i64 k, .string s] 39)).alloc (.cells #[.slice none 0 0, .int .i64 0, .int .i64 0] 45)) (.int .i64 0) (.int .i64 0) (.int .i64 0) 52 (w.heap.size + 3) (by simp)
  have hB_W0 : Below w.heap.size w ((((w.alloc (.cells #[.slice ao n c, .int .i64 t, .int .i64 y] 45)).alloc (.cells #[.int .i64 k, .string s] 39)).alloc (.cells #[.slice none 0 0, .int .i64 0, .int .i64 0] 45)).alloc (.cells #[.int .i64 0, .int .i64 0, .int .i64 0] 52)) := (((balloc w (.cells #[.slice ao n c, .int .i64 t, .int .i64 y] 45)).alloc (by simp) (.cells #[.int .i64 k, .string s] 39)).alloc (by simp; omega) (.cells #[.slice none 0 0, .int .i64 0, .int .i64 0] 45)).alloc (by simp; omega) (.cells #[.int .i64 0, .int .i64 0, .int .i64 0] 52)
  have hS_W0 : (((((w.alloc (.cells #[.slice ao n c, .int .i64 t, .int .i64 y] 45)).alloc (.cells #[.int .i64 k, .string s] 39)).alloc (.cells #[.slice none 0 0, .int .i64 0, .int .i64 0] 45)).alloc (.cells #[.int .i64 0, .int .i64 0, .int .i64 0] 52))).heap.size = w.heap.size + 4 := by simp
  obtain ⟨W0, hW0⟩ : ∃ V, ((((w.alloc (.cells #[.slice ao n c, .int .i64 t, .int .i64 y] 45)).alloc (.cells #[.int .i64 k, .string s] 39)).alloc (.cells #[.slice none 0 0, .int .i64 0, .int .i64 0] 45)).alloc (.cells #[.int .i64 0, .int .i64 0, .int .i64 0] 52)) = V := ⟨_, rfl⟩
  rw [hW0] at hC0 hS0 hR0 hE0 hB_W0 hS_W0
  have HC0 : Hid (X3 W0 (w.heap.size) (.slice ao n c) (.int .i64 t) (.int .i64 y)) := hC0
  have HS0 : Hid (X2 W0 (w.heap.size + 1) (.int .i64 k) (.string s)) := hS0
  have HR0 : Hid (X3 W0 (w.heap.size + 2) (.slice none 0 0) (.int .i64 0) (.int .i64 0)) := hR0
  have HE0 : Hid (X3 W0 (w.heap.size + 3) (.int .i64 0) (.int .i64 0) (.int .i64 0)) := hE0
  have HB_W0 : Hid (Below w.heap.size w W0) := hB_W0
  have HS_W0 : Hid (W0.heap.size = w.heap.size + 4) := hS_W0
  clear hB_W0 hS_W0 hC0 hS0 hR0 hE0
  obtain ⟨⟨c0, c1, c2⟩, cf⟩ := id (HC0.out)
  have cf0 := cf 0
  have cf1 := cf 1
  clear cf
  obtain ⟨⟨q0, q1⟩, qf⟩ := id (HS0.out)
  clear qf
  obtain ⟨⟨r0, r1, r2⟩, rf⟩ := id (HR0.out)
  have rf0 := rf 0
  have rf1 := rf 1
  have rf2 := rf 2
  clear rf
  obtain ⟨⟨m0, m1, m2⟩, mf⟩ := id (HE0.out)
  have mf0 := mf 0
  have mf1 := mf 1
  have mf2 := mf 2
  clear mf
  have e1 : (k == 1) = false := by rw [beq_eq_false_iff_ne]; exact hk
  have e2 : (k == 2) = false := by rw [beq_eq_false_iff_ne]; exact hk2
  go_enter Try.func62, Try.ntmps62
  go_wp2
  refine bodyPost_ret (v := .tuple #[.agg #[.slice ao n c, .int .i64 t, .int .i64 y], .agg #[.int .i64 0, .int .i64 0, .int .i64 0], .string ByteArray.empty, .bool false]) (by simp [results, Try.results62, go_sem, c0, c1, c2, r0, r1, r2, m0, m1, m2]; try rfl) rfl ?_
  exact ⟨rfl, by
    repeat (refine Below.setCell ?_ (by dsimp only; omega) _)
    exact HB_W0.out⟩

set_option maxHeartbeats 4000000 in
theorem l10Step_k2a (ao : Option Addr) (n c : Nat) (t y : Int) (s : ByteArray) (w : World) (hn : n ≤ 1000) (hs0 : ¬ s = ByteArray.empty) :
    Calls Try.prog 62 #[.agg #[.slice ao n c, .int .i64 t, .int .i64 y], .agg #[.int .i64 2, .string s]] w fun e w' => e = .returned (.tuple #[.agg #[.slice ao n c, .int .i64 t, .int .i64 y], .agg #[.int .i64 0, .int .i64 0, .int .i64 0], .string ByteArray.empty, .bool false]) ∧ Below w.heap.size w w' := by
  have hC0 := (((x3_new w (.slice ao n c) (.int .i64 t) (.int .i64 y) 45 (w.heap.size) (by simp)).later (balloc (w.alloc (.cells #[.slice ao n c, .int .i64 t, .int .i64 y] 45)) (.cells #[.int .i64 2, .string s] 39))).later (balloc ((w.alloc (.cells #[.slice ao n c, .int .i64 t, .int .i64 y] 45)).alloc (.cells #[.int .i64 2, .string s] 39)) (.cells #[.slice none 0 0, .int .i64 0, .int .i64 0] 45))).later (balloc (((w.alloc (.cells #[.slice ao n c, .int .i64 t, .int .i64 y] 45)).alloc (.cells #[.int .i64 2, .string s] 39)).alloc (.cells #[.slice none 0 0, .int .i64 0, .int .i64 0] 45)) (.cells #[.int .i64 0, .int .i64 0, .int .i64 0] 52))
  have hS0 := ((x2_new (w.alloc (.cells #[.slice ao n c, .int .i64 t, .int .i64 y] 45)) (.int .i64 2) (.string s) 39 (w.heap.size + 1) (by simp)).later (balloc ((w.alloc (.cells #[.slice ao n c, .int .i64 t, .int .i64 y] 45)).alloc (.cells #[.int .i64 2, .string s] 39)) (.cells #[.slice none 0 0, .int .i64 0, .int .i64 0] 45))).later (balloc (((w.alloc (.cells #[.slice ao n c, .int .i64 t, .int .i64 y] 45)).alloc (.cells #[.int .i64 2, .string s] 39)).alloc (.cells #[.slice none 0 0, .int .i64 0, .int .i64 0] 45)) (.cells #[.int .i64 0, .int .i64 0, .int .i64 0] 52))
  have hR0 := (x3_new ((w.alloc (.cells #[.slice ao n c, .int .i64 t, .int .i64 y] 45)).alloc (.cells #[.int .i64 2, .string s] 39)) (.slice none 0 0) (.int .i64 0) (.int .i64 0) 45 (w.heap.size + 2) (by simp)).later (balloc (((w.alloc (.cells #[.slice ao n c, .int .i64 t, .int .i64 y] 45)).alloc (.cells #[.int .i64 2, .string s] 39)).alloc (.cells #[.slice none 0 0, .int .i64 0, .int .i64 0] 45)) (.cells #[.int .i64 0, .int .i64 0, .int .i64 0] 52))
  have hE0 := x3_new (((w.alloc (.cells #[.slice ao n c, .int .i64 t, .int .i64 y] 45)).alloc (.cells #[.int .i64 2, .string s] 39)).alloc (.cells #[.slice none 0 0, .int .i64 0, .int .i64 0] 45)) (.int .i64 0) (.int .i64 0) (.int .i64 0) 52 (w.heap.size + 3) (by simp)
  have hB_W0 : Below w.heap.size w ((((w.alloc (.cells #[.slice ao n c, .int .i64 t, .int .i64 y] 45)).alloc (.cells #[.int .i64 2, .string s] 39)).alloc (.cells #[.slice none 0 0, .int .i64 0, .int .i64 0] 45)).alloc (.cells #[.int .i64 0, .int .i64 0, .int .i64 0] 52)) := (((balloc w (.cells #[.slice ao n c, .int .i64 t, .int .i64 y] 45)).alloc (by simp) (.cells #[.int .i64 2, .string s] 39)).alloc (by simp; omega) (.cells #[.slice none 0 0, .int .i64 0, .int .i64 0] 45)).alloc (by simp; omega) (.cells #[.int .i64 0, .int .i64 0, .int .i64 0] 52)
  have hS_W0 : (((((w.alloc (.cells #[.slice ao n c, .int .i64 t, .int .i64 y] 45)).alloc (.cells #[.int .i64 2, .string s] 39)).alloc (.cells #[.slice none 0 0, .int .i64 0, .int .i64 0] 45)).alloc (.cells #[.int .i64 0, .int .i64 0, .int .i64 0] 52))).heap.size = w.heap.size + 4 := by simp
  obtain ⟨W0, hW0⟩ : ∃ V, ((((w.alloc (.cells #[.slice ao n c, .int .i64 t, .int .i64 y] 45)).alloc (.cells #[.int .i64 2, .string s] 39)).alloc (.cells #[.slice none 0 0, .int .i64 0, .int .i64 0] 45)).alloc (.cells #[.int .i64 0, .int .i64 0, .int .i64 0] 52)) = V := ⟨_, rfl⟩
  rw [hW0] at hC0 hS0 hR0 hE0 hB_W0 hS_W0
  have HC0 : Hid (X3 W0 (w.heap.size) (.slice ao n c) (.int .i64 t) (.int .i64 y)) := hC0
  have HS0 : Hid (X2 W0 (w.heap.size + 1) (.int .i64 2) (.string s)) := hS0
  have HR0 : Hid (X3 W0 (w.heap.size + 2) (.slice none 0 0) (.int .i64 0) (.int .i64 0)) := hR0
  have HE0 : Hid (X3 W0 (w.heap.size + 3) (.int .i64 0) (.int .i64 0) (.int .i64 0)) := hE0
  have HB_W0 : Hid (Below w.heap.size w W0) := hB_W0
  have HS_W0 : Hid (W0.heap.size = w.heap.size + 4) := hS_W0
  clear hB_W0 hS_W0 hC0 hS0 hR0 hE0
  obtain ⟨⟨c0, c1, c2⟩, cf⟩ := id (HC0.out)
  have cf0 := cf 0
  have cf1 := cf 1
  clear cf
  obtain ⟨⟨q0, q1⟩, qf⟩ := id (HS0.out)
  clear qf
  obtain ⟨⟨r0, r1, r2⟩, rf⟩ := id (HR0.out)
  have rf0 := rf 0
  have rf1 := rf 1
  have rf2 := rf 2
  clear rf
  obtain ⟨⟨m0, m1, m2⟩, mf⟩ := id (HE0.out)
  have mf0 := mf 0
  have mf1 := mf 1
  have mf2 := mf 2
  clear mf
  have e1 := text_not hs0
  go_enter Try.func62, Try.ntmps62
  go_wp2
  refine bodyPost_ret (v := .tuple #[.agg #[.slice ao n c, .int .i64 t, .int .i64 y], .agg #[.int .i64 0, .int .i64 0, .int .i64 0], .string ByteArray.empty, .bool false]) (by simp [results, Try.results62, go_sem, c0, c1, c2, r0, r1, r2, m0, m1, m2]; try rfl) rfl ?_
  exact ⟨rfl, by
    repeat (refine Below.setCell ?_ (by dsimp only; omega) _)
    exact HB_W0.out⟩

set_option maxHeartbeats 4000000 in
theorem l10Step_k2b (ao : Option Addr) (n c : Nat) (t y : Int) (s : ByteArray) (w : World) (hn : n ≤ 1000) (hs0 : s = ByteArray.empty) (hl : ¬ t < 1000) :
    Calls Try.prog 62 #[.agg #[.slice ao n c, .int .i64 t, .int .i64 y], .agg #[.int .i64 2, .string s]] w fun e w' => e = .returned (.tuple #[.agg #[.slice ao n c, .int .i64 t, .int .i64 y], .agg #[.int .i64 0, .int .i64 0, .int .i64 0], .string ByteArray.empty, .bool false]) ∧ Below w.heap.size w w' := by
  have hC0 := (((x3_new w (.slice ao n c) (.int .i64 t) (.int .i64 y) 45 (w.heap.size) (by simp)).later (balloc (w.alloc (.cells #[.slice ao n c, .int .i64 t, .int .i64 y] 45)) (.cells #[.int .i64 2, .string s] 39))).later (balloc ((w.alloc (.cells #[.slice ao n c, .int .i64 t, .int .i64 y] 45)).alloc (.cells #[.int .i64 2, .string s] 39)) (.cells #[.slice none 0 0, .int .i64 0, .int .i64 0] 45))).later (balloc (((w.alloc (.cells #[.slice ao n c, .int .i64 t, .int .i64 y] 45)).alloc (.cells #[.int .i64 2, .string s] 39)).alloc (.cells #[.slice none 0 0, .int .i64 0, .int .i64 0] 45)) (.cells #[.int .i64 0, .int .i64 0, .int .i64 0] 52))
  have hS0 := ((x2_new (w.alloc (.cells #[.slice ao n c, .int .i64 t, .int .i64 y] 45)) (.int .i64 2) (.string s) 39 (w.heap.size + 1) (by simp)).later (balloc ((w.alloc (.cells #[.slice ao n c, .int .i64 t, .int .i64 y] 45)).alloc (.cells #[.int .i64 2, .string s] 39)) (.cells #[.slice none 0 0, .int .i64 0, .int .i64 0] 45))).later (balloc (((w.alloc (.cells #[.slice ao n c, .int .i64 t, .int .i64 y] 45)).alloc (.cells #[.int .i64 2, .string s] 39)).alloc (.cells #[.slice none 0 0, .int .i64 0, .int .i64 0] 45)) (.cells #[.int .i64 0, .int .i64 0, .int .i64 0] 52))
  have hR0 := (x3_new ((w.alloc (.cells #[.slice ao n c, .int .i64 t, .int .i64 y] 45)).alloc (.cells #[.int .i64 2, .string s] 39)) (.slice none 0 0) (.int .i64 0) (.int .i64 0) 45 (w.heap.size + 2) (by simp)).later (balloc (((w.alloc (.cells #[.slice ao n c, .int .i64 t, .int .i64 y] 45)).alloc (.cells #[.int .i64 2, .string s] 39)).alloc (.cells #[.slice none 0 0, .int .i64 0, .int .i64 0] 45)) (.cells #[.int .i64 0, .int .i64 0, .int .i64 0] 52))
  have hE0 := x3_new (((w.alloc (.cells #[.slice ao n c, .int .i64 t, .int .i64 y] 45)).alloc (.cells #[.int .i64 2, .string s] 39)).alloc (.cells #[.slice none 0 0, .int .i64 0, .int .i64 0] 45)) (.int .i64 0) (.int .i64 0) (.int .i64 0) 52 (w.heap.size + 3) (by simp)
  have hB_W0 : Below w.heap.size w ((((w.alloc (.cells #[.slice ao n c, .int .i64 t, .int .i64 y] 45)).alloc (.cells #[.int .i64 2, .string s] 39)).alloc (.cells #[.slice none 0 0, .int .i64 0, .int .i64 0] 45)).alloc (.cells #[.int .i64 0, .int .i64 0, .int .i64 0] 52)) := (((balloc w (.cells #[.slice ao n c, .int .i64 t, .int .i64 y] 45)).alloc (by simp) (.cells #[.int .i64 2, .string s] 39)).alloc (by simp; omega) (.cells #[.slice none 0 0, .int .i64 0, .int .i64 0] 45)).alloc (by simp; omega) (.cells #[.int .i64 0, .int .i64 0, .int .i64 0] 52)
  have hS_W0 : (((((w.alloc (.cells #[.slice ao n c, .int .i64 t, .int .i64 y] 45)).alloc (.cells #[.int .i64 2, .string s] 39)).alloc (.cells #[.slice none 0 0, .int .i64 0, .int .i64 0] 45)).alloc (.cells #[.int .i64 0, .int .i64 0, .int .i64 0] 52))).heap.size = w.heap.size + 4 := by simp
  obtain ⟨W0, hW0⟩ : ∃ V, ((((w.alloc (.cells #[.slice ao n c, .int .i64 t, .int .i64 y] 45)).alloc (.cells #[.int .i64 2, .string s] 39)).alloc (.cells #[.slice none 0 0, .int .i64 0, .int .i64 0] 45)).alloc (.cells #[.int .i64 0, .int .i64 0, .int .i64 0] 52)) = V := ⟨_, rfl⟩
  rw [hW0] at hC0 hS0 hR0 hE0 hB_W0 hS_W0
  have HC0 : Hid (X3 W0 (w.heap.size) (.slice ao n c) (.int .i64 t) (.int .i64 y)) := hC0
  have HS0 : Hid (X2 W0 (w.heap.size + 1) (.int .i64 2) (.string s)) := hS0
  have HR0 : Hid (X3 W0 (w.heap.size + 2) (.slice none 0 0) (.int .i64 0) (.int .i64 0)) := hR0
  have HE0 : Hid (X3 W0 (w.heap.size + 3) (.int .i64 0) (.int .i64 0) (.int .i64 0)) := hE0
  have HB_W0 : Hid (Below w.heap.size w W0) := hB_W0
  have HS_W0 : Hid (W0.heap.size = w.heap.size + 4) := hS_W0
  clear hB_W0 hS_W0 hC0 hS0 hR0 hE0
  obtain ⟨⟨c0, c1, c2⟩, cf⟩ := id (HC0.out)
  have cf0 := cf 0
  have cf1 := cf 1
  clear cf
  obtain ⟨⟨q0, q1⟩, qf⟩ := id (HS0.out)
  clear qf
  obtain ⟨⟨r0, r1, r2⟩, rf⟩ := id (HR0.out)
  have rf0 := rf 0
  have rf1 := rf 1
  have rf2 := rf 2
  clear rf
  obtain ⟨⟨m0, m1, m2⟩, mf⟩ := id (HE0.out)
  have mf0 := mf 0
  have mf1 := mf 1
  have mf2 := mf 2
  clear mf
  subst hs0
  have e1 := text_is (s := ByteArray.empty) rfl
  go_enter Try.func62, Try.ntmps62
  go_wp2
  refine bodyPost_ret (v := .tuple #[.agg #[.slice ao n c, .int .i64 t, .int .i64 y], .agg #[.int .i64 0, .int .i64 0, .int .i64 0], .string ByteArray.empty, .bool false]) (by simp [results, Try.results62, go_sem, c0, c1, c2, r0, r1, r2, m0, m1, m2]; try rfl) rfl ?_
  exact ⟨rfl, by
    repeat (refine Below.setCell ?_ (by dsimp only; omega) _)
    exact HB_W0.out⟩

end Go.Proofs.Yteopaocomfepfaa
