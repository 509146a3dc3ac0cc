/- Chapter 10, the program: StepClient at a tick. -/
import Derived.Test.YteopaocomfepfaaS10
import Derived.Deep.RegionWith
namespace Go.Proofs.Yteopaocomfepfaa
set_option linter.unusedVariables false
set_option maxRecDepth 1000000
set_option linter.unusedSimpArgs false
open Go.RowKit

set_option maxHeartbeats 8000000 in
theorem implStep_tick (ao : Option Addr) (n c : Nat) (t y k : Int) (s : ByteArray) (xs : List ByteArray) (w : World) (hx : xs.length = n) (hn : n ≤ 17592186044416) (hr : RdS w ao xs) (hz : ∀ s ∈ xs, s.size ≤ 9223372036854775807) (hs : s.size ≤ 9223372036854775807) (hg : goodC xs t y = true) (hc : n ≤ c) (hk : k ≠ 1) (htk : tickB k s = true) (hl : t < 1000) :
    Calls Try.prog 29 #[.agg #[.slice ao n c, .int .i64 t, .int .i64 y], .agg #[.int .i64 k, .string s]] w fun e w' => ∃ a' c', e = .returned (.tuple #[.agg #[.slice a' (n - 1) c', .int .i64 (t + 1), .int .i64 y], .agg #[.int .i64 t, .int .i64 (t % y), .int .i64 24], .string (xs.headD ByteArray.empty), .bool true]) ∧ OwnS w' w.heap.size (.slice a' (n - 1) c') xs.tail ∧ Below w.heap.size w w' := by
  have hk1 : (k == 1) = false := by rw [beq_eq_false_iff_ne]; exact hk
  have hq := goodC_iff.1 hg
  have hq2 := queueB_iff.1 hq.1
  have t0 := hq.2.1.1
  have t1 := hq.2.1.2
  have y0 := hq.2.2.1
  have y1 := hq.2.2.2
  have hq5 : n ≤ 5 := by rw [← hx]; exact hq2.1
  have hsz : ∀ s ∈ xs, s.size ≤ 1000 := fun s h => Nat.le_trans (hq2.2 s h) (by omega)
  clear hq hq2
  have qe := fun wx => emitAt_c t y wx t0 t1 y0 y1
  have qa : ∀ wx, RdS wx ao xs → _ := fun wx hrd => afterTick_c ao n c t y xs wx hx (by omega) hc hrd hsz ⟨t0, t1⟩
  generalize t % y = ty at qe ⊢
  generalize xs.headD ByteArray.empty = hd at qa ⊢
  generalize n - 1 = n1 at qa ⊢
  have hC0 := (((x3_new w (.slice ao n c) (.int .i64 t) (.int .i64 y) 45 (w.heap.size) (by simp)).later (balloc (w.alloc (.cells #[.slice ao n c, .int .i64 t, .int .i64 y] 45)) (.cells #[.int .i64 k, .string s] 39))).later (balloc ((w.alloc (.cells #[.slice ao n c, .int .i64 t, .int .i64 y] 45)).alloc (.cells #[.int .i64 k, .string s] 39)) (.cells #[.slice none 0 0, .int .i64 0, .int .i64 0] 45))).later (balloc (((w.alloc (.cells #[.slice ao n c, .int .i64 t, .int .i64 y] 45)).alloc (.cells #[.int .i64 k, .string s] 39)).alloc (.cells #[.slice none 0 0, .int .i64 0, .int .i64 0] 45)) (.cells #[.int .i64 0, .int .i64 0, .int .i64 0] 52))
  have hS0 := ((x2_new (w.alloc (.cells #[.slice ao n c, .int .i64 t, .int .i64 y] 45)) (.int .i64 k) (.string s) 39 (w.heap.size + 1) (by simp)).later (balloc ((w.alloc (.cells #[.slice ao n c, .int .i64 t, .int .i64 y] 45)).alloc (.cells #[.int .i64 k, .string s] 39)) (.cells #[.slice none 0 0, .int .i64 0, .int .i64 0] 45))).later (balloc (((w.alloc (.cells #[.slice ao n c, .int .i64 t, .int .i64 y] 45)).alloc (.cells #[.int .i64 k, .string s] 39)).alloc (.cells #[.slice none 0 0, .int .i64 0, .int .i64 0] 45)) (.cells #[.int .i64 0, .int .i64 0, .int .i64 0] 52))
  have hR0 := (x3_new ((w.alloc (.cells #[.slice ao n c, .int .i64 t, .int .i64 y] 45)).alloc (.cells #[.int .i64 k, .string s] 39)) (.slice none 0 0) (.int .i64 0) (.int .i64 0) 45 (w.heap.size + 2) (by simp)).later (balloc (((w.alloc (.cells #[.slice ao n c, .int .i64 t, .int .i64 y] 45)).alloc (.cells #[.int .i64 k, .string s] 39)).alloc (.cells #[.slice none 0 0, .int .i64 0, .int .i64 0] 45)) (.cells #[.int .i64 0, .int .i64 0, .int .i64 0] 52))
  have hE0 := x3_new (((w.alloc (.cells #[.slice ao n c, .int .i64 t, .int .i64 y] 45)).alloc (.cells #[.int .i64 k, .string s] 39)).alloc (.cells #[.slice none 0 0, .int .i64 0, .int .i64 0] 45)) (.int .i64 0) (.int .i64 0) (.int .i64 0) 52 (w.heap.size + 3) (by simp)
  have hB_W0 : Below w.heap.size w ((((w.alloc (.cells #[.slice ao n c, .int .i64 t, .int .i64 y] 45)).alloc (.cells #[.int .i64 k, .string s] 39)).alloc (.cells #[.slice none 0 0, .int .i64 0, .int .i64 0] 45)).alloc (.cells #[.int .i64 0, .int .i64 0, .int .i64 0] 52)) := (((balloc w (.cells #[.slice ao n c, .int .i64 t, .int .i64 y] 45)).alloc (by simp) (.cells #[.int .i64 k, .string s] 39)).alloc (by simp; omega) (.cells #[.slice none 0 0, .int .i64 0, .int .i64 0] 45)).alloc (by simp; omega) (.cells #[.int .i64 0, .int .i64 0, .int .i64 0] 52)
  have hS_W0 : (((((w.alloc (.cells #[.slice ao n c, .int .i64 t, .int .i64 y] 45)).alloc (.cells #[.int .i64 k, .string s] 39)).alloc (.cells #[.slice none 0 0, .int .i64 0, .int .i64 0] 45)).alloc (.cells #[.int .i64 0, .int .i64 0, .int .i64 0] 52))).heap.size = w.heap.size + 4 := by simp
  obtain ⟨W0, hW0⟩ : ∃ V, ((((w.alloc (.cells #[.slice ao n c, .int .i64 t, .int .i64 y] 45)).alloc (.cells #[.int .i64 k, .string s] 39)).alloc (.cells #[.slice none 0 0, .int .i64 0, .int .i64 0] 45)).alloc (.cells #[.int .i64 0, .int .i64 0, .int .i64 0] 52)) = V := ⟨_, rfl⟩
  rw [hW0] at hC0 hS0 hR0 hE0 hB_W0 hS_W0
  have HC0 : Hid (X3 W0 (w.heap.size) (.slice ao n c) (.int .i64 t) (.int .i64 y)) := hC0
  have HS0 : Hid (X2 W0 (w.heap.size + 1) (.int .i64 k) (.string s)) := hS0
  have HR0 : Hid (X3 W0 (w.heap.size + 2) (.slice none 0 0) (.int .i64 0) (.int .i64 0)) := hR0
  have HE0 : Hid (X3 W0 (w.heap.size + 3) (.int .i64 0) (.int .i64 0) (.int .i64 0)) := hE0
  have HB_W0 : Hid (Below w.heap.size w W0) := hB_W0
  have HS_W0 : Hid (W0.heap.size = w.heap.size + 4) := hS_W0
  clear hB_W0 hS_W0 hC0 hS0 hR0 hE0
  have hr0 := hr.later HB_W0.out
  have q0 := implGood_c ao n c t y xs W0 hx hn hr0 hz
  rw [hg] at q0
  obtain ⟨⟨c0, c1, c2⟩, cf⟩ := id (HC0.out)
  clear cf
  clear hr
  go_enter Try.func29, Try.ntmps29
  go_wp2_with fail
  refine q0.mono ?_
  clear q0 c0 c1 c2
  rintro e w1 ⟨rfl, hb⟩
  have HC1 := HC0.out.later hb
  have HS1 := HS0.out.later hb
  have HR1 := HR0.out.later hb
  have HE1 := HE0.out.later hb
  have HB1 : Hid (Below w.heap.size w w1) := HB_W0.out.trans (hb.mono HB_W0.out.size)
  have HL1 : Hid (w.heap.size + 4 ≤ w1.heap.size) := (by have h1 := HS_W0.out; have h2 : W0.heap.size ≤ w1.heap.size := hb.size; show _ ≤ _; omega)
  have HRD1 : Hid (RdS w1 ao xs) := hr0.later hb
  clear hb hr0 hW0
  obtain ⟨⟨c0, c1, c2⟩, cf⟩ := id (HC1)
  clear cf
  obtain ⟨⟨s0, s1⟩, sf⟩ := id (HS1)
  clear sf
  have qt := isPlainTick_c k s w1
  rw [htk] at qt
  go_wp2_with fail
  refine qt.mono ?_
  clear qt c0 c1 c2 s0 s1
  rintro e w2 ⟨rfl, hb⟩
  have HC2 : Hid (X3 w2 w.heap.size (.slice ao n c) (.int .i64 t) (.int .i64 y)) := HC1.later hb
  have HR2 : Hid (X3 w2 (w.heap.size + 2) (.slice none 0 0) (.int .i64 0) (.int .i64 0)) := HR1.later hb
  have HE2 : Hid (X3 w2 (w.heap.size + 3) (.int .i64 0) (.int .i64 0) (.int .i64 0)) := HE1.later hb
  have HB2 : Hid (Below w.heap.size w w2) := HB1.out.trans (hb.mono HB1.out.size)
  have HL2 : Hid (w.heap.size + 4 ≤ w2.heap.size) := Nat.le_trans HL1.out hb.size
  have HRD2 : Hid (RdS w2 ao xs) := HRD1.out.later hb
  clear hb HC1 HR1 HE1 HS1
  obtain ⟨⟨c0, c1, c2⟩, cf⟩ := id (HC2.out)
  clear cf
  go_wp2_with fail
  refine (qa w2 HRD2.out).mono ?_
  clear qa c0 c1 c2
  rintro e w3 ⟨a', c', rfl, ho, hb⟩
  have hT3 := x3_new w3 (Value.slice a' n1 c') (.int .i64 (t + 1)) (.int .i64 y) 45 (w3.heap.size) (by simp)
  have hB_w4 : Below w3.heap.size w3 (w3.alloc (.cells #[Value.slice a' n1 c', .int .i64 (t + 1), .int .i64 y] 45)) := balloc w3 (.cells #[Value.slice a' n1 c', .int .i64 (t + 1), .int .i64 y] 45)
  have hS_w4 : ((w3.alloc (.cells #[Value.slice a' n1 c', .int .i64 (t + 1), .int .i64 y] 45))).heap.size = w3.heap.size + 1 := by simp
  obtain ⟨w4, hw4⟩ : ∃ V, (w3.alloc (.cells #[Value.slice a' n1 c', .int .i64 (t + 1), .int .i64 y] 45)) = V := ⟨_, rfl⟩
  rw [hw4] at hT3 hB_w4 hS_w4
  have HT3 : Hid (X3 w4 (w3.heap.size) (Value.slice a' n1 c') (.int .i64 (t + 1)) (.int .i64 y)) := hT3
  have HB_w4 : Hid (Below w3.heap.size w3 w4) := hB_w4
  have HS_w4 : Hid (w4.heap.size = w3.heap.size + 1) := hS_w4
  clear hB_w4 hS_w4 hT3
  have hb4 : Below w2.heap.size w2 w4 := hb.trans (HB_w4.out.mono hb.size)
  have HO4 : Hid (OwnS w4 w2.heap.size (.slice a' n1 c') xs.tail) := ho.later HB_w4.out
  have HC4 : Hid (X3 w4 w.heap.size (.slice ao n c) (.int .i64 t) (.int .i64 y)) := HC2.out.later hb4
  have HR4 : Hid (X3 w4 (w.heap.size + 2) (.slice none 0 0) (.int .i64 0) (.int .i64 0)) := HR2.out.later hb4
  have HE4 : Hid (X3 w4 (w.heap.size + 3) (.int .i64 0) (.int .i64 0) (.int .i64 0)) := HE2.out.later hb4
  have HB4 : Hid (Below w.heap.size w w4) := HB2.out.trans (hb4.mono HB2.out.size)
  have hz3 : w2.heap.size ≤ w3.heap.size := hb.size
  clear hb hb4 ho HB_w4 HS_w4
  obtain ⟨⟨c0, c1, c2⟩, cf⟩ := id (HC4.out)
  clear cf
  obtain ⟨⟨r0, r1, r2⟩, rf⟩ := id (HR4.out)
  have rf0 := rf 0
  have rf1 := rf 1
  have rf2 := rf 2
  clear rf
  obtain ⟨⟨m0, m1, m2⟩, mf⟩ := id (HE4.out)
  have mf0 := mf 0
  have mf1 := mf 1
  have mf2 := mf 2
  clear mf
  obtain ⟨⟨d0, d1, d2⟩, df⟩ := id (HT3.out)
  clear df
  go_wp2_with fail
  clear hw4
  go_region_with (go_at_call 65; refine (qe _).mono ?_; rintro e w5 ⟨rfl, hb⟩; have hb5 : Below w4.heap.size w4 w5 := (by first | exact hb | exact ((Below.refl w4.heap.size w4).drew).trans hb); have HO5 : Hid (OwnS w5 w2.heap.size (.slice a' n1 c') xs.tail) := HO4.out.later hb5; have HB5 : Hid (Below w.heap.size w w5) := HB4.out.trans (hb5.mono HB4.out.size); obtain ⟨⟨r0', r1', r2'⟩, rf'⟩ := HR4.out.later hb5; obtain ⟨⟨m0', m1', m2'⟩, mf'⟩ := HE4.out.later hb5; obtain ⟨⟨d0', d1', d2'⟩, df'⟩ := HT3.out.later hb5; have rf0' := rf' 0; have rf1' := rf' 1; have rf2' := rf' 2; have mf0' := mf' 0; have mf1' := mf' 1; have mf2' := mf' 2; clear rf' mf' df' hb hb5)
  all_goals (
    go_wp2
    refine bodyPost_ret (v := .tuple #[.agg #[.slice a' n1 c', .int .i64 (t + 1), .int .i64 y], .agg #[.int .i64 t, .int .i64 ty, .int .i64 24], .string hd, .bool true]) (by simp [results, Try.results29, go_sem, r0', r1', r2', m0', m1', m2']; try rfl) rfl ⟨a', c', rfl, ?_, ?_⟩
    · have hL := HL2.out
      refine OwnS.mono (base := w2.heap.size) ?_ (by omega)
      repeat (refine OwnS.set ?_ (by omega))
      exact HO5.out
    · repeat (refine Below.setCell ?_ (by dsimp only; omega) _)
      exact HB5.out)

end Go.Proofs.Yteopaocomfepfaa
