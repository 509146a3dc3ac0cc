/- Chapter 10, the program: StepClient. -/
import Derived.Test.YteopaocomfepfaaS10
import Derived.Deep.RegionWith
namespace Go.Proofs.Yteopaocomfepfaa
set_option linter.unusedVariables false
set_option maxRecDepth 1000000
set_option linter.unusedSimpArgs false
open Go.RowKit

set_option maxHeartbeats 4000000 in
theorem implStep_bad (ao : Option Addr) (n c : Nat) (t y k : Int) (s : ByteArray) (xs : List ByteArray) (w : World) (hx : xs.length = n) (hn : n ≤ 17592186044416) (hr : RdS w ao xs) (hz : ∀ s ∈ xs, s.size ≤ 9223372036854775807) (hs : s.size ≤ 9223372036854775807) (hg : goodC xs t y = false) :
    Calls Try.prog 29 #[.agg #[.slice ao n c, .int .i64 t, .int .i64 y], .agg #[.int .i64 k, .string s]] w fun e w' => e = .returned (.tuple #[.agg #[.slice none 0 0, .int .i64 0, .int .i64 0], .agg #[.int .i64 0, .int .i64 0, .int .i64 0], .string ByteArray.empty, .bool false]) ∧ Below w.heap.size w w' := by
  have hC0 := (((x3_new w (.slice ao n c) (.int .i64 t) (.int .i64 y) 45 (w.heap.size) (by simp)).later (balloc (w.alloc (.cells #[.slice ao n c, .int .i64 t, .int .i64 y] 45)) (.cells #[.int .i64 k, .string s] 39))).later (balloc ((w.alloc (.cells #[.slice ao n c, .int .i64 t, .int .i64 y] 45)).alloc (.cells #[.int .i64 k, .string s] 39)) (.cells #[.slice none 0 0, .int .i64 0, .int .i64 0] 45))).later (balloc (((w.alloc (.cells #[.slice ao n c, .int .i64 t, .int .i64 y] 45)).alloc (.cells #[.int .i64 k, .string s] 39)).alloc (.cells #[.slice none 0 0, .int .i64 0, .int .i64 0] 45)) (.cells #[.int .i64 0, .int .i64 0, .int .i64 0] 52))
  have hS0 := ((x2_new (w.alloc (.cells #[.slice ao n c, .int .i64 t, .int .i64 y] 45)) (.int .i64 k) (.string s) 39 (w.heap.size + 1) (by simp)).later (balloc ((w.alloc (.cells #[.slice ao n c, .int .i64 t, .int .i64 y] 45)).alloc (.cells #[.int .i64 k, .string s] 39)) (.cells #[.slice none 0 0, .int .i64 0, .int .i64 0] 45))).later (balloc (((w.alloc (.cells #[.slice ao n c, .int .i64 t, .int .i64 y] 45)).alloc (.cells #[.int .i64 k, .string s] 39)).alloc (.cells #[.slice none 0 0, .int .i64 0, .int .i64 0] 45)) (.cells #[.int .i64 0, .int .i64 0, .int .i64 0] 52))
  have hR0 := (x3_new ((w.alloc (.cells #[.slice ao n c, .int .i64 t, .int .i64 y] 45)).alloc (.cells #[.int .i64 k, .string s] 39)) (.slice none 0 0) (.int .i64 0) (.int .i64 0) 45 (w.heap.size + 2) (by simp)).later (balloc (((w.alloc (.cells #[.slice ao n c, .int .i64 t, .int .i64 y] 45)).alloc (.cells #[.int .i64 k, .string s] 39)).alloc (.cells #[.slice none 0 0, .int .i64 0, .int .i64 0] 45)) (.cells #[.int .i64 0, .int .i64 0, .int .i64 0] 52))
  have hE0 := x3_new (((w.alloc (.cells #[.slice ao n c, .int .i64 t, .int .i64 y] 45)).alloc (.cells #[.int .i64 k, .string s] 39)).alloc (.cells #[.slice none 0 0, .int .i64 0, .int .i64 0] 45)) (.int .i64 0) (.int .i64 0) (.int .i64 0) 52 (w.heap.size + 3) (by simp)
  have hB_W0 : Below w.heap.size w ((((w.alloc (.cells #[.slice ao n c, .int .i64 t, .int .i64 y] 45)).alloc (.cells #[.int .i64 k, .string s] 39)).alloc (.cells #[.slice none 0 0, .int .i64 0, .int .i64 0] 45)).alloc (.cells #[.int .i64 0, .int .i64 0, .int .i64 0] 52)) := (((balloc w (.cells #[.slice ao n c, .int .i64 t, .int .i64 y] 45)).alloc (by simp) (.cells #[.int .i64 k, .string s] 39)).alloc (by simp; omega) (.cells #[.slice none 0 0, .int .i64 0, .int .i64 0] 45)).alloc (by simp; omega) (.cells #[.int .i64 0, .int .i64 0, .int .i64 0] 52)
  have hS_W0 : (((((w.alloc (.cells #[.slice ao n c, .int .i64 t, .int .i64 y] 45)).alloc (.cells #[.int .i64 k, .string s] 39)).alloc (.cells #[.slice none 0 0, .int .i64 0, .int .i64 0] 45)).alloc (.cells #[.int .i64 0, .int .i64 0, .int .i64 0] 52))).heap.size = w.heap.size + 4 := by simp
  obtain ⟨W0, hW0⟩ : ∃ V, ((((w.alloc (.cells #[.slice ao n c, .int .i64 t, .int .i64 y] 45)).alloc (.cells #[.int .i64 k, .string s] 39)).alloc (.cells #[.slice none 0 0, .int .i64 0, .int .i64 0] 45)).alloc (.cells #[.int .i64 0, .int .i64 0, .int .i64 0] 52)) = V := ⟨_, rfl⟩
  rw [hW0] at hC0 hS0 hR0 hE0 hB_W0 hS_W0
  have HC0 : Hid (X3 W0 (w.heap.size) (.slice ao n c) (.int .i64 t) (.int .i64 y)) := hC0
  have HS0 : Hid (X2 W0 (w.heap.size + 1) (.int .i64 k) (.string s)) := hS0
  have HR0 : Hid (X3 W0 (w.heap.size + 2) (.slice none 0 0) (.int .i64 0) (.int .i64 0)) := hR0
  have HE0 : Hid (X3 W0 (w.heap.size + 3) (.int .i64 0) (.int .i64 0) (.int .i64 0)) := hE0
  have HB_W0 : Hid (Below w.heap.size w W0) := hB_W0
  have HS_W0 : Hid (W0.heap.size = w.heap.size + 4) := hS_W0
  clear hB_W0 hS_W0 hC0 hS0 hR0 hE0
  have hr0 := hr.later HB_W0.out
  have q0 := implGood_c ao n c t y xs W0 hx hn hr0 hz
  rw [hg] at q0
  obtain ⟨⟨c0, c1, c2⟩, cf⟩ := id (HC0.out)
  clear cf
  clear hr
  go_enter Try.func29, Try.ntmps29
  go_wp2_with fail
  refine q0.mono ?_
  clear q0 c0 c1 c2
  rintro e w1 ⟨rfl, hb⟩
  have HC1 := HC0.out.later hb
  have HS1 := HS0.out.later hb
  have HR1 := HR0.out.later hb
  have HE1 := HE0.out.later hb
  have HB1 : Hid (Below w.heap.size w w1) := HB_W0.out.trans (hb.mono HB_W0.out.size)
  have HL1 : Hid (w.heap.size + 4 ≤ w1.heap.size) := (by have h1 := HS_W0.out; have h2 : W0.heap.size ≤ w1.heap.size := hb.size; show _ ≤ _; omega)
  have HRD1 : Hid (RdS w1 ao xs) := hr0.later hb
  clear hb hr0 hW0
  obtain ⟨⟨r0, r1, r2⟩, rf⟩ := id (HR1)
  have rf0 := rf 0
  have rf1 := rf 1
  have rf2 := rf 2
  clear rf
  obtain ⟨⟨m0, m1, m2⟩, mf⟩ := id (HE1)
  have mf0 := mf 0
  have mf1 := mf 1
  have mf2 := mf 2
  clear mf
  go_wp2
  refine bodyPost_ret (v := .tuple #[.agg #[.slice none 0 0, .int .i64 0, .int .i64 0], .agg #[.int .i64 0, .int .i64 0, .int .i64 0], .string ByteArray.empty, .bool false]) (by simp [results, Try.results29, go_sem, r0, r1, r2, m0, m1, m2]; try rfl) rfl ?_
  exact ⟨rfl, by
    repeat (refine Below.setCell ?_ (by dsimp only; omega) _)
    exact HB1.out⟩

set_option maxHeartbeats 8000000 in
theorem implStep_say (ao : Option Addr) (n c : Nat) (t y k : Int) (s : ByteArray) (xs : List ByteArray) (w : World) (hx : xs.length = n) (hn : n ≤ 17592186044416) (hr : RdS w ao xs) (hz : ∀ s ∈ xs, s.size ≤ 9223372036854775807) (hs : s.size ≤ 9223372036854775807) (hg : goodC xs t y = true) (hk : k = 1) (hsay : sayB s = true) (hl : n < 5) :
    Calls Try.prog 29 #[.agg #[.slice ao n c, .int .i64 t, .int .i64 y], .agg #[.int .i64 k, .string s]] w fun e w' => ∃ a' c', e = .returned (.tuple #[.agg #[.slice a' (n + 1) c', .int .i64 t, .int .i64 y], .agg #[.int .i64 0, .int .i64 0, .int .i64 0], .string ByteArray.empty, .bool true]) ∧ OwnS w' w.heap.size (.slice a' (n + 1) c') (xs ++ [s]) ∧ Below w.heap.size w w' := by
  subst hk
  have hq := goodC_iff.1 hg
  have hq2 := queueB_iff.1 hq.1
  have t0 := hq.2.1.1
  have t1 := hq.2.1.2
  have y0 := hq.2.2.1
  have y1 := hq.2.2.2
  have hq5 : n ≤ 5 := by rw [← hx]; exact hq2.1
  have hsz : ∀ s ∈ xs, s.size ≤ 1000 := fun s h => Nat.le_trans (hq2.2 s h) (by omega)
  clear hq hq2
  have hC0 := (((x3_new w (.slice ao n c) (.int .i64 t) (.int .i64 y) 45 (w.heap.size) (by simp)).later (balloc (w.alloc (.cells #[.slice ao n c, .int .i64 t, .int .i64 y] 45)) (.cells #[.int .i64 1, .string s] 39))).later (balloc ((w.alloc (.cells #[.slice ao n c, .int .i64 t, .int .i64 y] 45)).alloc (.cells #[.int .i64 1, .string s] 39)) (.cells #[.slice none 0 0, .int .i64 0, .int .i64 0] 45))).later (balloc (((w.alloc (.cells #[.slice ao n c, .int .i64 t, .int .i64 y] 45)).alloc (.cells #[.int .i64 1, .string s] 39)).alloc (.cells #[.slice none 0 0, .int .i64 0, .int .i64 0] 45)) (.cells #[.int .i64 0, .int .i64 0, .int .i64 0] 52))
  have hS0 := ((x2_new (w.alloc (.cells #[.slice ao n c, .int .i64 t, .int .i64 y] 45)) (.int .i64 1) (.string s) 39 (w.heap.size + 1) (by simp)).later (balloc ((w.alloc (.cells #[.slice ao n c, .int .i64 t, .int .i64 y] 45)).alloc (.cells #[.int .i64 1, .string s] 39)) (.cells #[.slice none 0 0, .int .i64 0, .int .i64 0] 45))).later (balloc (((w.alloc (.cells #[.slice ao n c, .int .i64 t, .int .i64 y] 45)).alloc (.cells #[.int .i64 1, .string s] 39)).alloc (.cells #[.slice none 0 0, .int .i64 0, .int .i64 0] 45)) (.cells #[.int .i64 0, .int .i64 0, .int .i64 0] 52))
  have hR0 := (x3_new ((w.alloc (.cells #[.slice ao n c, .int .i64 t, .int .i64 y] 45)).alloc (.cells #[.int .i64 1, .string s] 39)) (.slice none 0 0) (.int .i64 0) (.int .i64 0) 45 (w.heap.size + 2) (by simp)).later (balloc (((w.alloc (.cells #[.slice ao n c, .int .i64 t, .int .i64 y] 45)).alloc (.cells #[.int .i64 1, .string s] 39)).alloc (.cells #[.slice none 0 0, .int .i64 0, .int .i64 0] 45)) (.cells #[.int .i64 0, .int .i64 0, .int .i64 0] 52))
  have hE0 := x3_new (((w.alloc (.cells #[.slice ao n c, .int .i64 t, .int .i64 y] 45)).alloc (.cells #[.int .i64 1, .string s] 39)).alloc (.cells #[.slice none 0 0, .int .i64 0, .int .i64 0] 45)) (.int .i64 0) (.int .i64 0) (.int .i64 0) 52 (w.heap.size + 3) (by simp)
  have hB_W0 : Below w.heap.size w ((((w.alloc (.cells #[.slice ao n c, .int .i64 t, .int .i64 y] 45)).alloc (.cells #[.int .i64 1, .string s] 39)).alloc (.cells #[.slice none 0 0, .int .i64 0, .int .i64 0] 45)).alloc (.cells #[.int .i64 0, .int .i64 0, .int .i64 0] 52)) := (((balloc w (.cells #[.slice ao n c, .int .i64 t, .int .i64 y] 45)).alloc (by simp) (.cells #[.int .i64 1, .string s] 39)).alloc (by simp; omega) (.cells #[.slice none 0 0, .int .i64 0, .int .i64 0] 45)).alloc (by simp; omega) (.cells #[.int .i64 0, .int .i64 0, .int .i64 0] 52)
  have hS_W0 : (((((w.alloc (.cells #[.slice ao n c, .int .i64 t, .int .i64 y] 45)).alloc (.cells #[.int .i64 1, .string s] 39)).alloc (.cells #[.slice none 0 0, .int .i64 0, .int .i64 0] 45)).alloc (.cells #[.int .i64 0, .int .i64 0, .int .i64 0] 52))).heap.size = w.heap.size + 4 := by simp
  obtain ⟨W0, hW0⟩ : ∃ V, ((((w.alloc (.cells #[.slice ao n c, .int .i64 t, .int .i64 y] 45)).alloc (.cells #[.int .i64 1, .string s] 39)).alloc (.cells #[.slice none 0 0, .int .i64 0, .int .i64 0] 45)).alloc (.cells #[.int .i64 0, .int .i64 0, .int .i64 0] 52)) = V := ⟨_, rfl⟩
  rw [hW0] at hC0 hS0 hR0 hE0 hB_W0 hS_W0
  have HC0 : Hid (X3 W0 (w.heap.size) (.slice ao n c) (.int .i64 t) (.int .i64 y)) := hC0
  have HS0 : Hid (X2 W0 (w.heap.size + 1) (.int .i64 1) (.string s)) := hS0
  have HR0 : Hid (X3 W0 (w.heap.size + 2) (.slice none 0 0) (.int .i64 0) (.int .i64 0)) := hR0
  have HE0 : Hid (X3 W0 (w.heap.size + 3) (.int .i64 0) (.int .i64 0) (.int .i64 0)) := hE0
  have HB_W0 : Hid (Below w.heap.size w W0) := hB_W0
  have HS_W0 : Hid (W0.heap.size = w.heap.size + 4) := hS_W0
  clear hB_W0 hS_W0 hC0 hS0 hR0 hE0
  have hr0 := hr.later HB_W0.out
  have q0 := implGood_c ao n c t y xs W0 hx hn hr0 hz
  rw [hg] at q0
  obtain ⟨⟨c0, c1, c2⟩, cf⟩ := id (HC0.out)
  clear cf
  clear hr
  go_enter Try.func29, Try.ntmps29
  go_wp2_with fail
  refine q0.mono ?_
  clear q0 c0 c1 c2
  rintro e w1 ⟨rfl, hb⟩
  have HC1 := HC0.out.later hb
  have HS1 := HS0.out.later hb
  have HR1 := HR0.out.later hb
  have HE1 := HE0.out.later hb
  have HB1 : Hid (Below w.heap.size w w1) := HB_W0.out.trans (hb.mono HB_W0.out.size)
  have HL1 : Hid (w.heap.size + 4 ≤ w1.heap.size) := (by have h1 := HS_W0.out; have h2 : W0.heap.size ≤ w1.heap.size := hb.size; show _ ≤ _; omega)
  have HRD1 : Hid (RdS w1 ao xs) := hr0.later hb
  clear hb hr0 hW0
  have hl5 : (n : Int) < 5 := by omega
  have hs15 : s.size ≤ 1000 := by have : s.size ≤ 15 := by simpa [sayB] using hsay
                                  omega
  obtain ⟨⟨c0, c1, c2⟩, cf⟩ := id (HC1)
  clear cf
  obtain ⟨⟨s0, s1⟩, sf⟩ := id (HS1)
  clear sf
  have qs := isSaying_c s w1 hs
  rw [hsay] at qs
  go_wp2_with fail
  refine qs.mono ?_
  clear qs
  rintro e w' ⟨rfl, hw⟩
  subst w'
  have qa := afterSay_c ao n c t y s xs w1 hx (by omega) HRD1.out hsz hs15
  go_wp2_with fail
  refine qa.mono ?_
  clear qa c0 c1 c2 s0 s1
  rintro e w2 ⟨a', c', rfl, ho, hb⟩
  have HO : Hid (OwnS w2 w1.heap.size (.slice a' (n + 1) c') (xs ++ [s])) := ho
  have HR2 := HR1.later hb
  have HE2 := HE1.later hb
  have HB2 : Hid (Below w.heap.size w w2) := HB1.out.trans (hb.mono HB1.out.size)
  clear hb ho
  obtain ⟨⟨r0, r1, r2⟩, rf⟩ := id (HR2)
  have rf0 := rf 0
  have rf1 := rf 1
  have rf2 := rf 2
  clear rf
  obtain ⟨⟨m0, m1, m2⟩, mf⟩ := id (HE2)
  have mf0 := mf 0
  have mf1 := mf 1
  have mf2 := mf 2
  clear mf
  go_wp2
  refine bodyPost_ret (v := .tuple #[.agg #[.slice a' (n + 1) c', .int .i64 t, .int .i64 y], .agg #[.int .i64 0, .int .i64 0, .int .i64 0], .string ByteArray.empty, .bool true]) (by simp [results, Try.results29, go_sem, r0, r1, r2, m0, m1, m2]; try rfl) rfl ?_
  refine ⟨a', c', rfl, ?_, ?_⟩
  · have hL := HL1.out
    refine OwnS.mono (base := w1.heap.size) ?_ (by omega)
    repeat (refine OwnS.set ?_ (by omega))
    exact HO.out
  · repeat (refine Below.setCell ?_ (by dsimp only; omega) _)
    exact HB2.out

set_option maxHeartbeats 8000000 in
theorem implStep_k1a (ao : Option Addr) (n c : Nat) (t y k : Int) (s : ByteArray) (xs : List ByteArray) (w : World) (hx : xs.length = n) (hn : n ≤ 17592186044416) (hr : RdS w ao xs) (hz : ∀ s ∈ xs, s.size ≤ 9223372036854775807) (hs : s.size ≤ 9223372036854775807) (hg : goodC xs t y = true) (hk : k = 1) (hsay : sayB s = false) :
    Calls Try.prog 29 #[.agg #[.slice ao n c, .int .i64 t, .int .i64 y], .agg #[.int .i64 k, .string s]] w fun e w' => e = .returned (.tuple #[.agg #[.slice none 0 0, .int .i64 0, .int .i64 0], .agg #[.int .i64 0, .int .i64 0, .int .i64 0], .string ByteArray.empty, .bool false]) ∧ Below w.heap.size w w' := by
  subst hk
  have hq := goodC_iff.1 hg
  have hq2 := queueB_iff.1 hq.1
  have t0 := hq.2.1.1
  have t1 := hq.2.1.2
  have y0 := hq.2.2.1
  have y1 := hq.2.2.2
  have hq5 : n ≤ 5 := by rw [← hx]; exact hq2.1
  have hsz : ∀ s ∈ xs, s.size ≤ 1000 := fun s h => Nat.le_trans (hq2.2 s h) (by omega)
  clear hq hq2
  have hC0 := (((x3_new w (.slice ao n c) (.int .i64 t) (.int .i64 y) 45 (w.heap.size) (by simp)).later (balloc (w.alloc (.cells #[.slice ao n c, .int .i64 t, .int .i64 y] 45)) (.cells #[.int .i64 1, .string s] 39))).later (balloc ((w.alloc (.cells #[.slice ao n c, .int .i64 t, .int .i64 y] 45)).alloc (.cells #[.int .i64 1, .string s] 39)) (.cells #[.slice none 0 0, .int .i64 0, .int .i64 0] 45))).later (balloc (((w.alloc (.cells #[.slice ao n c, .int .i64 t, .int .i64 y] 45)).alloc (.cells #[.int .i64 1, .string s] 39)).alloc (.cells #[.slice none 0 0, .int .i64 0, .int .i64 0] 45)) (.cells #[.int .i64 0, .int .i64 0, .int .i64 0] 52))
  have hS0 := ((x2_new (w.alloc (.cells #[.slice ao n c, .int .i64 t, .int .i64 y] 45)) (.int .i64 1) (.string s) 39 (w.heap.size + 1) (by simp)).later (balloc ((w.alloc (.cells #[.slice ao n c, .int .i64 t, .int .i64 y] 45)).alloc (.cells #[.int .i64 1, .string s] 39)) (.cells #[.slice none 0 0, .int .i64 0, .int .i64 0] 45))).later (balloc (((w.alloc (.cells #[.slice ao n c, .int .i64 t, .int .i64 y] 45)).alloc (.cells #[.int .i64 1, .string s] 39)).alloc (.cells #[.slice none 0 0, .int .i64 0, .int .i64 0] 45)) (.cells #[.int .i64 0, .int .i64 0, .int .i64 0] 52))
  have hR0 := (x3_new ((w.alloc (.cells #[.slice ao n c, .int .i64 t, .int .i64 y] 45)).alloc (.cells #[.int .i64 1, .string s] 39)) (.slice none 0 0) (.int .i64 0) (.int .i64 0) 45 (w.heap.size + 2) (by simp)).later (balloc (((w.alloc (.cells #[.slice ao n c, .int .i64 t, .int .i64 y] 45)).alloc (.cells #[.int .i64 1, .string s] 39)).alloc (.cells #[.slice none 0 0, .int .i64 0, .int .i64 0] 45)) (.cells #[.int .i64 0, .int .i64 0, .int .i64 0] 52))
  have hE0 := x3_new (((w.alloc (.cells #[.slice ao n c, .int .i64 t, .int .i64 y] 45)).alloc (.cells #[.int .i64 1, .string s] 39)).alloc (.cells #[.slice none 0 0, .int .i64 0, .int .i64 0] 45)) (.int .i64 0) (.int .i64 0) (.int .i64 0) 52 (w.heap.size + 3) (by simp)
  have hB_W0 : Below w.heap.size w ((((w.alloc (.cells #[.slice ao n c, .int .i64 t, .int .i64 y] 45)).alloc (.cells #[.int .i64 1, .string s] 39)).alloc (.cells #[.slice none 0 0, .int .i64 0, .int .i64 0] 45)).alloc (.cells #[.int .i64 0, .int .i64 0, .int .i64 0] 52)) := (((balloc w (.cells #[.slice ao n c, .int .i64 t, .int .i64 y] 45)).alloc (by simp) (.cells #[.int .i64 1, .string s] 39)).alloc (by simp; omega) (.cells #[.slice none 0 0, .int .i64 0, .int .i64 0] 45)).alloc (by simp; omega) (.cells #[.int .i64 0, .int .i64 0, .int .i64 0] 52)
  have hS_W0 : (((((w.alloc (.cells #[.slice ao n c, .int .i64 t, .int .i64 y] 45)).alloc (.cells #[.int .i64 1, .string s] 39)).alloc (.cells #[.slice none 0 0, .int .i64 0, .int .i64 0] 45)).alloc (.cells #[.int .i64 0, .int .i64 0, .int .i64 0] 52))).heap.size = w.heap.size + 4 := by simp
  obtain ⟨W0, hW0⟩ : ∃ V, ((((w.alloc (.cells #[.slice ao n c, .int .i64 t, .int .i64 y] 45)).alloc (.cells #[.int .i64 1, .string s] 39)).alloc (.cells #[.slice none 0 0, .int .i64 0, .int .i64 0] 45)).alloc (.cells #[.int .i64 0, .int .i64 0, .int .i64 0] 52)) = V := ⟨_, rfl⟩
  rw [hW0] at hC0 hS0 hR0 hE0 hB_W0 hS_W0
  have HC0 : Hid (X3 W0 (w.heap.size) (.slice ao n c) (.int .i64 t) (.int .i64 y)) := hC0
  have HS0 : Hid (X2 W0 (w.heap.size + 1) (.int .i64 1) (.string s)) := hS0
  have HR0 : Hid (X3 W0 (w.heap.size + 2) (.slice none 0 0) (.int .i64 0) (.int .i64 0)) := hR0
  have HE0 : Hid (X3 W0 (w.heap.size + 3) (.int .i64 0) (.int .i64 0) (.int .i64 0)) := hE0
  have HB_W0 : Hid (Below w.heap.size w W0) := hB_W0
  have HS_W0 : Hid (W0.heap.size = w.heap.size + 4) := hS_W0
  clear hB_W0 hS_W0 hC0 hS0 hR0 hE0
  have hr0 := hr.later HB_W0.out
  have q0 := implGood_c ao n c t y xs W0 hx hn hr0 hz
  rw [hg] at q0
  obtain ⟨⟨c0, c1, c2⟩, cf⟩ := id (HC0.out)
  clear cf
  clear hr
  go_enter Try.func29, Try.ntmps29
  go_wp2_with fail
  refine q0.mono ?_
  clear q0 c0 c1 c2
  rintro e w1 ⟨rfl, hb⟩
  have HC1 := HC0.out.later hb
  have HS1 := HS0.out.later hb
  have HR1 := HR0.out.later hb
  have HE1 := HE0.out.later hb
  have HB1 : Hid (Below w.heap.size w w1) := HB_W0.out.trans (hb.mono HB_W0.out.size)
  have HL1 : Hid (w.heap.size + 4 ≤ w1.heap.size) := (by have h1 := HS_W0.out; have h2 : W0.heap.size ≤ w1.heap.size := hb.size; show _ ≤ _; omega)
  have HRD1 : Hid (RdS w1 ao xs) := hr0.later hb
  clear hb hr0 hW0
  obtain ⟨⟨c0, c1, c2⟩, cf⟩ := id (HC1)
  clear cf
  obtain ⟨⟨s0, s1⟩, sf⟩ := id (HS1)
  clear sf
  have qs := isSaying_c s w1 hs
  rw [hsay] at qs
  go_wp2_with fail
  refine qs.mono ?_
  clear qs
  rintro e w' ⟨rfl, hw⟩
  subst w'
  have qt := isPlainTick_c 1 s w1
  rw [show tickB 1 s = false from rfl] at qt
  go_wp2_with fail
  refine qt.mono ?_
  clear qt c0 c1 c2 s0 s1
  rintro e w2 ⟨rfl, hb⟩
  have HC2 := HC1.later hb
  have HR2 := HR1.later hb
  have HE2 := HE1.later hb
  have HB2 : Hid (Below w.heap.size w w2) := HB1.out.trans (hb.mono HB1.out.size)
  clear hb
  obtain ⟨⟨c0, c1, c2⟩, cf⟩ := id (HC2)
  clear cf
  obtain ⟨⟨r0, r1, r2⟩, rf⟩ := id (HR2)
  have rf0 := rf 0
  have rf1 := rf 1
  have rf2 := rf 2
  clear rf
  obtain ⟨⟨m0, m1, m2⟩, mf⟩ := id (HE2)
  have mf0 := mf 0
  have mf1 := mf 1
  have mf2 := mf 2
  clear mf
  go_wp2
  refine bodyPost_ret (v := .tuple #[.agg #[.slice none 0 0, .int .i64 0, .int .i64 0], .agg #[.int .i64 0, .int .i64 0, .int .i64 0], .string ByteArray.empty, .bool false]) (by simp [results, Try.results29, go_sem, r0, r1, r2, m0, m1, m2]; try rfl) rfl ?_
  exact ⟨rfl, by
    repeat (refine Below.setCell ?_ (by dsimp only; omega) _)
    exact HB2.out⟩

set_option maxHeartbeats 8000000 in
theorem implStep_k1b (ao : Option Addr) (n c : Nat) (t y k : Int) (s : ByteArray) (xs : List ByteArray) (w : World) (hx : xs.length = n) (hn : n ≤ 17592186044416) (hr : RdS w ao xs) (hz : ∀ s ∈ xs, s.size ≤ 9223372036854775807) (hs : s.size ≤ 9223372036854775807) (hg : goodC xs t y = true) (hk : k = 1) (hsay : sayB s = true) (hl : ¬ n < 5) :
    Calls Try.prog 29 #[.agg #[.slice ao n c, .int .i64 t, .int .i64 y], .agg #[.int .i64 k, .string s]] w fun e w' => e = .returned (.tuple #[.agg #[.slice none 0 0, .int .i64 0, .int .i64 0], .agg #[.int .i64 0, .int .i64 0, .int .i64 0], .string ByteArray.empty, .bool false]) ∧ Below w.heap.size w w' := by
  subst hk
  have hq := goodC_iff.1 hg
  have hq2 := queueB_iff.1 hq.1
  have t0 := hq.2.1.1
  have t1 := hq.2.1.2
  have y0 := hq.2.2.1
  have y1 := hq.2.2.2
  have hq5 : n ≤ 5 := by rw [← hx]; exact hq2.1
  have hsz : ∀ s ∈ xs, s.size ≤ 1000 := fun s h => Nat.le_trans (hq2.2 s h) (by omega)
  clear hq hq2
  have hC0 := (((x3_new w (.slice ao n c) (.int .i64 t) (.int .i64 y) 45 (w.heap.size) (by simp)).later (balloc (w.alloc (.cells #[.slice ao n c, .int .i64 t, .int .i64 y] 45)) (.cells #[.int .i64 1, .string s] 39))).later (balloc ((w.alloc (.cells #[.slice ao n c, .int .i64 t, .int .i64 y] 45)).alloc (.cells #[.int .i64 1, .string s] 39)) (.cells #[.slice none 0 0, .int .i64 0, .int .i64 0] 45))).later (balloc (((w.alloc (.cells #[.slice ao n c, .int .i64 t, .int .i64 y] 45)).alloc (.cells #[.int .i64 1, .string s] 39)).alloc (.cells #[.slice none 0 0, .int .i64 0, .int .i64 0] 45)) (.cells #[.int .i64 0, .int .i64 0, .int .i64 0] 52))
  have hS0 := ((x2_new (w.alloc (.cells #[.slice ao n c, .int .i64 t, .int .i64 y] 45)) (.int .i64 1) (.string s) 39 (w.heap.size + 1) (by simp)).later (balloc ((w.alloc (.cells #[.slice ao n c, .int .i64 t, .int .i64 y] 45)).alloc (.cells #[.int .i64 1, .string s] 39)) (.cells #[.slice none 0 0, .int .i64 0, .int .i64 0] 45))).later (balloc (((w.alloc (.cells #[.slice ao n c, .int .i64 t, .int .i64 y] 45)).alloc (.cells #[.int .i64 1, .string s] 39)).alloc (.cells #[.slice none 0 0, .int .i64 0, .int .i64 0] 45)) (.cells #[.int .i64 0, .int .i64 0, .int .i64 0] 52))
  have hR0 := (x3_new ((w.alloc (.cells #[.slice ao n c, .int .i64 t, .int .i64 y] 45)).alloc (.cells #[.int .i64 1, .string s] 39)) (.slice none 0 0) (.int .i64 0) (.int .i64 0) 45 (w.heap.size + 2) (by simp)).later (balloc (((w.alloc (.cells #[.slice ao n c, .int .i64 t, .int .i64 y] 45)).alloc (.cells #[.int .i64 1, .string s] 39)).alloc (.cells #[.slice none 0 0, .int .i64 0, .int .i64 0] 45)) (.cells #[.int .i64 0, .int .i64 0, .int .i64 0] 52))
  have hE0 := x3_new (((w.alloc (.cells #[.slice ao n c, .int .i64 t, .int .i64 y] 45)).alloc (.cells #[.int .i64 1, .string s] 39)).alloc (.cells #[.slice none 0 0, .int .i64 0, .int .i64 0] 45)) (.int .i64 0) (.int .i64 0) (.int .i64 0) 52 (w.heap.size + 3) (by simp)
  have hB_W0 : Below w.heap.size w ((((w.alloc (.cells #[.slice ao n c, .int .i64 t, .int .i64 y] 45)).alloc (.cells #[.int .i64 1, .string s] 39)).alloc (.cells #[.slice none 0 0, .int .i64 0, .int .i64 0] 45)).alloc (.cells #[.int .i64 0, .int .i64 0, .int .i64 0] 52)) := (((balloc w (.cells #[.slice ao n c, .int .i64 t, .int .i64 y] 45)).alloc (by simp) (.cells #[.int .i64 1, .string s] 39)).alloc (by simp; omega) (.cells #[.slice none 0 0, .int .i64 0, .int .i64 0] 45)).alloc (by simp; omega) (.cells #[.int .i64 0, .int .i64 0, .int .i64 0] 52)
  have hS_W0 : (((((w.alloc (.cells #[.slice ao n c, .int .i64 t, .int .i64 y] 45)).alloc (.cells #[.int .i64 1, .string s] 39)).alloc (.cells #[.slice none 0 0, .int .i64 0, .int .i64 0] 45)).alloc (.cells #[.int .i64 0, .int .i64 0, .int .i64 0] 52))).heap.size = w.heap.size + 4 := by simp
  obtain ⟨W0, hW0⟩ : ∃ V, ((((w.alloc (.cells #[.slice ao n c, .int .i64 t, .int .i64 y] 45)).alloc (.cells #[.int .i64 1, .string s] 39)).alloc (.cells #[.slice none 0 0, .int .i64 0, .int .i64 0] 45)).alloc (.cells #[.int .i64 0, .int .i64 0, .int .i64 0] 52)) = V := ⟨_, rfl⟩
  rw [hW0] at hC0 hS0 hR0 hE0 hB_W0 hS_W0
  have HC0 : Hid (X3 W0 (w.heap.size) (.slice ao n c) (.int .i64 t) (.int .i64 y)) := hC0
  have HS0 : Hid (X2 W0 (w.heap.size + 1) (.int .i64 1) (.string s)) := hS0
  have HR0 : Hid (X3 W0 (w.heap.size + 2) (.slice none 0 0) (.int .i64 0) (.int .i64 0)) := hR0
  have HE0 : Hid (X3 W0 (w.heap.size + 3) (.int .i64 0) (.int .i64 0) (.int .i64 0)) := hE0
  have HB_W0 : Hid (Below w.heap.size w W0) := hB_W0
  have HS_W0 : Hid (W0.heap.size = w.heap.size + 4) := hS_W0
  clear hB_W0 hS_W0 hC0 hS0 hR0 hE0
  have hr0 := hr.later HB_W0.out
  have q0 := implGood_c ao n c t y xs W0 hx hn hr0 hz
  rw [hg] at q0
  obtain ⟨⟨c0, c1, c2⟩, cf⟩ := id (HC0.out)
  clear cf
  clear hr
  go_enter Try.func29, Try.ntmps29
  go_wp2_with fail
  refine q0.mono ?_
  clear q0 c0 c1 c2
  rintro e w1 ⟨rfl, hb⟩
  have HC1 := HC0.out.later hb
  have HS1 := HS0.out.later hb
  have HR1 := HR0.out.later hb
  have HE1 := HE0.out.later hb
  have HB1 : Hid (Below w.heap.size w w1) := HB_W0.out.trans (hb.mono HB_W0.out.size)
  have HL1 : Hid (w.heap.size + 4 ≤ w1.heap.size) := (by have h1 := HS_W0.out; have h2 : W0.heap.size ≤ w1.heap.size := hb.size; show _ ≤ _; omega)
  have HRD1 : Hid (RdS w1 ao xs) := hr0.later hb
  clear hb hr0 hW0
  have hl5 : ¬ (n : Int) < 5 := by omega
  clear hl
  obtain ⟨⟨c0, c1, c2⟩, cf⟩ := id (HC1)
  clear cf
  obtain ⟨⟨s0, s1⟩, sf⟩ := id (HS1)
  clear sf
  have qs := isSaying_c s w1 hs
  rw [hsay] at qs
  go_wp2_with fail
  refine qs.mono ?_
  clear qs
  rintro e w' ⟨rfl, hw⟩
  subst w'
  have qt := isPlainTick_c 1 s w1
  rw [show tickB 1 s = false from rfl] at qt
  go_wp2_with fail
  refine qt.mono ?_
  clear qt c0 c1 c2 s0 s1
  rintro e w2 ⟨rfl, hb⟩
  have HC2 := HC1.later hb
  have HR2 := HR1.later hb
  have HE2 := HE1.later hb
  have HB2 : Hid (Below w.heap.size w w2) := HB1.out.trans (hb.mono HB1.out.size)
  clear hb
  obtain ⟨⟨c0, c1, c2⟩, cf⟩ := id (HC2)
  clear cf
  obtain ⟨⟨r0, r1, r2⟩, rf⟩ := id (HR2)
  have rf0 := rf 0
  have rf1 := rf 1
  have rf2 := rf 2
  clear rf
  obtain ⟨⟨m0, m1, m2⟩, mf⟩ := id (HE2)
  have mf0 := mf 0
  have mf1 := mf 1
  have mf2 := mf 2
  clear mf
  go_wp2
  refine bodyPost_ret (v := .tuple #[.agg #[.slice none 0 0, .int .i64 0, .int .i64 0], .agg #[.int .i64 0, .int .i64 0, .int .i64 0], .string ByteArray.empty, .bool false]) (by simp [results, Try.results29, go_sem, r0, r1, r2, m0, m1, m2]; try rfl) rfl ?_
  exact ⟨rfl, by
    repeat (refine Below.setCell ?_ (by dsimp only; omega) _)
    exact HB2.out⟩

set_option maxHeartbeats 8000000 in
theorem implStep_k2a (ao : Option Addr) (n c : Nat) (t y k : Int) (s : ByteArray) (xs : List ByteArray) (w : World) (hx : xs.length = n) (hn : n ≤ 17592186044416) (hr : RdS w ao xs) (hz : ∀ s ∈ xs, s.size ≤ 9223372036854775807) (hs : s.size ≤ 9223372036854775807) (hg : goodC xs t y = true) (hk : k ≠ 1) (htk : tickB k s = false) :
    Calls Try.prog 29 #[.agg #[.slice ao n c, .int .i64 t, .int .i64 y], .agg #[.int .i64 k, .string s]] w fun e w' => e = .returned (.tuple #[.agg #[.slice none 0 0, .int .i64 0, .int .i64 0], .agg #[.int .i64 0, .int .i64 0, .int .i64 0], .string ByteArray.empty, .bool false]) ∧ Below w.heap.size w w' := by
  have hk1 : (k == 1) = false := by rw [beq_eq_false_iff_ne]; exact hk
  have hq := goodC_iff.1 hg
  have hq2 := queueB_iff.1 hq.1
  have t0 := hq.2.1.1
  have t1 := hq.2.1.2
  have y0 := hq.2.2.1
  have y1 := hq.2.2.2
  have hq5 : n ≤ 5 := by rw [← hx]; exact hq2.1
  have hsz : ∀ s ∈ xs, s.size ≤ 1000 := fun s h => Nat.le_trans (hq2.2 s h) (by omega)
  clear hq hq2
  have hC0 := (((x3_new w (.slice ao n c) (.int .i64 t) (.int .i64 y) 45 (w.heap.size) (by simp)).later (balloc (w.alloc (.cells #[.slice ao n c, .int .i64 t, .int .i64 y] 45)) (.cells #[.int .i64 k, .string s] 39))).later (balloc ((w.alloc (.cells #[.slice ao n c, .int .i64 t, .int .i64 y] 45)).alloc (.cells #[.int .i64 k, .string s] 39)) (.cells #[.slice none 0 0, .int .i64 0, .int .i64 0] 45))).later (balloc (((w.alloc (.cells #[.slice ao n c, .int .i64 t, .int .i64 y] 45)).alloc (.cells #[.int .i64 k, .string s] 39)).alloc (.cells #[.slice none 0 0, .int .i64 0, .int .i64 0] 45)) (.cells #[.int .i64 0, .int .i64 0, .int .i64 0] 52))
  have hS0 := ((x2_new (w.alloc (.cells #[.slice ao n c, .int .i64 t, .int .i64 y] 45)) (.int .i64 k) (.string s) 39 (w.heap.size + 1) (by simp)).later (balloc ((w.alloc (.cells #[.slice ao n c, .int .i64 t, .int .i64 y] 45)).alloc (.cells #[.int .i64 k, .string s] 39)) (.cells #[.slice none 0 0, .int .i64 0, .int .i64 0] 45))).later (balloc (((w.alloc (.cells #[.slice ao n c, .int .i64 t, .int .i64 y] 45)).alloc (.cells #[.int .i64 k, .string s] 39)).alloc (.cells #[.slice none 0 0, .int .i64 0, .int .i64 0] 45)) (.cells #[.int .i64 0, .int .i64 0, .int .i64 0] 52))
  have hR0 := (x3_new ((w.alloc (.cells #[.slice ao n c, .int .i64 t, .int .i64 y] 45)).alloc (.cells #[.int .i64 k, .string s] 39)) (.slice none 0 0) (.int .i64 0) (.int .i64 0) 45 (w.heap.size + 2) (by simp)).later (balloc (((w.alloc (.cells #[.slice ao n c, .int .i64 t, .int .i64 y] 45)).alloc (.cells #[.int .i64 k, .string s] 39)).alloc (.cells #[.slice none 0 0, .int .i64 0, .int .i64 0] 45)) (.cells #[.int .i64 0, .int .i64 0, .int .i64 0] 52))
  have hE0 := x3_new (((w.alloc (.cells #[.slice ao n c, .int .i64 t, .int .i64 y] 45)).alloc (.cells #[.int .i64 k, .string s] 39)).alloc (.cells #[.slice none 0 0, .int .i64 0, .int .i64 0] 45)) (.int .i64 0) (.int .i64 0) (.int .i64 0) 52 (w.heap.size + 3) (by simp)
  have hB_W0 : Below w.heap.size w ((((w.alloc (.cells #[.slice ao n c, .int .i64 t, .int .i64 y] 45)).alloc (.cells #[.int .i64 k, .string s] 39)).alloc (.cells #[.slice none 0 0, .int .i64 0, .int .i64 0] 45)).alloc (.cells #[.int .i64 0, .int .i64 0, .int .i64 0] 52)) := (((balloc w (.cells #[.slice ao n c, .int .i64 t, .int .i64 y] 45)).alloc (by simp) (.cells #[.int .i64 k, .string s] 39)).alloc (by simp; omega) (.cells #[.slice none 0 0, .int .i64 0, .int .i64 0] 45)).alloc (by simp; omega) (.cells #[.int .i64 0, .int .i64 0, .int .i64 0] 52)
  have hS_W0 : (((((w.alloc (.cells #[.slice ao n c, .int .i64 t, .int .i64 y] 45)).alloc (.cells #[.int .i64 k, .string s] 39)).alloc (.cells #[.slice none 0 0, .int .i64 0, .int .i64 0] 45)).alloc (.cells #[.int .i64 0, .int .i64 0, .int .i64 0] 52))).heap.size = w.heap.size + 4 := by simp
  obtain ⟨W0, hW0⟩ : ∃ V, ((((w.alloc (.cells #[.slice ao n c, .int .i64 t, .int .i64 y] 45)).alloc (.cells #[.int .i64 k, .string s] 39)).alloc (.cells #[.slice none 0 0, .int .i64 0, .int .i64 0] 45)).alloc (.cells #[.int .i64 0, .int .i64 0, .int .i64 0] 52)) = V := ⟨_, rfl⟩
  rw [hW0] at hC0 hS0 hR0 hE0 hB_W0 hS_W0
  have HC0 : Hid (X3 W0 (w.heap.size) (.slice ao n c) (.int .i64 t) (.int .i64 y)) := hC0
  have HS0 : Hid (X2 W0 (w.heap.size + 1) (.int .i64 k) (.string s)) := hS0
  have HR0 : Hid (X3 W0 (w.heap.size + 2) (.slice none 0 0) (.int .i64 0) (.int .i64 0)) := hR0
  have HE0 : Hid (X3 W0 (w.heap.size + 3) (.int .i64 0) (.int .i64 0) (.int .i64 0)) := hE0
  have HB_W0 : Hid (Below w.heap.size w W0) := hB_W0
  have HS_W0 : Hid (W0.heap.size = w.heap.size + 4) := hS_W0
  clear hB_W0 hS_W0 hC0 hS0 hR0 hE0
  have hr0 := hr.later HB_W0.out
  have q0 := implGood_c ao n c t y xs W0 hx hn hr0 hz
  rw [hg] at q0
  obtain ⟨⟨c0, c1, c2⟩, cf⟩ := id (HC0.out)
  clear cf
  clear hr
  go_enter Try.func29, Try.ntmps29
  go_wp2_with fail
  refine q0.mono ?_
  clear q0 c0 c1 c2
  rintro e w1 ⟨rfl, hb⟩
  have HC1 := HC0.out.later hb
  have HS1 := HS0.out.later hb
  have HR1 := HR0.out.later hb
  have HE1 := HE0.out.later hb
  have HB1 : Hid (Below w.heap.size w w1) := HB_W0.out.trans (hb.mono HB_W0.out.size)
  have HL1 : Hid (w.heap.size + 4 ≤ w1.heap.size) := (by have h1 := HS_W0.out; have h2 : W0.heap.size ≤ w1.heap.size := hb.size; show _ ≤ _; omega)
  have HRD1 : Hid (RdS w1 ao xs) := hr0.later hb
  clear hb hr0 hW0
  obtain ⟨⟨c0, c1, c2⟩, cf⟩ := id (HC1)
  clear cf
  obtain ⟨⟨s0, s1⟩, sf⟩ := id (HS1)
  clear sf
  have qt := isPlainTick_c k s w1
  rw [show tickB k s = false from htk] at qt
  go_wp2_with fail
  refine qt.mono ?_
  clear qt c0 c1 c2 s0 s1
  rintro e w2 ⟨rfl, hb⟩
  have HC2 := HC1.later hb
  have HR2 := HR1.later hb
  have HE2 := HE1.later hb
  have HB2 : Hid (Below w.heap.size w w2) := HB1.out.trans (hb.mono HB1.out.size)
  clear hb
  obtain ⟨⟨c0, c1, c2⟩, cf⟩ := id (HC2)
  clear cf
  obtain ⟨⟨r0, r1, r2⟩, rf⟩ := id (HR2)
  have rf0 := rf 0
  have rf1 := rf 1
  have rf2 := rf 2
  clear rf
  obtain ⟨⟨m0, m1, m2⟩, mf⟩ := id (HE2)
  have mf0 := mf 0
  have mf1 := mf 1
  have mf2 := mf 2
  clear mf
  go_wp2
  refine bodyPost_ret (v := .tuple #[.agg #[.slice none 0 0, .int .i64 0, .int .i64 0], .agg #[.int .i64 0, .int .i64 0, .int .i64 0], .string ByteArray.empty, .bool false]) (by simp [results, Try.results29, go_sem, r0, r1, r2, m0, m1, m2]; try rfl) rfl ?_
  exact ⟨rfl, by
    repeat (refine Below.setCell ?_ (by dsimp only; omega) _)
    exact HB2.out⟩

set_option maxHeartbeats 8000000 in
theorem implStep_k2b (ao : Option Addr) (n c : Nat) (t y k : Int) (s : ByteArray) (xs : List ByteArray) (w : World) (hx : xs.length = n) (hn : n ≤ 17592186044416) (hr : RdS w ao xs) (hz : ∀ s ∈ xs, s.size ≤ 9223372036854775807) (hs : s.size ≤ 9223372036854775807) (hg : goodC xs t y = true) (hk : k ≠ 1) (htk : tickB k s = true) (hl : ¬ t < 1000) :
    Calls Try.prog 29 #[.agg #[.slice ao n c, .int .i64 t, .int .i64 y], .agg #[.int .i64 k, .string s]] w fun e w' => e = .returned (.tuple #[.agg #[.slice none 0 0, .int .i64 0, .int .i64 0], .agg #[.int .i64 0, .int .i64 0, .int .i64 0], .string ByteArray.empty, .bool false]) ∧ Below w.heap.size w w' := by
  have hk1 : (k == 1) = false := by rw [beq_eq_false_iff_ne]; exact hk
  have hq := goodC_iff.1 hg
  have hq2 := queueB_iff.1 hq.1
  have t0 := hq.2.1.1
  have t1 := hq.2.1.2
  have y0 := hq.2.2.1
  have y1 := hq.2.2.2
  have hq5 : n ≤ 5 := by rw [← hx]; exact hq2.1
  have hsz : ∀ s ∈ xs, s.size ≤ 1000 := fun s h => Nat.le_trans (hq2.2 s h) (by omega)
  clear hq hq2
  have hC0 := (((x3_new w (.slice ao n c) (.int .i64 t) (.int .i64 y) 45 (w.heap.size) (by simp)).later (balloc (w.alloc (.cells #[.slice ao n c, .int .i64 t, .int .i64 y] 45)) (.cells #[.int .i64 k, .string s] 39))).later (balloc ((w.alloc (.cells #[.slice ao n c, .int .i64 t, .int .i64 y] 45)).alloc (.cells #[.int .i64 k, .string s] 39)) (.cells #[.slice none 0 0, .int .i64 0, .int .i64 0] 45))).later (balloc (((w.alloc (.cells #[.slice ao n c, .int .i64 t, .int .i64 y] 45)).alloc (.cells #[.int .i64 k, .string s] 39)).alloc (.cells #[.slice none 0 0, .int .i64 0, .int .i64 0] 45)) (.cells #[.int .i64 0, .int .i64 0, .int .i64 0] 52))
  have hS0 := ((x2_new (w.alloc (.cells #[.slice ao n c, .int .i64 t, .int .i64 y] 45)) (.int .i64 k) (.string s) 39 (w.heap.size + 1) (by simp)).later (balloc ((w.alloc (.cells #[.slice ao n c, .int .i64 t, .int .i64 y] 45)).alloc (.cells #[.int .i64 k, .string s] 39)) (.cells #[.slice none 0 0, .int .i64 0, .int .i64 0] 45))).later (balloc (((w.alloc (.cells #[.slice ao n c, .int .i64 t, .int .i64 y] 45)).alloc (.cells #[.int .i64 k, .string s] 39)).alloc (.cells #[.slice none 0 0, .int .i64 0, .int .i64 0] 45)) (.cells #[.int .i64 0, .int .i64 0, .int .i64 0] 52))
  have hR0 := (x3_new ((w.alloc (.cells #[.slice ao n c, .int .i64 t, .int .i64 y] 45)).alloc (.cells #[.int .i64 k, .string s] 39)) (.slice none 0 0) (.int .i64 0) (.int .i64 0) 45 (w.heap.size + 2) (by simp)).later (balloc (((w.alloc (.cells #[.slice ao n c, .int .i64 t, .int .i64 y] 45)).alloc (.cells #[.int .i64 k, .string s] 39)).alloc (.cells #[.slice none 0 0, .int .i64 0, .int .i64 0] 45)) (.cells #[.int .i64 0, .int .i64 0, .int .i64 0] 52))
  have hE0 := x3_new (((w.alloc (.cells #[.slice ao n c, .int .i64 t, .int .i64 y] 45)).alloc (.cells #[.int .i64 k, .string s] 39)).alloc (.cells #[.slice none 0 0, .int .i64 0, .int .i64 0] 45)) (.int .i64 0) (.int .i64 0) (.int .i64 0) 52 (w.heap.size + 3) (by simp)
  have hB_W0 : Below w.heap.size w ((((w.alloc (.cells #[.slice ao n c, .int .i64 t, .int .i64 y] 45)).alloc (.cells #[.int .i64 k, .string s] 39)).alloc (.cells #[.slice none 0 0, .int .i64 0, .int .i64 0] 45)).alloc (.cells #[.int .i64 0, .int .i64 0, .int .i64 0] 52)) := (((balloc w (.cells #[.slice ao n c, .int .i64 t, .int .i64 y] 45)).alloc (by simp) (.cells #[.int .i64 k, .string s] 39)).alloc (by simp; omega) (.cells #[.slice none 0 0, .int .i64 0, .int .i64 0] 45)).alloc (by simp; omega) (.cells #[.int .i64 0, .int .i64 0, .int .i64 0] 52)
  have hS_W0 : (((((w.alloc (.cells #[.slice ao n c, .int .i64 t, .int .i64 y] 45)).alloc (.cells #[.int .i64 k, .string s] 39)).alloc (.cells #[.slice none 0 0, .int .i64 0, .int .i64 0] 45)).alloc (.cells #[.int .i64 0, .int .i64 0, .int .i64 0] 52))).heap.size = w.heap.size + 4 := by simp
  obtain ⟨W0, hW0⟩ : ∃ V, ((((w.alloc (.cells #[.slice ao n c, .int .i64 t, .int .i64 y] 45)).alloc (.cells #[.int .i64 k, .string s] 39)).alloc (.cells #[.slice none 0 0, .int .i64 0, .int .i64 0] 45)).alloc (.cells #[.int .i64 0, .int .i64 0, .int .i64 0] 52)) = V := ⟨_, rfl⟩
  rw [hW0] at hC0 hS0 hR0 hE0 hB_W0 hS_W0
  have HC0 : Hid (X3 W0 (w.heap.size) (.slice ao n c) (.int .i64 t) (.int .i64 y)) := hC0
  have HS0 : Hid (X2 W0 (w.heap.size + 1) (.int .i64 k) (.string s)) := hS0
  have HR0 : Hid (X3 W0 (w.heap.size + 2) (.slice none 0 0) (.int .i64 0) (.int .i64 0)) := hR0
  have HE0 : Hid (X3 W0 (w.heap.size + 3) (.int .i64 0) (.int .i64 0) (.int .i64 0)) := hE0
  have HB_W0 : Hid (Below w.heap.size w W0) := hB_W0
  have HS_W0 : Hid (W0.heap.size = w.heap.size + 4) := hS_W0
  clear hB_W0 hS_W0 hC0 hS0 hR0 hE0
  have hr0 := hr.later HB_W0.out
  have q0 := implGood_c ao n c t y xs W0 hx hn hr0 hz
  rw [hg] at q0
  obtain ⟨⟨c0, c1, c2⟩, cf⟩ := id (HC0.out)
  clear cf
  clear hr
  go_enter Try.func29, Try.ntmps29
  go_wp2_with fail
  refine q0.mono ?_
  clear q0 c0 c1 c2
  rintro e w1 ⟨rfl, hb⟩
  have HC1 := HC0.out.later hb
  have HS1 := HS0.out.later hb
  have HR1 := HR0.out.later hb
  have HE1 := HE0.out.later hb
  have HB1 : Hid (Below w.heap.size w w1) := HB_W0.out.trans (hb.mono HB_W0.out.size)
  have HL1 : Hid (w.heap.size + 4 ≤ w1.heap.size) := (by have h1 := HS_W0.out; have h2 : W0.heap.size ≤ w1.heap.size := hb.size; show _ ≤ _; omega)
  have HRD1 : Hid (RdS w1 ao xs) := hr0.later hb
  clear hb hr0 hW0
  obtain ⟨⟨c0, c1, c2⟩, cf⟩ := id (HC1)
  clear cf
  obtain ⟨⟨s0, s1⟩, sf⟩ := id (HS1)
  clear sf
  have qt := isPlainTick_c k s w1
  rw [show tickB k s = true from htk] at qt
  go_wp2_with fail
  refine qt.mono ?_
  clear qt c0 c1 c2 s0 s1
  rintro e w2 ⟨rfl, hb⟩
  have HC2 := HC1.later hb
  have HR2 := HR1.later hb
  have HE2 := HE1.later hb
  have HB2 : Hid (Below w.heap.size w w2) := HB1.out.trans (hb.mono HB1.out.size)
  clear hb
  obtain ⟨⟨c0, c1, c2⟩, cf⟩ := id (HC2)
  clear cf
  obtain ⟨⟨r0, r1, r2⟩, rf⟩ := id (HR2)
  have rf0 := rf 0
  have rf1 := rf 1
  have rf2 := rf 2
  clear rf
  obtain ⟨⟨m0, m1, m2⟩, mf⟩ := id (HE2)
  have mf0 := mf 0
  have mf1 := mf 1
  have mf2 := mf 2
  clear mf
  go_wp2
  refine bodyPost_ret (v := .tuple #[.agg #[.slice none 0 0, .int .i64 0, .int .i64 0], .agg #[.int .i64 0, .int .i64 0, .int .i64 0], .string ByteArray.empty, .bool false]) (by simp [results, Try.results29, go_sem, r0, r1, r2, m0, m1, m2]; try rfl) rfl ?_
  exact ⟨rfl, by
    repeat (refine Below.setCell ?_ (by dsimp only; omega) _)
    exact HB2.out⟩

end Go.Proofs.Yteopaocomfepfaa
