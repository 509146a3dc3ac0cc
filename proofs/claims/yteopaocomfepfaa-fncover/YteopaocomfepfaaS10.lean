/- Chapter 10, the program: a client behind a saying, behind a tick. -/
import Derived.Test.YteopaocomfepfaaG10
namespace Go.Proofs.Yteopaocomfepfaa
set_option linter.unusedVariables false
set_option maxRecDepth 1000000
set_option linter.unusedSimpArgs false
open Go.RowKit

theorem OwnS.set {w : World} {base r j : Nat} {v u : Value} {xs : List ByteArray} (h : OwnS w base v xs) (hr : r < base) : OwnS (w.setCell ⟨r, j, none⟩ u) base v xs := by
  refine h.kept (grown_setCell w r j u) ?_
  cases hv : v.ownBlock with
  | none => exact Or.inl rfl
  | some k => exact Or.inr fun e => by simp at e; have := own_block_geS h k hv; omega

set_option maxHeartbeats 4000000 in
theorem afterSay_c (ao : Option Addr) (n c : Nat) (t y : Int) (s : ByteArray) (xs : List ByteArray) (w : World) (hx : xs.length = n) (hn : n ≤ 1000) (hr : RdS w ao xs) (hz : ∀ s ∈ xs, s.size ≤ 1000) (hs : s.size ≤ 1000) :
    Calls Try.prog 75 #[.agg #[.slice ao n c, .int .i64 t, .int .i64 y], .string s] w fun e w' => ∃ a' c', e = .returned (.agg #[.slice a' (n + 1) c', .int .i64 t, .int .i64 y]) ∧ OwnS w' w.heap.size (.slice a' (n + 1) c') (xs ++ [s]) ∧ Below w.heap.size w w' := by
  obtain ⟨i0, hi, hz0, hz1, hz2⟩ := info_parts Try.infoStr
  have hC0 := (x3_new w (.slice ao n c) (.int .i64 t) (.int .i64 y) 45 w.heap.size rfl).later (balloc _ (.cells #[.slice none 0 0, .int .i64 0, .int .i64 0] 45))
  have hC1 := x3_new (w.alloc (.cells #[.slice ao n c, .int .i64 t, .int .i64 y] 45)) (.slice none 0 0) (.int .i64 0) (.int .i64 0) 45 (w.heap.size + 1) (by simp)
  have hB0 : Below w.heap.size w ((w.alloc (.cells #[.slice ao n c, .int .i64 t, .int .i64 y] 45)).alloc (.cells #[.slice none 0 0, .int .i64 0, .int .i64 0] 45)) := (balloc w _).alloc (by simp) _
  have hS : ((w.alloc (.cells #[.slice ao n c, .int .i64 t, .int .i64 y] 45)).alloc (.cells #[.slice none 0 0, .int .i64 0, .int .i64 0] 45)).heap.size = w.heap.size + 2 := by simp
  obtain ⟨W0, hW0⟩ : ∃ W0, (w.alloc (.cells #[.slice ao n c, .int .i64 t, .int .i64 y] 45)).alloc (.cells #[.slice none 0 0, .int .i64 0, .int .i64 0] 45) = W0 := ⟨_, rfl⟩
  rw [hW0] at hC0 hC1 hB0 hS
  have HC0 : Hid (X3 W0 w.heap.size (.slice ao n c) (.int .i64 t) (.int .i64 y)) := hC0
  have HC1 : Hid (X3 W0 (w.heap.size + 1) (.slice none 0 0) (.int .i64 0) (.int .i64 0)) := hC1
  have HB0 : Hid (Below w.heap.size w W0) := hB0
  have HS : Hid (W0.heap.size = w.heap.size + 2) := hS
  have q0 := each_c ao n c xs W0 hx (by omega) (hr.later hB0) hz
  have q1 := fun wx => strClone_c s wx hs
  have HX : Hid (xs.length = n) := hx
  obtain ⟨⟨c0, c1, c2⟩, f⟩ := hC0
  clear hr hx hz hB0 hS hC1 f
  go_enter Try.func75, Try.ntmps75
  go_wp2_with fail
  refine q0.mono ?_
  clear q0
  rintro e w1 ⟨a1, d1, rfl, ho, hb⟩
  have HO1 : Hid (OwnS w1 W0.heap.size (.slice a1 n d1) xs) := ho
  have HC01 := HC0.out.later hb
  have HC11 := HC1.out.later hb
  have HB1 : Hid (Below w.heap.size w w1) := HB0.out.trans (hb.mono HB0.out.size)
  have hz1' : W0.heap.size ≤ w1.heap.size := hb.size
  clear c0 c1 c2 ho hb hW0
  go_wp2_with fail
  refine (q1 _).mono ?_
  clear q1
  rintro e w2 ⟨rfl, hb⟩
  have HO2 : Hid (OwnS w2 W0.heap.size (.slice a1 n d1) xs) := HO1.out.later hb
  have HC02 : Hid (X3 w2 w.heap.size (.slice ao n c) (.int .i64 t) (.int .i64 y)) := HC01.later hb
  have HC12 : Hid (X3 w2 (w.heap.size + 1) (.slice none 0 0) (.int .i64 0) (.int .i64 0)) := HC11.later hb
  have HB2 : Hid (Below w.heap.size w w2) := HB1.out.trans (hb.mono HB1.out.size)
  have hz2' : W0.heap.size ≤ w2.heap.size := Nat.le_trans hz1' hb.size
  have hown : w2.ownsRow W0.heap.size 9 1 (.slice a1 n d1) n (cellsS xs) := by have h := HO2.out; unfold OwnS at h; rw [HX.out] at h; exact h
  clear hb HC01 HC11
  go_wp2_with (at_builtin; refine wpList_append_own _ rfl _ _ 27 rfl W0.heap.size 9 i0 (.string ByteArray.empty) 1 16 Try.underlying27 hi hz0 hz1 hz2 rfl (by decide) _ _ _ rfl (hown.alloc _) ⟨w2.heap.size, 0, none⟩ 1 1 [.string s] rfl rfl (cell_new1 _ _ _) (strs_oneCell [s]) (by unfold maxLen; omega) (by omega) (by simp; omega) ?_; intro v' w3 hown' hgrow _; have hO3 : OwnS w3 W0.heap.size v' (xs ++ [s]) := own_pushS (w := w2) (v := v') (by rw [HX.out]; simpa using hown'); have hC03 := (HC02.out.later (balloc w2 (.cells #[.string s] 9))).grown hgrow (fun e => by have := own_block_geS HO2.out _ e.symm; have := HS.out; omega); have hC13 := (HC12.out.later (balloc w2 (.cells #[.string s] 9))).grown hgrow (fun e => by have := own_block_geS HO2.out _ e.symm; have := HS.out; omega); have hB3 := (HB2.out.alloc HB2.out.size (.cells #[.string s] 9)).grown hgrow (by have := HB2.out.size; simp; omega) (fun k' e => by have := own_block_geS HO2.out _ e; have := HS.out; omega); obtain ⟨a', c', hv⟩ := hO3.shape; rw [List.length_append, HX.out] at hv; simp only [List.length_cons, List.length_nil, Nat.zero_add] at hv; subst hv; have HO3 : Hid (OwnS w3 W0.heap.size (.slice a' (n + 1) c') (xs ++ [s])) := hO3; have HB3 : Hid (Below w.heap.size w w3) := hB3; obtain ⟨⟨c0, c1, c2⟩, f⟩ := hC03; obtain ⟨⟨p0, p1, p2⟩, pf⟩ := hC13; have f0 := f 0; have pf0 := pf 0; have pf1 := pf 1; have pf2 := pf 2; clear hown' hgrow hO3 hB3 f pf)
  refine bodyPost_ret (v := .agg #[.slice a' (n + 1) c', .int .i64 t, .int .i64 y]) (by simp [results, Try.results75, go_sem, c0, c1, c2, p0, p1, p2]; try rfl) rfl ⟨a', c', rfl, ?_, ?_⟩
  · have h0 : w.heap.size < W0.heap.size := by have := HS.out; omega
    have h1 : w.heap.size + 1 < W0.heap.size := by have := HS.out; omega
    exact (((((HO3.out.set h0).set h1).set h1).set h1)).mono (by omega)
  · exact (((HB3.out.setCell (Nat.le_refl _) _).setCell (by simp) _).setCell (by simp) _).setCell (by simp) _

set_option maxHeartbeats 4000000 in
/-- Behind a tick, nothing waiting. -/
theorem afterTick_none (ao : Option Addr) (c : Nat) (t y : Int) (w : World) (ht : 0 ≤ t ∧ t ≤ 1000) :
    Calls Try.prog 76 #[.agg #[.slice ao 0 c, .int .i64 t, .int .i64 y]] w fun e w' => ∃ a' c', e = .returned (.tuple #[.agg #[.slice a' 0 c', .int .i64 (t + 1), .int .i64 y], .string ByteArray.empty]) ∧ OwnS w' w.heap.size (.slice a' 0 c') [] ∧ Below w.heap.size w w' := by
  have hC0 := (x3_new w (.slice ao 0 c) (.int .i64 t) (.int .i64 y) 45 w.heap.size rfl).later (balloc _ (.cells #[.slice none 0 0, .int .i64 0, .int .i64 0] 45))
  have hC1 := x3_new (w.alloc (.cells #[.slice ao 0 c, .int .i64 t, .int .i64 y] 45)) (.slice none 0 0) (.int .i64 0) (.int .i64 0) 45 (w.heap.size + 1) (by simp)
  have hB0 : Below w.heap.size w ((w.alloc (.cells #[.slice ao 0 c, .int .i64 t, .int .i64 y] 45)).alloc (.cells #[.slice none 0 0, .int .i64 0, .int .i64 0] 45)) := (balloc w _).alloc (by simp) _
  have hS : ((w.alloc (.cells #[.slice ao 0 c, .int .i64 t, .int .i64 y] 45)).alloc (.cells #[.slice none 0 0, .int .i64 0, .int .i64 0] 45)).heap.size = w.heap.size + 2 := by simp
  obtain ⟨W0, hW0⟩ : ∃ W0, (w.alloc (.cells #[.slice ao 0 c, .int .i64 t, .int .i64 y] 45)).alloc (.cells #[.slice none 0 0, .int .i64 0, .int .i64 0] 45) = W0 := ⟨_, rfl⟩
  rw [hW0] at hC0 hC1 hB0 hS
  have HC0 : Hid (X3 W0 w.heap.size (.slice ao 0 c) (.int .i64 t) (.int .i64 y)) := hC0
  have HC1 : Hid (X3 W0 (w.heap.size + 1) (.slice none 0 0) (.int .i64 0) (.int .i64 0)) := hC1
  have HB0 : Hid (Below w.heap.size w W0) := hB0
  have HS : Hid (W0.heap.size = w.heap.size + 2) := hS
  have q0 := each_c ao 0 c [] W0 rfl (by omega) (Or.inl rfl) (fun s h => by simp at h)
  have t0 := ht.1
  have t1 := ht.2
  obtain ⟨⟨c0, c1, c2⟩, f⟩ := hC0
  clear ht hB0 hS hC1 f
  go_enter Try.func76, Try.ntmps76
  go_wp2_with fail
  refine q0.mono ?_
  clear q0
  clear c0 c1 c2 hW0
  rintro e w1 ⟨a1, d1, rfl, ho, hb⟩
  have HO : Hid (OwnS w1 W0.heap.size (.slice a1 0 d1) []) := ho
  have HB : Hid (Below w.heap.size w w1) := HB0.out.trans (hb.mono HB0.out.size)
  obtain ⟨⟨c0, c1, c2⟩, f⟩ := HC0.out.later hb
  obtain ⟨⟨p0, p1, p2⟩, pf⟩ := HC1.out.later hb
  have f0 := f 0
  have f1 := f 1
  have pf0 := pf 0
  have pf1 := pf 1
  have pf2 := pf 2
  clear hb ho f pf
  go_wp2
  refine bodyPost_ret (v := .tuple #[.agg #[.slice a1 0 d1, .int .i64 (t + 1), .int .i64 y], .string ByteArray.empty]) (by simp [results, Try.results76, go_sem, c0, c1, c2, p0, p1, p2]; try rfl) rfl ⟨a1, d1, rfl, ?_, ?_⟩
  · have h0 : w.heap.size < W0.heap.size := by have := HS.out; omega
    have h1 : w.heap.size + 1 < W0.heap.size := by have := HS.out; omega
    exact ((((((HO.out.set h0).set h0).set h1).set h1).set h1)).mono (by omega)
  · exact ((((HB.out.setCell (Nat.le_refl _) _).setCell (Nat.le_refl _) _).setCell (by simp) _).setCell (by simp) _).setCell (by simp) _

set_option maxHeartbeats 4000000 in
/-- Behind a tick, something waiting. -/
theorem afterTick_some (b o m c : Nat) (t y : Int) (x : ByteArray) (rest : List ByteArray) (w : World) (hx : rest.length = m) (hn : m ≤ 1000) (hc : m + 1 ≤ c) (hr : RdS w (some ⟨b, o, none⟩) (x :: rest)) (hz : ∀ s ∈ x :: rest, s.size ≤ 1000) (ht : 0 ≤ t ∧ t ≤ 1000) :
    Calls Try.prog 76 #[.agg #[.slice (some ⟨b, o, none⟩) (m + 1) c, .int .i64 t, .int .i64 y]] w fun e w' => ∃ a' c', e = .returned (.tuple #[.agg #[.slice a' m c', .int .i64 (t + 1), .int .i64 y], .string x]) ∧ OwnS w' w.heap.size (.slice a' m c') rest ∧ Below w.heap.size w w' := by
  have hC0 := (x3_new w (.slice (some ⟨b, o, none⟩) (m + 1) c) (.int .i64 t) (.int .i64 y) 45 w.heap.size rfl).later (balloc _ (.cells #[.slice none 0 0, .int .i64 0, .int .i64 0] 45))
  have hC1 := x3_new (w.alloc (.cells #[.slice (some ⟨b, o, none⟩) (m + 1) c, .int .i64 t, .int .i64 y] 45)) (.slice none 0 0) (.int .i64 0) (.int .i64 0) 45 (w.heap.size + 1) (by simp)
  have hB0 : Below w.heap.size w ((w.alloc (.cells #[.slice (some ⟨b, o, none⟩) (m + 1) c, .int .i64 t, .int .i64 y] 45)).alloc (.cells #[.slice none 0 0, .int .i64 0, .int .i64 0] 45)) := (balloc w _).alloc (by simp) _
  have hS : ((w.alloc (.cells #[.slice (some ⟨b, o, none⟩) (m + 1) c, .int .i64 t, .int .i64 y] 45)).alloc (.cells #[.slice none 0 0, .int .i64 0, .int .i64 0] 45)).heap.size = w.heap.size + 2 := by simp
  obtain ⟨W0, hW0⟩ : ∃ W0, (w.alloc (.cells #[.slice (some ⟨b, o, none⟩) (m + 1) c, .int .i64 t, .int .i64 y] 45)).alloc (.cells #[.slice none 0 0, .int .i64 0, .int .i64 0] 45) = W0 := ⟨_, rfl⟩
  rw [hW0] at hC0 hC1 hB0 hS
  have HC0 : Hid (X3 W0 w.heap.size (.slice (some ⟨b, o, none⟩) (m + 1) c) (.int .i64 t) (.int .i64 y)) := hC0
  have HC1 : Hid (X3 W0 (w.heap.size + 1) (.slice none 0 0) (.int .i64 0) (.int .i64 0)) := hC1
  have HB0 : Hid (Below w.heap.size w W0) := hB0
  have HS : Hid (W0.heap.size = w.heap.size + 2) := hS
  obtain ⟨A, hA⟩ : ∃ A : Nat, A = (if c = 1 then o else o + 1) := ⟨_, rfl⟩
  have hsl : (if c = 1 then (some ⟨b, o, none⟩ : Option Addr) else some ⟨b, o + 1, none⟩) = some ⟨b, A, none⟩ := by rw [hA]; split <;> rfl
  have HR : Hid (RdS W0 (some ⟨b, A, none⟩) rest) := by
    rcases hr.later hB0 with h | ⟨b', o', he, hcell⟩
    · cases h
    · simp only [Option.some.injEq, Addr.mk.injEq] at he
      obtain ⟨rfl, rfl, _⟩ := he
      by_cases h0 : m = 0
      · exact Or.inl (List.length_eq_zero_iff.1 (hx.trans h0))
      · refine Or.inr ⟨b, A, rfl, fun j hj => ?_⟩
        rw [hA, if_neg (by omega)]
        have := hcell (j + 1) (by simpa using hj)
        rw [show o + 1 + j = o + (j + 1) by omega]
        simpa [List.getD] using this
  have g1 : W0.cell? ⟨b, o, none⟩ = some (.string x) := by
    obtain ⟨b', o', he, h⟩ := (hr.later hB0).get (k := 0) (by simp)
    simp only [Option.some.injEq, Addr.mk.injEq] at he
    obtain ⟨rfl, rfl, _⟩ := he
    simpa [List.getD] using h
  have HZ : Hid (∀ s ∈ rest, s.size ≤ 1000) := fun s h => hz s (by simp [h])
  have q1 := fun wx => strClone_c x wx (hz x (by simp))
  have t0 := ht.1
  have t1 := ht.2
  have hp : (0 : Int) < (m : Int) + 1 := by omega
  have hc' : ((m : Int) + 1 ≤ (c : Int)) := by omega
  obtain ⟨⟨c0, c1, c2⟩, f⟩ := hC0
  clear hr hB0 hS hC1 f ht hz hA
  go_enter Try.func76, Try.ntmps76
  go_wp2_with fail
  go_region_with (go_at_call 85; refine (q1 _).mono ?_; rintro e w1 ⟨rfl, hb1⟩; have hB1 : Below W0.heap.size W0 w1 := (by first | exact hb1 | exact ((Below.refl W0.heap.size W0).drew).trans hb1); have HC01 : Hid (X3 w1 w.heap.size (.slice (some ⟨b, o, none⟩) (m + 1) c) (.int .i64 t) (.int .i64 y)) := HC0.out.later hB1; have HC11 : Hid (X3 w1 (w.heap.size + 1) (.slice none 0 0) (.int .i64 0) (.int .i64 0)) := HC1.out.later hB1; have HB1 : Hid (Below w.heap.size w w1) := HB0.out.trans (hB1.mono HB0.out.size); have HR1 : Hid (RdS w1 (some ⟨b, A, none⟩) rest) := HR.out.later hB1; have HS1 : Hid (w.heap.size + 2 ≤ w1.heap.size) := (by have h1 := HS.out; have h2 : W0.heap.size ≤ w1.heap.size := hB1.size; show _ ≤ _; omega); clear hb1 hB1)
  all_goals (
    have q0 := each_c (some ⟨b, A, none⟩) m (c - 1) rest w1 hx (by omega) HR1.out HZ.out
    clear c0 c1 c2 g1 hW0 q1
    go_wp2_with fail
    refine q0.mono ?_
    clear q0
    rintro e w2 ⟨a1, d1, rfl, ho, hb⟩
    have HO : Hid (OwnS w2 w1.heap.size (.slice a1 m d1) rest) := ho
    have HB : Hid (Below w.heap.size w w2) := HB1.out.trans (hb.mono HB1.out.size)
    obtain ⟨⟨c0, c1, c2⟩, f⟩ := HC01.out.later hb
    obtain ⟨⟨p0, p1, p2⟩, pf⟩ := HC11.out.later hb
    have f0 := f 0
    have f1 := f 1
    have pf0 := pf 0
    have pf1 := pf 1
    have pf2 := pf 2
    clear hb ho f pf
    go_wp2
    refine bodyPost_ret (v := .tuple #[.agg #[.slice a1 m d1, .int .i64 (t + 1), .int .i64 y], .string x]) (by simp [results, Try.results76, go_sem, c0, c1, c2, p0, p1, p2]; try rfl) rfl ⟨a1, d1, rfl, ?_, ?_⟩
    · have h0 : w.heap.size < w1.heap.size := by have := HS1.out; omega
      have h1 : w.heap.size + 1 < w1.heap.size := by have := HS1.out; omega
      exact ((((((HO.out.set h0).set h0).set h1).set h1).set h1)).mono (by omega)
    · exact ((((HB.out.setCell (Nat.le_refl _) _).setCell (Nat.le_refl _) _).setCell (by simp) _).setCell (by simp) _).setCell (by simp) _)

/-- Behind a tick. -/
theorem afterTick_c (ao : Option Addr) (n c : Nat) (t y : Int) (xs : List ByteArray) (w : World) (hx : xs.length = n) (hn : n ≤ 1000) (hc : n ≤ c) (hr : RdS w ao xs) (hz : ∀ s ∈ xs, s.size ≤ 1000) (ht : 0 ≤ t ∧ t ≤ 1000) :
    Calls Try.prog 76 #[.agg #[.slice ao n c, .int .i64 t, .int .i64 y]] w fun e w' => ∃ a' c', e = .returned (.tuple #[.agg #[.slice a' (n - 1) c', .int .i64 (t + 1), .int .i64 y], .string (xs.headD ByteArray.empty)]) ∧ OwnS w' w.heap.size (.slice a' (n - 1) c') xs.tail ∧ Below w.heap.size w w' := by
  cases xs with
  | nil => simp at hx; subst hx; exact afterTick_none ao c t y w ht
  | cons x rest =>
    simp at hx
    obtain ⟨b, o, rfl, _⟩ := hr.get (k := 0) (by simp)
    subst hx
    exact afterTick_some b o rest.length c t y x rest w rfl (by omega) hc hr hz ht

end Go.Proofs.Yteopaocomfepfaa
