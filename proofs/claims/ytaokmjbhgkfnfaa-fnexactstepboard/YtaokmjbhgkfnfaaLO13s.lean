/- Chapter 13: l13Own of the specification: its first region in every order. -/
import Derived.Test.YtaokmjbhgkfnfaaSJ13s
import Derived.Deep.DeepCutAuto
namespace Go.Proofs.Ytaokmjbhgkfnfaa
set_option linter.unusedVariables false
set_option maxRecDepth 1000000
set_option linter.unusedSimpArgs false
open Go.RowKit

theorem sep_ne {v : Value} {g : Nat} (h : ∀ k, v.ownBlock = some k → k ≠ g) : v.ownBlock = none ∨ v.ownBlock ≠ some g := by
  cases hb : v.ownBlock with
  | none => exact Or.inl rfl
  | some k => exact Or.inr (fun e => h k hb (Option.some.inj e))
theorem own_sepN {u v : Value} (h : ∀ k, u.ownBlock = some k → ∀ k2, v.ownBlock = some k2 → k ≠ k2) : u.ownBlock = none ∨ u.ownBlock ≠ v.ownBlock := by
  cases hb : u.ownBlock with
  | none => exact Or.inl rfl
  | some k => exact Or.inr (fun e => h k hb k e.symm rfl)
/-- A list is appended to an empty literal: where the new row lies. -/
theorem appendI_at (w : World) (g : Nat) (ys : List Int) (ao : Option Addr) (m c : Nat) (hown : Own w g (.slice (some ⟨g, 0, none⟩) 0 0) []) (hr : Rd w ao ys) (hm : ys.length = m) (hnil : ao = none → m = 0 ∧ c = 0) (hb : m ≤ 2000000) (hbase : g ≤ w.heap.size) :
    ∃ a' c' w', (∀ ty, (Builtin.append_ #[23, 23] ty #[.slice (some ⟨g, 0, none⟩) 0 0, .slice ao m c]).run Try.prog w = .ok (.slice a' m c') w') ∧ Own w' g (.slice a' m c') ys ∧ w.grownBy w' (some g) ∧ ∀ k, (Value.slice a' m c').ownBlock = some k → k = g ∨ k = w.heap.size := by
  obtain ⟨i0, hi, hz0, hz1, hz2⟩ := info_parts Try.infoInt
  cases ao with
  | none =>
    obtain ⟨rfl, rfl⟩ := hnil rfl
    obtain rfl := List.length_eq_zero_iff.1 hm
    exact ⟨_, _, w, fun ty => run_append_owned_none (P := Try.prog) (w := w) g 23 ty 3 i0 1 Try.underlying23 hi (.slice (some ⟨g, 0, none⟩) 0 0) 0 (cellsI []) hown, hown, World.grownBy.refl _ _, fun k h => Or.inl (by simp only [Value.ownBlock, Option.some.injEq] at h; exact h.symm)⟩
  | some a =>
    have hnews : ∀ j u, (cellsI ys)[j]? = some u → w.cell? (a.add j) = some u := fun j u hj => by
      rcases hr with rfl | ⟨b', o', he, hc⟩
      · simp [cellsI] at hj
      · simp only [Option.some.injEq] at he
        subst he
        have hjl : j < ys.length := by have := (List.getElem?_eq_some_iff.1 hj).1; simpa [cellsI] using this
        rw [getD_map_int ys j hjl] at hj
        simp only [Option.some.injEq] at hj
        subst hj
        rw [Go.WideShapes.add_plain]
        exact hc j hjl
    have HA := fun ty => run_append_own_at (P := Try.prog) w g 23 ty 3 i0 (.int .i64 0) 1 8 Try.underlying23 hi hz0 hz1 hz2 rfl (by decide) (.slice (some ⟨g, 0, none⟩) 0 0) 0 (cellsI []) hown a m c (cellsI ys) (by rw [cellsI_length, hm, Nat.mul_one]) hnews (cellsI_oneCell _) (by unfold maxLen; omega) (by omega) hbase
    obtain ⟨v', w', hrun, hown', hgrow, _, h5⟩ := HA 23
    have ho : Own w' g v' ys := by
      unfold Own
      rw [hm]
      simpa [cellsI] using hown'
    obtain ⟨a', c', hv⟩ := ho.shape
    rw [hm] at hv
    subst hv
    refine ⟨a', c', w', fun ty => hrun, ho, hgrow, fun k h => ?_⟩
    rcases h5 with h5 | h5
    · rw [h5] at h; simp only [Value.ownBlock, Option.some.injEq] at h; exact Or.inl h.symm
    · rw [h5] at h; simp only [Option.some.injEq] at h; exact Or.inr h.symm
/-- What stands behind l13Own's first region. -/
def OwnCut (w : World) (f e : Int) (sa : Option Addr) (sn sc : Nat) (la : Option Addr) (ln lc : Nat) (ta : Option Addr) (tn tc : Nat) (li ls : List Int) (uv : Value) (V : World) : Prop :=
  ∃ (gX : Nat) (a7 : Option Addr) (c7 : Nat) (a11 : Option Addr) (c11 : Nat), uv = .pointer (some ⟨gX, 0, none⟩) ∧ X5 V w.heap.size (.int .i64 f) (.int .i64 e) (.slice sa sn sc) (.slice la ln lc) (.slice ta tn tc) ∧ X5 V (w.heap.size + 1) (.int .i64 0) (.int .i64 0) (.slice none 0 0) (.slice none 0 0) (.slice none 0 0) ∧ X5 V gX (.int .i64 f) (.int .i64 e) (.slice none 0 0) (.slice a7 ln c7) (.slice a11 tn c11) ∧ Own V (w.heap.size + 2) (.slice a7 ln c7) li ∧ Own V (w.heap.size + 2) (.slice a11 tn c11) ls ∧ ((Value.slice a7 ln c7).ownBlock = none ∨ (Value.slice a7 ln c7).ownBlock ≠ (Value.slice a11 tn c11).ownBlock) ∧ (∀ k, (Value.slice a7 ln c7).ownBlock = some k → k ≠ gX) ∧ (∀ k, (Value.slice a11 tn c11).ownBlock = some k → k ≠ gX) ∧ w.heap.size + 2 ≤ gX ∧ Below w.heap.size w V

/-- A board's copy is stored into its box: what stands behind it. -/
theorem ownCut_of (w v V : World) (gX : Nat) (f e : Int) (sa : Option Addr) (sn sc : Nat) (la : Option Addr) (ln lc : Nat) (ta : Option Addr) (tn tc : Nat) (li ls : List Int) (a7 : Option Addr) (c7 : Nat) (a11 : Option Addr) (c11 : Nat) (hV : (((((v.setCell ⟨gX, 0, none⟩ (.int .i64 f)).setCell ⟨gX, 1, none⟩ (.int .i64 e)).setCell ⟨gX, 2, none⟩ (.slice none 0 0)).setCell ⟨gX, 3, none⟩ (.slice a7 ln c7)).setCell ⟨gX, 4, none⟩ (.slice a11 tn c11)) = V) (XX : X5 v gX (.int .i64 0) (.int .i64 0) (.slice none 0 0) (.slice none 0 0) (.slice none 0 0)) (XA : X5 v w.heap.size (.int .i64 f) (.int .i64 e) (.slice sa sn sc) (.slice la ln lc) (.slice ta tn tc)) (ZR : X5 v (w.heap.size + 1) (.int .i64 0) (.int .i64 0) (.slice none 0 0) (.slice none 0 0) (.slice none 0 0)) (LL : Own v (w.heap.size + 2) (.slice a7 ln c7) li) (TT : Own v (w.heap.size + 2) (.slice a11 tn c11) ls) (HB : Below w.heap.size w v) (h1 : ∀ k, (Value.slice a7 ln c7).ownBlock = some k → ∀ k2, (Value.slice a11 tn c11).ownBlock = some k2 → k ≠ k2) (h2 : ∀ k, (Value.slice a7 ln c7).ownBlock = some k → k ≠ gX) (h3 : ∀ k, (Value.slice a11 tn c11).ownBlock = some k → k ≠ gX) (hg : w.heap.size + 2 ≤ gX) :
    X5 V w.heap.size (.int .i64 f) (.int .i64 e) (.slice sa sn sc) (.slice la ln lc) (.slice ta tn tc) ∧ ∀ uv, uv = .pointer (some ⟨gX, 0, none⟩) → Hid (OwnCut w f e sa sn sc la ln lc ta tn tc li ls uv V) := by
  have hZF := (((((XX.set0 (.int .i64 f)).set1 (.int .i64 e)).set2 (.slice none 0 0)).set3 (.slice a7 ln c7)).set4 (.slice a11 tn c11))
  have hBF : Below w.heap.size w (((((v.setCell ⟨gX, 0, none⟩ (.int .i64 f)).setCell ⟨gX, 1, none⟩ (.int .i64 e)).setCell ⟨gX, 2, none⟩ (.slice none 0 0)).setCell ⟨gX, 3, none⟩ (.slice a7 ln c7)).setCell ⟨gX, 4, none⟩ (.slice a11 tn c11)) := (((((HB.setCell (by show w.heap.size ≤ gX; omega) _).setCell (by show w.heap.size ≤ gX; omega) _).setCell (by show w.heap.size ≤ gX; omega) _).setCell (by show w.heap.size ≤ gX; omega) _).setCell (by show w.heap.size ≤ gX; omega) _)
  have hXF := (((((XA.other (r' := gX) (j' := 0) (u := (.int .i64 f)) (by omega)).other (r' := gX) (j' := 1) (u := (.int .i64 e)) (by omega)).other (r' := gX) (j' := 2) (u := (.slice none 0 0)) (by omega)).other (r' := gX) (j' := 3) (u := (.slice a7 ln c7)) (by omega)).other (r' := gX) (j' := 4) (u := (.slice a11 tn c11)) (by omega))
  have hRF := (((((ZR.other (r' := gX) (j' := 0) (u := (.int .i64 f)) (by omega)).other (r' := gX) (j' := 1) (u := (.int .i64 e)) (by omega)).other (r' := gX) (j' := 2) (u := (.slice none 0 0)) (by omega)).other (r' := gX) (j' := 3) (u := (.slice a7 ln c7)) (by omega)).other (r' := gX) (j' := 4) (u := (.slice a11 tn c11)) (by omega))
  have hLF : Own (((((v.setCell ⟨gX, 0, none⟩ (.int .i64 f)).setCell ⟨gX, 1, none⟩ (.int .i64 e)).setCell ⟨gX, 2, none⟩ (.slice none 0 0)).setCell ⟨gX, 3, none⟩ (.slice a7 ln c7)).setCell ⟨gX, 4, none⟩ (.slice a11 tn c11)) (w.heap.size + 2) (.slice a7 ln c7) li := (((((LL.rngP (RngP.ofGrown (pp := fun k => k = gX) (grown_setCell v (gX) 0 (.int .i64 f)) (fun k e => by simpa using e.symm)) (fun k h ha => by have := h2 k h; omega)).rngP (RngP.ofGrown (pp := fun k => k = gX) (grown_setCell (v.setCell ⟨gX, 0, none⟩ (.int .i64 f)) (gX) 1 (.int .i64 e)) (fun k e => by simpa using e.symm)) (fun k h ha => by have := h2 k h; omega)).rngP (RngP.ofGrown (pp := fun k => k = gX) (grown_setCell ((v.setCell ⟨gX, 0, none⟩ (.int .i64 f)).setCell ⟨gX, 1, none⟩ (.int .i64 e)) (gX) 2 (.slice none 0 0)) (fun k e => by simpa using e.symm)) (fun k h ha => by have := h2 k h; omega)).rngP (RngP.ofGrown (pp := fun k => k = gX) (grown_setCell (((v.setCell ⟨gX, 0, none⟩ (.int .i64 f)).setCell ⟨gX, 1, none⟩ (.int .i64 e)).setCell ⟨gX, 2, none⟩ (.slice none 0 0)) (gX) 3 (.slice a7 ln c7)) (fun k e => by simpa using e.symm)) (fun k h ha => by have := h2 k h; omega)).rngP (RngP.ofGrown (pp := fun k => k = gX) (grown_setCell ((((v.setCell ⟨gX, 0, none⟩ (.int .i64 f)).setCell ⟨gX, 1, none⟩ (.int .i64 e)).setCell ⟨gX, 2, none⟩ (.slice none 0 0)).setCell ⟨gX, 3, none⟩ (.slice a7 ln c7)) (gX) 4 (.slice a11 tn c11)) (fun k e => by simpa using e.symm)) (fun k h ha => by have := h2 k h; omega))
  have hTF : Own (((((v.setCell ⟨gX, 0, none⟩ (.int .i64 f)).setCell ⟨gX, 1, none⟩ (.int .i64 e)).setCell ⟨gX, 2, none⟩ (.slice none 0 0)).setCell ⟨gX, 3, none⟩ (.slice a7 ln c7)).setCell ⟨gX, 4, none⟩ (.slice a11 tn c11)) (w.heap.size + 2) (.slice a11 tn c11) ls := (((((TT.rngP (RngP.ofGrown (pp := fun k => k = gX) (grown_setCell v (gX) 0 (.int .i64 f)) (fun k e => by simpa using e.symm)) (fun k h ha => by have := h3 k h; omega)).rngP (RngP.ofGrown (pp := fun k => k = gX) (grown_setCell (v.setCell ⟨gX, 0, none⟩ (.int .i64 f)) (gX) 1 (.int .i64 e)) (fun k e => by simpa using e.symm)) (fun k h ha => by have := h3 k h; omega)).rngP (RngP.ofGrown (pp := fun k => k = gX) (grown_setCell ((v.setCell ⟨gX, 0, none⟩ (.int .i64 f)).setCell ⟨gX, 1, none⟩ (.int .i64 e)) (gX) 2 (.slice none 0 0)) (fun k e => by simpa using e.symm)) (fun k h ha => by have := h3 k h; omega)).rngP (RngP.ofGrown (pp := fun k => k = gX) (grown_setCell (((v.setCell ⟨gX, 0, none⟩ (.int .i64 f)).setCell ⟨gX, 1, none⟩ (.int .i64 e)).setCell ⟨gX, 2, none⟩ (.slice none 0 0)) (gX) 3 (.slice a7 ln c7)) (fun k e => by simpa using e.symm)) (fun k h ha => by have := h3 k h; omega)).rngP (RngP.ofGrown (pp := fun k => k = gX) (grown_setCell ((((v.setCell ⟨gX, 0, none⟩ (.int .i64 f)).setCell ⟨gX, 1, none⟩ (.int .i64 e)).setCell ⟨gX, 2, none⟩ (.slice none 0 0)).setCell ⟨gX, 3, none⟩ (.slice a7 ln c7)) (gX) 4 (.slice a11 tn c11)) (fun k e => by simpa using e.symm)) (fun k h ha => by have := h3 k h; omega))
  rw [hV] at hZF hBF hXF hRF hLF hTF
  exact ⟨hXF, fun uv hu => ⟨gX, a7, c7, a11, c11, hu, hXF, hRF, hZF, hLF, hTF, own_sepN h1, h2, h3, hg, hBF⟩⟩

set_option maxHeartbeats 16000000 in
theorem l13Own_c (f e : Int) (sa : Option Addr) (sn sc : Nat) (la : Option Addr) (ln lc : Nat) (ta : Option Addr) (tn tc : Nat) (sg : List (List Int)) (li ls : List Int) (w : World) (hs : sg.length = sn) (hsn : sn ≤ 1000) (hl : li.length = ln) (hln : ln ≤ 1000) (ht : ls.length = tn) (htn : tn ≤ 1000) (hrs : RdNN w sa sg) (hrl : Rd w la li) (hrt : Rd w ta ls) (hsl : ∀ l ∈ sg, l.length ≤ 1000) (hlz : la = none → ln = 0 ∧ lc = 0) (htz : ta = none → tn = 0 ∧ tc = 0) :
    Calls Try.prog 55 #[.agg #[.int .i64 f, .int .i64 e, .slice sa sn sc, .slice la ln lc, .slice ta tn tc]] w fun x w' => ∃ sa' sc' la' lc' ta' tc', x = .returned (.agg #[.int .i64 f, .int .i64 e, .slice sa' sn sc', .slice la' ln lc', .slice ta' tn tc']) ∧ OwnBd w' w.heap.size w'.heap.size (.slice sa' sn sc') (.slice la' ln lc') (.slice ta' tn tc') ⟨f, e, sg, li, ls⟩ ∧ Below w.heap.size w w' := by
  have HS : Hid (sg.length = sn) := hs
  have HL : Hid (li.length = ln) := hl
  have HT : Hid (ls.length = tn) := ht
  have HSL : Hid (∀ l ∈ sg, l.length ≤ 1000) := hsl
  have HLZ : Hid (la = none → ln = 0 ∧ lc = 0) := hlz
  have HTZ : Hid (ta = none → tn = 0 ∧ tc = 0) := htz
  have HRS : Hid (∀ wx, Below w.heap.size w wx → RdNN wx sa sg) := fun wx h => hrs.later h
  have HRL : Hid (∀ wx, Below w.heap.size w wx → Rd wx la li) := fun wx h => hrl.later h
  have HRT : Hid (∀ wx, Below w.heap.size w wx → Rd wx ta ls) := fun wx h => hrt.later h
  have HX0 : Hid (X5 ((w.alloc (.cells #[.int .i64 f, .int .i64 e, .slice sa sn sc, .slice la ln lc, .slice ta tn tc] 29)).alloc (.cells #[.int .i64 0, .int .i64 0, .slice none 0 0, .slice none 0 0, .slice none 0 0] 29)) w.heap.size (.int .i64 f) (.int .i64 e) (.slice sa sn sc) (.slice la ln lc) (.slice ta tn tc)) := (x5_new w (.int .i64 f) (.int .i64 e) (.slice sa sn sc) (.slice la ln lc) (.slice ta tn tc) 29 w.heap.size rfl).later (balloc _ _)
  have HZ0 : Hid (X5 ((w.alloc (.cells #[.int .i64 f, .int .i64 e, .slice sa sn sc, .slice la ln lc, .slice ta tn tc] 29)).alloc (.cells #[.int .i64 0, .int .i64 0, .slice none 0 0, .slice none 0 0, .slice none 0 0] 29)) (w.heap.size + 1) (.int .i64 0) (.int .i64 0) (.slice none 0 0) (.slice none 0 0) (.slice none 0 0)) := x5_new _ _ _ _ _ _ 29 _ (by simp)
  have HB0 : Hid (Below w.heap.size w ((w.alloc (.cells #[.int .i64 f, .int .i64 e, .slice sa sn sc, .slice la ln lc, .slice ta tn tc] 29)).alloc (.cells #[.int .i64 0, .int .i64 0, .slice none 0 0, .slice none 0 0, .slice none 0 0] 29))) := (balloc w _).alloc (balloc w _).size _
  have HN0 : Hid (((w.alloc (.cells #[.int .i64 f, .int .i64 e, .slice sa sn sc, .slice la ln lc, .slice ta tn tc] 29)).alloc (.cells #[.int .i64 0, .int .i64 0, .slice none 0 0, .slice none 0 0, .slice none 0 0] 29)).heap.size = w.heap.size + 2) := by show _ = _; simp
  clear hs hl ht hsl hrs hrl hrt hlz htz
  go_enter Try.func55, Try.ntmps55
  go_upto_region 1 with fail
  go_cut [3] (fun uv wx => OwnCut w f e sa sn sc la ln lc ta tn tc li ls uv wx)
  case first =>
    refine wp_region_held_drew (S := (fun X => (X.cell? ⟨w.heap.size, 0, none⟩ = some (.int .i64 f) ∧ X.cell? ⟨w.heap.size, 1, none⟩ = some (.int .i64 e) ∧ X.cell? ⟨w.heap.size, 2, none⟩ = some (.slice sa sn sc) ∧ X.cell? ⟨w.heap.size, 3, none⟩ = some (.slice la ln lc) ∧ X.cell? ⟨w.heap.size, 4, none⟩ = some (.slice ta tn tc)))) (by kernel_rfl) ?_ (fun hHeld => ?_)
    · exact (HX0.out.later (Below.refl _ _).drew).1
    have hX := HX0.out.later (Below.refl _ _).drew
    have hZ := HZ0.out.later (Below.refl _ _).drew
    have hb0 := HB0.out.drew
    have hz0 : w.heap.size + 2 ≤ ((w.alloc (.cells #[.int .i64 f, .int .i64 e, .slice sa sn sc, .slice la ln lc, .slice ta tn tc] 29)).alloc (.cells #[.int .i64 0, .int .i64 0, .slice none 0 0, .slice none 0 0, .slice none 0 0] 29)).drew.heap.size := Nat.le_of_eq HN0.out.symm
    generalize ((w.alloc (.cells #[.int .i64 f, .int .i64 e, .slice sa sn sc, .slice la ln lc, .slice ta tn tc] 29)).alloc (.cells #[.int .i64 0, .int .i64 0, .slice none 0 0, .slice none 0 0, .slice none 0 0] 29)).drew = v0 at hX hZ hb0 hz0 hHeld ⊢
    have XA_0 : Hid (X5 v0 w.heap.size (.int .i64 f) (.int .i64 e) (.slice sa sn sc) (.slice la ln lc) (.slice ta tn tc)) := hX
    have ZR_0 : Hid (X5 v0 (w.heap.size + 1) (.int .i64 0) (.int .i64 0) (.slice none 0 0) (.slice none 0 0) (.slice none 0 0)) := hZ
    have HB_0 : Hid (Below w.heap.size w v0) := hb0
    clear hX hZ hb0 HX0 HZ0 HB0 HN0
    refine takeV13 (i := 0) (oi := _) (v := ?_) (d := some 6) rfl (by kernel_rfl) (by kernel_rfl) (by kernel_rfl) (by kernel_rfl) (fun _ _ _ h => h) (Or.inl ⟨by rfl, ?_⟩) (by assumption) ?_
    rotate_left
    · (intro w hSw; (try dsimp only at hSw); go_simp <;> with_reducible rfl)
    try simp only [Act.put, List.setIfInBounds_toArray, List.set_cons_zero, List.set_cons_succ]
    refine takeV13 (i := 1) (oi := _) (v := ?_) (d := some 7) rfl (by kernel_rfl) (by kernel_rfl) (by kernel_rfl) (by kernel_rfl) (fun _ _ _ h => h) (Or.inl ⟨by rfl, ?_⟩) (by assumption) ?_
    rotate_left
    · (intro w hSw; (try dsimp only at hSw); go_simp <;> with_reducible rfl)
    try simp only [Act.put, List.setIfInBounds_toArray, List.set_cons_zero, List.set_cons_succ]
    refine takeV13 (i := 2) (oi := _) (v := ?_) (d := some 8) rfl (by kernel_rfl) (by kernel_rfl) (by kernel_rfl) (by kernel_rfl) (fun _ _ _ h => h) (Or.inl ⟨by rfl, ?_⟩) (by assumption) ?_
    rotate_left
    · (intro w hSw; (try dsimp only at hSw); go_simp <;> with_reducible rfl)
    try simp only [Act.put, List.setIfInBounds_toArray, List.set_cons_zero, List.set_cons_succ]
    refine takeV13 (i := 3) (oi := _) (v := ?_) (d := some 9) rfl (by kernel_rfl) (by kernel_rfl) (by kernel_rfl) (by kernel_rfl) (fun _ _ _ h => h) (Or.inl ⟨by rfl, ?_⟩) (by assumption) ?_
    rotate_left
    · (intro w hSw; (try dsimp only at hSw); go_simp <;> with_reducible rfl)
    try simp only [Act.put, List.setIfInBounds_toArray, List.set_cons_zero, List.set_cons_succ]
    refine takeV13 (i := 5) (oi := _) (v := ?_) (d := some 11) rfl (by kernel_rfl) (by kernel_rfl) (by kernel_rfl) (by kernel_rfl) (fun _ _ _ h => h) (Or.inl ⟨by rfl, ?_⟩) (by assumption) ?_
    rotate_left
    · (intro w hSw; (try dsimp only at hSw); go_simp <;> with_reducible rfl)
    try simp only [Act.put, List.setIfInBounds_toArray, List.set_cons_zero, List.set_cons_succ]
    refine takeV13 (i := 6) (oi := _) (v := ?_) (d := some 12) rfl (by kernel_rfl) (by kernel_rfl) (by kernel_rfl) (by kernel_rfl) (fun _ _ _ h => h) (Or.inl ⟨by rfl, ?_⟩) (by assumption) ?_
    rotate_left
    · (intro w hSw; (try dsimp only at hSw); go_simp <;> with_reducible rfl)
    try simp only [Act.put, List.setIfInBounds_toArray, List.set_cons_zero, List.set_cons_succ]
    refine takeV13 (i := 9) (oi := _) (v := ?_) (d := some 15) rfl (by kernel_rfl) (by kernel_rfl) (by kernel_rfl) (by kernel_rfl) (fun _ _ _ h => h) (Or.inl ⟨by rfl, ?_⟩) (by assumption) ?_
    rotate_left
    · (intro w hSw; (try dsimp only at hSw); go_simp <;> with_reducible rfl)
    try simp only [Act.put, List.setIfInBounds_toArray, List.set_cons_zero, List.set_cons_succ]
    refine takeV13 (i := 10) (oi := _) (v := ?_) (d := some 16) rfl (by kernel_rfl) (by kernel_rfl) (by kernel_rfl) (by kernel_rfl) (fun _ _ _ h => h) (Or.inl ⟨by rfl, ?_⟩) (by assumption) ?_
    rotate_left
    · (intro w hSw; (try dsimp only at hSw); go_simp <;> with_reducible rfl)
    try simp only [Act.put, List.setIfInBounds_toArray, List.set_cons_zero, List.set_cons_succ]
    refine wpAnyH_ready (rs := [4, 8, 13]) (by kernel_rfl) (by simp) ?_
    refine AllReadyH.cons (o := _) rfl (fun K hK => ?cw1) (AllReadyH.cons (o := _) rfl (fun K hK => ?cw2) (AllReadyH.cons (o := _) rfl (fun K hK => ?cw3) AllReadyH.nil))
    case cw1 =>
      go_simp
      have hb : Below v0.heap.size v0 (v0.alloc (.cells #[] 3)) := balloc _ _
      have hN := emptyI v0
      have hzz : v0.heap.size + 1 ≤ (v0.alloc (.cells #[] 3)).heap.size := by simp
      have h_HB := HB_0.out.trans (hb.mono HB_0.out.size)
      have h_XA := XA_0.out.later hb
      have h_ZR := ZR_0.out.later hb
      refine hK.out _ _ ?_ (fun hHeld => ?_)
      · exact h_XA.1
      clear hK K
      try simp only [Act.put, List.setIfInBounds_toArray, List.set_cons_zero, List.set_cons_succ]
      generalize (v0.alloc (.cells #[] 3)) = v1 at hb hN hHeld hzz h_HB h_XA h_ZR ⊢
      have HB_1 : Hid (Below w.heap.size w v1) := h_HB
      have XA_1 : Hid (X5 v1 w.heap.size (.int .i64 f) (.int .i64 e) (.slice sa sn sc) (.slice la ln lc) (.slice ta tn tc)) := h_XA
      have ZR_1 : Hid (X5 v1 (w.heap.size + 1) (.int .i64 0) (.int .i64 0) (.slice none 0 0) (.slice none 0 0) (.slice none 0 0)) := h_ZR
      have E4_1 : Hid (Own v1 v0.heap.size (.slice (some ⟨v0.heap.size, 0, none⟩) 0 0) []) := hN
      clear hb hN h_HB h_XA h_ZR HB_0 XA_0 ZR_0
      refine wpAnyH_ready (rs := [7, 8, 13]) (by kernel_rfl) (by simp) ?_
      refine AllReadyH.cons (o := _) rfl (fun K hK => ?cw4) (AllReadyH.cons (o := _) rfl (fun K hK => ?cw5) (AllReadyH.cons (o := _) rfl (fun K hK => ?cw6) AllReadyH.nil))
      case cw4 =>
        rw [if_pos (by rfl)]
        obtain ⟨a7, c7, v2, r1, o1, hg, hw⟩ := appendI_at v1 (v0.heap.size) li la ln lc E4_1.out (HRL.out _ HB_1.out) HL.out HLZ.out (by omega) (by omega)
        have hzz : v1.heap.size ≤ v2.heap.size := hg.size
        have HB_2 : Hid (Below w.heap.size w v2) := Below.grown HB_1.out hg (by omega) (fun k e => by have := Option.some.inj e; omega)
        have XA_2 : Hid (X5 v2 w.heap.size (.int .i64 f) (.int .i64 e) (.slice sa sn sc) (.slice la ln lc) (.slice ta tn tc)) := XA_1.out.grown hg (fun e => by have := Option.some.inj e; omega)
        have ZR_2 : Hid (X5 v2 (w.heap.size + 1) (.int .i64 0) (.int .i64 0) (.slice none 0 0) (.slice none 0 0) (.slice none 0 0)) := ZR_1.out.grown hg (fun e => by have := Option.some.inj e; omega)
        have LL_2 : Hid (Own v2 (w.heap.size + 2) (.slice a7 ln c7) li) := o1.mono (by omega)
        have I_LL : Hid (∀ k, (Value.slice a7 ln c7).ownBlock = some k → k = v0.heap.size ∨ k = v1.heap.size) := hw
        have K_LL : Hid (∀ k, (Value.slice a7 ln c7).ownBlock = some k → k < v2.heap.size) := fun k h => (World.ownsRow.lt o1 k h).2
        refine Lib.wp_append_run _ _ _ _ _ rfl (.slice (some ⟨v0.heap.size, 0, none⟩) 0 0) (.slice la ln lc) (by rfl) (by rfl) (.slice a7 ln c7) v2 (r1 _) ?_
        refine hK.out _ _ ?_ (fun hHeld => ?_)
        · exact XA_2.out.1
        clear hK K r1 o1 hg hw HB_1 XA_1 ZR_1 E4_1
        try simp only [Act.put, List.setIfInBounds_toArray, List.set_cons_zero, List.set_cons_succ]
        refine wpAnyH_ready (rs := [8, 13]) (by kernel_rfl) (by simp) ?_
        refine AllReadyH.cons (o := _) rfl (fun K hK => ?cw7) (AllReadyH.cons (o := _) rfl (fun K hK => ?cw8) AllReadyH.nil)
        case cw7 =>
          go_simp
          have hb : Below v2.heap.size v2 (v2.alloc (.cells #[] 3)) := balloc _ _
          have hN := emptyI v2
          have hzz : v2.heap.size + 1 ≤ (v2.alloc (.cells #[] 3)).heap.size := by simp
          have h_HB := HB_2.out.trans (hb.mono HB_2.out.size)
          have h_XA := XA_2.out.later hb
          have h_ZR := ZR_2.out.later hb
          have h_LL := LL_2.out.later hb
          refine hK.out _ _ ?_ (fun hHeld => ?_)
          · exact h_XA.1
          clear hK K
          try simp only [Act.put, List.setIfInBounds_toArray, List.set_cons_zero, List.set_cons_succ]
          generalize (v2.alloc (.cells #[] 3)) = v3 at hb hN hHeld hzz h_HB h_XA h_ZR h_LL ⊢
          have HB_3 : Hid (Below w.heap.size w v3) := h_HB
          have XA_3 : Hid (X5 v3 w.heap.size (.int .i64 f) (.int .i64 e) (.slice sa sn sc) (.slice la ln lc) (.slice ta tn tc)) := h_XA
          have ZR_3 : Hid (X5 v3 (w.heap.size + 1) (.int .i64 0) (.int .i64 0) (.slice none 0 0) (.slice none 0 0) (.slice none 0 0)) := h_ZR
          have LL_3 : Hid (Own v3 (w.heap.size + 2) (.slice a7 ln c7) li) := h_LL
          have E8_3 : Hid (Own v3 v2.heap.size (.slice (some ⟨v2.heap.size, 0, none⟩) 0 0) []) := hN
          clear hb hN h_HB h_XA h_ZR h_LL HB_2 XA_2 ZR_2 LL_2
          refine wpAnyH_ready (rs := [11, 13]) (by kernel_rfl) (by simp) ?_
          refine AllReadyH.cons (o := _) rfl (fun K hK => ?cw9) (AllReadyH.cons (o := _) rfl (fun K hK => ?cw10) AllReadyH.nil)
          case cw9 =>
            rw [if_pos (by rfl)]
            obtain ⟨a11, c11, v4, r1, o1, hg, hw⟩ := appendI_at v3 (v2.heap.size) ls ta tn tc E8_3.out (HRT.out _ HB_3.out) HT.out HTZ.out (by omega) (by omega)
            have hzz : v3.heap.size ≤ v4.heap.size := hg.size
            have HB_4 : Hid (Below w.heap.size w v4) := Below.grown HB_3.out hg (by omega) (fun k e => by have := Option.some.inj e; omega)
            have XA_4 : Hid (X5 v4 w.heap.size (.int .i64 f) (.int .i64 e) (.slice sa sn sc) (.slice la ln lc) (.slice ta tn tc)) := XA_3.out.grown hg (fun e => by have := Option.some.inj e; omega)
            have ZR_4 : Hid (X5 v4 (w.heap.size + 1) (.int .i64 0) (.int .i64 0) (.slice none 0 0) (.slice none 0 0) (.slice none 0 0)) := ZR_3.out.grown hg (fun e => by have := Option.some.inj e; omega)
            have LL_4 : Hid (Own v4 (w.heap.size + 2) (.slice a7 ln c7) li) := LL_3.out.kept hg (sep_ne (fun k h => by have := I_LL.out k h; have := K_LL.out k h; omega))
            have TT_4 : Hid (Own v4 (w.heap.size + 2) (.slice a11 tn c11) ls) := o1.mono (by omega)
            have I_TT : Hid (∀ k, (Value.slice a11 tn c11).ownBlock = some k → k = v2.heap.size ∨ k = v3.heap.size) := hw
            have K_TT : Hid (∀ k, (Value.slice a11 tn c11).ownBlock = some k → k < v4.heap.size) := fun k h => (World.ownsRow.lt o1 k h).2
            refine Lib.wp_append_run _ _ _ _ _ rfl (.slice (some ⟨v2.heap.size, 0, none⟩) 0 0) (.slice ta tn tc) (by rfl) (by rfl) (.slice a11 tn c11) v4 (r1 _) ?_
            refine hK.out _ _ ?_ (fun hHeld => ?_)
            · exact XA_4.out.1
            clear hK K r1 o1 hg hw HB_3 XA_3 ZR_3 LL_3 E8_3
            try simp only [Act.put, List.setIfInBounds_toArray, List.set_cons_zero, List.set_cons_succ]
            refine takeV13 (i := 12) (oi := _) (v := ?_) (d := some 18) rfl (by kernel_rfl) (by kernel_rfl) (by kernel_rfl) (by kernel_rfl) (fun _ _ _ h => h) (Or.inl ⟨by rfl, ?_⟩) (by assumption) ?_
            rotate_left
            · (intro w hSw; (try dsimp only at hSw); go_simp <;> with_reducible rfl)
            try simp only [Act.put, List.setIfInBounds_toArray, List.set_cons_zero, List.set_cons_succ]
            refine wpAnyH_ready (rs := [13]) (by kernel_rfl) (by simp) ?_
            refine AllReadyH.cons (o := _) rfl (fun K hK => ?cw11) AllReadyH.nil
            case cw11 =>
              go_simp
              have hb : Below v4.heap.size v4 (v4.alloc (.cells #[.int .i64 0, .int .i64 0, .slice none 0 0, .slice none 0 0, .slice none 0 0] 29)) := balloc _ _
              have hN := x5_new v4 (.int .i64 0) (.int .i64 0) (.slice none 0 0) (.slice none 0 0) (.slice none 0 0) 29 v4.heap.size rfl
              have hzz : v4.heap.size + 1 ≤ (v4.alloc (.cells #[.int .i64 0, .int .i64 0, .slice none 0 0, .slice none 0 0, .slice none 0 0] 29)).heap.size := by simp
              have h_HB := HB_4.out.trans (hb.mono HB_4.out.size)
              have h_XA := XA_4.out.later hb
              have h_ZR := ZR_4.out.later hb
              have h_LL := LL_4.out.later hb
              have h_TT := TT_4.out.later hb
              refine hK.out _ _ ?_ (fun hHeld => ?_)
              · exact h_XA.1
              clear hK K
              try simp only [Act.put, List.setIfInBounds_toArray, List.set_cons_zero, List.set_cons_succ]
              generalize (v4.alloc (.cells #[.int .i64 0, .int .i64 0, .slice none 0 0, .slice none 0 0, .slice none 0 0] 29)) = v5 at hb hN hHeld hzz h_HB h_XA h_ZR h_LL h_TT ⊢
              have HB_5 : Hid (Below w.heap.size w v5) := h_HB
              have XA_5 : Hid (X5 v5 w.heap.size (.int .i64 f) (.int .i64 e) (.slice sa sn sc) (.slice la ln lc) (.slice ta tn tc)) := h_XA
              have ZR_5 : Hid (X5 v5 (w.heap.size + 1) (.int .i64 0) (.int .i64 0) (.slice none 0 0) (.slice none 0 0) (.slice none 0 0)) := h_ZR
              have LL_5 : Hid (Own v5 (w.heap.size + 2) (.slice a7 ln c7) li) := h_LL
              have TT_5 : Hid (Own v5 (w.heap.size + 2) (.slice a11 tn c11) ls) := h_TT
              have XX_5 : Hid (X5 v5 v4.heap.size (.int .i64 0) (.int .i64 0) (.slice none 0 0) (.slice none 0 0) (.slice none 0 0)) := hN
              clear hb hN h_HB h_XA h_ZR h_LL h_TT HB_4 XA_4 ZR_4 LL_4 TT_4
              refine wpAnyH_ready (rs := [14]) (by kernel_rfl) (by simp) ?_
              refine AllReadyH.cons (o := _) rfl (fun K hK => ?_) AllReadyH.nil
              obtain ⟨V, hVV⟩ : ∃ V, (((((v5.setCell ⟨v4.heap.size, 0, none⟩ (.int .i64 f)).setCell ⟨v4.heap.size, 1, none⟩ (.int .i64 e)).setCell ⟨v4.heap.size, 2, none⟩ (.slice none 0 0)).setCell ⟨v4.heap.size, 3, none⟩ (.slice a7 ln c7)).setCell ⟨v4.heap.size, 4, none⟩ (.slice a11 tn c11)) = V := ⟨_, rfl⟩
              have hHC := ownCut_of w v5 V (v4.heap.size) f e sa sn sc la ln lc ta tn tc li ls a7 c7 a11 c11 hVV XX_5.out XA_5.out ZR_5.out LL_5.out TT_5.out HB_5.out (fun k h k2 h2 => by have := I_LL.out k h; have := I_TT.out k2 h2; have := K_LL.out k h; have := K_TT.out k2 h2; omega) (fun k h => by have := I_LL.out k h; have := K_LL.out k h; omega) (fun k h => by have := I_TT.out k h; have := K_TT.out k h; omega) (by omega)
              obtain ⟨⟨u0, u1, u2, u3, u4⟩, uf⟩ := XX_5.out
              have uf0 := uf 0
              have uf1 := uf 1
              have uf2 := uf 2
              have uf3 := uf 3
              have uf4 := uf 4
              have HXF : Hid (X5 V w.heap.size (.int .i64 f) (.int .i64 e) (.slice sa sn sc) (.slice la ln lc) (.slice ta tn tc)) := hHC.1
              have HCT := hHC.2 (.pointer (some ⟨v4.heap.size, 0, none⟩)) rfl
              clear hHC uf
              go_simp
              refine hK.out _ _ ?_ (fun hHeld => ?_)
              · exact HXF.out.1
              clear hK K
              try simp only [Act.put, List.setIfInBounds_toArray, List.set_cons_zero, List.set_cons_succ]
              refine wpAnyH_done (by kernel_rfl) ?_ _
              clear hHeld
              go_wp2_with fail
              go_meet
              exact HCT.out
          case cw10 =>
            go_simp
            have hb : Below v3.heap.size v3 (v3.alloc (.cells #[.int .i64 0, .int .i64 0, .slice none 0 0, .slice none 0 0, .slice none 0 0] 29)) := balloc _ _
            have hN := x5_new v3 (.int .i64 0) (.int .i64 0) (.slice none 0 0) (.slice none 0 0) (.slice none 0 0) 29 v3.heap.size rfl
            have hzz : v3.heap.size + 1 ≤ (v3.alloc (.cells #[.int .i64 0, .int .i64 0, .slice none 0 0, .slice none 0 0, .slice none 0 0] 29)).heap.size := by simp
            have h_HB := HB_3.out.trans (hb.mono HB_3.out.size)
            have h_XA := XA_3.out.later hb
            have h_ZR := ZR_3.out.later hb
            have h_LL := LL_3.out.later hb
            have h_E8 := E8_3.out.later hb
            refine hK.out _ _ ?_ (fun hHeld => ?_)
            · exact h_XA.1
            clear hK K
            try simp only [Act.put, List.setIfInBounds_toArray, List.set_cons_zero, List.set_cons_succ]
            generalize (v3.alloc (.cells #[.int .i64 0, .int .i64 0, .slice none 0 0, .slice none 0 0, .slice none 0 0] 29)) = v4 at hb hN hHeld hzz h_HB h_XA h_ZR h_LL h_E8 ⊢
            have HB_4 : Hid (Below w.heap.size w v4) := h_HB
            have XA_4 : Hid (X5 v4 w.heap.size (.int .i64 f) (.int .i64 e) (.slice sa sn sc) (.slice la ln lc) (.slice ta tn tc)) := h_XA
            have ZR_4 : Hid (X5 v4 (w.heap.size + 1) (.int .i64 0) (.int .i64 0) (.slice none 0 0) (.slice none 0 0) (.slice none 0 0)) := h_ZR
            have LL_4 : Hid (Own v4 (w.heap.size + 2) (.slice a7 ln c7) li) := h_LL
            have E8_4 : Hid (Own v4 v2.heap.size (.slice (some ⟨v2.heap.size, 0, none⟩) 0 0) []) := h_E8
            have XX_4 : Hid (X5 v4 v3.heap.size (.int .i64 0) (.int .i64 0) (.slice none 0 0) (.slice none 0 0) (.slice none 0 0)) := hN
            clear hb hN h_HB h_XA h_ZR h_LL h_E8 HB_3 XA_3 ZR_3 LL_3 E8_3
            refine wpAnyH_ready (rs := [11]) (by kernel_rfl) (by simp) ?_
            refine AllReadyH.cons (o := _) rfl (fun K hK => ?cw12) AllReadyH.nil
            case cw12 =>
              rw [if_pos (by rfl)]
              obtain ⟨a11, c11, v5, r1, o1, hg, hw⟩ := appendI_at v4 (v2.heap.size) ls ta tn tc E8_4.out (HRT.out _ HB_4.out) HT.out HTZ.out (by omega) (by omega)
              have hzz : v4.heap.size ≤ v5.heap.size := hg.size
              have HB_5 : Hid (Below w.heap.size w v5) := Below.grown HB_4.out hg (by omega) (fun k e => by have := Option.some.inj e; omega)
              have XA_5 : Hid (X5 v5 w.heap.size (.int .i64 f) (.int .i64 e) (.slice sa sn sc) (.slice la ln lc) (.slice ta tn tc)) := XA_4.out.grown hg (fun e => by have := Option.some.inj e; omega)
              have ZR_5 : Hid (X5 v5 (w.heap.size + 1) (.int .i64 0) (.int .i64 0) (.slice none 0 0) (.slice none 0 0) (.slice none 0 0)) := ZR_4.out.grown hg (fun e => by have := Option.some.inj e; omega)
              have LL_5 : Hid (Own v5 (w.heap.size + 2) (.slice a7 ln c7) li) := LL_4.out.kept hg (sep_ne (fun k h => by have := I_LL.out k h; have := K_LL.out k h; omega))
              have XX_5 : Hid (X5 v5 v3.heap.size (.int .i64 0) (.int .i64 0) (.slice none 0 0) (.slice none 0 0) (.slice none 0 0)) := XX_4.out.grown hg (fun e => by have := Option.some.inj e; omega)
              have TT_5 : Hid (Own v5 (w.heap.size + 2) (.slice a11 tn c11) ls) := o1.mono (by omega)
              have I_TT : Hid (∀ k, (Value.slice a11 tn c11).ownBlock = some k → k = v2.heap.size ∨ k = v4.heap.size) := hw
              have K_TT : Hid (∀ k, (Value.slice a11 tn c11).ownBlock = some k → k < v5.heap.size) := fun k h => (World.ownsRow.lt o1 k h).2
              refine Lib.wp_append_run _ _ _ _ _ rfl (.slice (some ⟨v2.heap.size, 0, none⟩) 0 0) (.slice ta tn tc) (by rfl) (by rfl) (.slice a11 tn c11) v5 (r1 _) ?_
              refine hK.out _ _ ?_ (fun hHeld => ?_)
              · exact XA_5.out.1
              clear hK K r1 o1 hg hw HB_4 XA_4 ZR_4 LL_4 E8_4 XX_4
              try simp only [Act.put, List.setIfInBounds_toArray, List.set_cons_zero, List.set_cons_succ]
              refine takeV13 (i := 12) (oi := _) (v := ?_) (d := some 18) rfl (by kernel_rfl) (by kernel_rfl) (by kernel_rfl) (by kernel_rfl) (fun _ _ _ h => h) (Or.inl ⟨by rfl, ?_⟩) (by assumption) ?_
              rotate_left
              · (intro w hSw; (try dsimp only at hSw); go_simp <;> with_reducible rfl)
              try simp only [Act.put, List.setIfInBounds_toArray, List.set_cons_zero, List.set_cons_succ]
              refine wpAnyH_ready (rs := [14]) (by kernel_rfl) (by simp) ?_
              refine AllReadyH.cons (o := _) rfl (fun K hK => ?_) AllReadyH.nil
              obtain ⟨V, hVV⟩ : ∃ V, (((((v5.setCell ⟨v3.heap.size, 0, none⟩ (.int .i64 f)).setCell ⟨v3.heap.size, 1, none⟩ (.int .i64 e)).setCell ⟨v3.heap.size, 2, none⟩ (.slice none 0 0)).setCell ⟨v3.heap.size, 3, none⟩ (.slice a7 ln c7)).setCell ⟨v3.heap.size, 4, none⟩ (.slice a11 tn c11)) = V := ⟨_, rfl⟩
              have hHC := ownCut_of w v5 V (v3.heap.size) f e sa sn sc la ln lc ta tn tc li ls a7 c7 a11 c11 hVV XX_5.out XA_5.out ZR_5.out LL_5.out TT_5.out HB_5.out (fun k h k2 h2 => by have := I_LL.out k h; have := I_TT.out k2 h2; have := K_LL.out k h; have := K_TT.out k2 h2; omega) (fun k h => by have := I_LL.out k h; have := K_LL.out k h; omega) (fun k h => by have := I_TT.out k h; have := K_TT.out k h; omega) (by omega)
              obtain ⟨⟨u0, u1, u2, u3, u4⟩, uf⟩ := XX_5.out
              have uf0 := uf 0
              have uf1 := uf 1
              have uf2 := uf 2
              have uf3 := uf 3
              have uf4 := uf 4
              have HXF : Hid (X5 V w.heap.size (.int .i64 f) (.int .i64 e) (.slice sa sn sc) (.slice la ln lc) (.slice ta tn tc)) := hHC.1
              have HCT := hHC.2 (.pointer (some ⟨v3.heap.size, 0, none⟩)) rfl
              clear hHC uf
              go_simp
              refine hK.out _ _ ?_ (fun hHeld => ?_)
              · exact HXF.out.1
              clear hK K
              try simp only [Act.put, List.setIfInBounds_toArray, List.set_cons_zero, List.set_cons_succ]
              refine wpAnyH_done (by kernel_rfl) ?_ _
              clear hHeld
              go_wp2_with fail
              go_meet
              exact HCT.out
        case cw8 =>
          go_simp
          have hb : Below v2.heap.size v2 (v2.alloc (.cells #[.int .i64 0, .int .i64 0, .slice none 0 0, .slice none 0 0, .slice none 0 0] 29)) := balloc _ _
          have hN := x5_new v2 (.int .i64 0) (.int .i64 0) (.slice none 0 0) (.slice none 0 0) (.slice none 0 0) 29 v2.heap.size rfl
          have hzz : v2.heap.size + 1 ≤ (v2.alloc (.cells #[.int .i64 0, .int .i64 0, .slice none 0 0, .slice none 0 0, .slice none 0 0] 29)).heap.size := by simp
          have h_HB := HB_2.out.trans (hb.mono HB_2.out.size)
          have h_XA := XA_2.out.later hb
          have h_ZR := ZR_2.out.later hb
          have h_LL := LL_2.out.later hb
          refine hK.out _ _ ?_ (fun hHeld => ?_)
          · exact h_XA.1
          clear hK K
          try simp only [Act.put, List.setIfInBounds_toArray, List.set_cons_zero, List.set_cons_succ]
          generalize (v2.alloc (.cells #[.int .i64 0, .int .i64 0, .slice none 0 0, .slice none 0 0, .slice none 0 0] 29)) = v3 at hb hN hHeld hzz h_HB h_XA h_ZR h_LL ⊢
          have HB_3 : Hid (Below w.heap.size w v3) := h_HB
          have XA_3 : Hid (X5 v3 w.heap.size (.int .i64 f) (.int .i64 e) (.slice sa sn sc) (.slice la ln lc) (.slice ta tn tc)) := h_XA
          have ZR_3 : Hid (X5 v3 (w.heap.size + 1) (.int .i64 0) (.int .i64 0) (.slice none 0 0) (.slice none 0 0) (.slice none 0 0)) := h_ZR
          have LL_3 : Hid (Own v3 (w.heap.size + 2) (.slice a7 ln c7) li) := h_LL
          have XX_3 : Hid (X5 v3 v2.heap.size (.int .i64 0) (.int .i64 0) (.slice none 0 0) (.slice none 0 0) (.slice none 0 0)) := hN
          clear hb hN h_HB h_XA h_ZR h_LL HB_2 XA_2 ZR_2 LL_2
          refine wpAnyH_ready (rs := [8]) (by kernel_rfl) (by simp) ?_
          refine AllReadyH.cons (o := _) rfl (fun K hK => ?cw13) AllReadyH.nil
          case cw13 =>
            go_simp
            have hb : Below v3.heap.size v3 (v3.alloc (.cells #[] 3)) := balloc _ _
            have hN := emptyI v3
            have hzz : v3.heap.size + 1 ≤ (v3.alloc (.cells #[] 3)).heap.size := by simp
            have h_HB := HB_3.out.trans (hb.mono HB_3.out.size)
            have h_XA := XA_3.out.later hb
            have h_ZR := ZR_3.out.later hb
            have h_LL := LL_3.out.later hb
            have h_XX := XX_3.out.later hb
            refine hK.out _ _ ?_ (fun hHeld => ?_)
            · exact h_XA.1
            clear hK K
            try simp only [Act.put, List.setIfInBounds_toArray, List.set_cons_zero, List.set_cons_succ]
            generalize (v3.alloc (.cells #[] 3)) = v4 at hb hN hHeld hzz h_HB h_XA h_ZR h_LL h_XX ⊢
            have HB_4 : Hid (Below w.heap.size w v4) := h_HB
            have XA_4 : Hid (X5 v4 w.heap.size (.int .i64 f) (.int .i64 e) (.slice sa sn sc) (.slice la ln lc) (.slice ta tn tc)) := h_XA
            have ZR_4 : Hid (X5 v4 (w.heap.size + 1) (.int .i64 0) (.int .i64 0) (.slice none 0 0) (.slice none 0 0) (.slice none 0 0)) := h_ZR
            have LL_4 : Hid (Own v4 (w.heap.size + 2) (.slice a7 ln c7) li) := h_LL
            have XX_4 : Hid (X5 v4 v2.heap.size (.int .i64 0) (.int .i64 0) (.slice none 0 0) (.slice none 0 0) (.slice none 0 0)) := h_XX
            have E8_4 : Hid (Own v4 v3.heap.size (.slice (some ⟨v3.heap.size, 0, none⟩) 0 0) []) := hN
            clear hb hN h_HB h_XA h_ZR h_LL h_XX HB_3 XA_3 ZR_3 LL_3 XX_3
            refine wpAnyH_ready (rs := [11]) (by kernel_rfl) (by simp) ?_
            refine AllReadyH.cons (o := _) rfl (fun K hK => ?cw14) AllReadyH.nil
            case cw14 =>
              rw [if_pos (by rfl)]
              obtain ⟨a11, c11, v5, r1, o1, hg, hw⟩ := appendI_at v4 (v3.heap.size) ls ta tn tc E8_4.out (HRT.out _ HB_4.out) HT.out HTZ.out (by omega) (by omega)
              have hzz : v4.heap.size ≤ v5.heap.size := hg.size
              have HB_5 : Hid (Below w.heap.size w v5) := Below.grown HB_4.out hg (by omega) (fun k e => by have := Option.some.inj e; omega)
              have XA_5 : Hid (X5 v5 w.heap.size (.int .i64 f) (.int .i64 e) (.slice sa sn sc) (.slice la ln lc) (.slice ta tn tc)) := XA_4.out.grown hg (fun e => by have := Option.some.inj e; omega)
              have ZR_5 : Hid (X5 v5 (w.heap.size + 1) (.int .i64 0) (.int .i64 0) (.slice none 0 0) (.slice none 0 0) (.slice none 0 0)) := ZR_4.out.grown hg (fun e => by have := Option.some.inj e; omega)
              have LL_5 : Hid (Own v5 (w.heap.size + 2) (.slice a7 ln c7) li) := LL_4.out.kept hg (sep_ne (fun k h => by have := I_LL.out k h; have := K_LL.out k h; omega))
              have XX_5 : Hid (X5 v5 v2.heap.size (.int .i64 0) (.int .i64 0) (.slice none 0 0) (.slice none 0 0) (.slice none 0 0)) := XX_4.out.grown hg (fun e => by have := Option.some.inj e; omega)
              have TT_5 : Hid (Own v5 (w.heap.size + 2) (.slice a11 tn c11) ls) := o1.mono (by omega)
              have I_TT : Hid (∀ k, (Value.slice a11 tn c11).ownBlock = some k → k = v3.heap.size ∨ k = v4.heap.size) := hw
              have K_TT : Hid (∀ k, (Value.slice a11 tn c11).ownBlock = some k → k < v5.heap.size) := fun k h => (World.ownsRow.lt o1 k h).2
              refine Lib.wp_append_run _ _ _ _ _ rfl (.slice (some ⟨v3.heap.size, 0, none⟩) 0 0) (.slice ta tn tc) (by rfl) (by rfl) (.slice a11 tn c11) v5 (r1 _) ?_
              refine hK.out _ _ ?_ (fun hHeld => ?_)
              · exact XA_5.out.1
              clear hK K r1 o1 hg hw HB_4 XA_4 ZR_4 LL_4 XX_4 E8_4
              try simp only [Act.put, List.setIfInBounds_toArray, List.set_cons_zero, List.set_cons_succ]
              refine takeV13 (i := 12) (oi := _) (v := ?_) (d := some 18) rfl (by kernel_rfl) (by kernel_rfl) (by kernel_rfl) (by kernel_rfl) (fun _ _ _ h => h) (Or.inl ⟨by rfl, ?_⟩) (by assumption) ?_
              rotate_left
              · (intro w hSw; (try dsimp only at hSw); go_simp <;> with_reducible rfl)
              try simp only [Act.put, List.setIfInBounds_toArray, List.set_cons_zero, List.set_cons_succ]
              refine wpAnyH_ready (rs := [14]) (by kernel_rfl) (by simp) ?_
              refine AllReadyH.cons (o := _) rfl (fun K hK => ?_) AllReadyH.nil
              obtain ⟨V, hVV⟩ : ∃ V, (((((v5.setCell ⟨v2.heap.size, 0, none⟩ (.int .i64 f)).setCell ⟨v2.heap.size, 1, none⟩ (.int .i64 e)).setCell ⟨v2.heap.size, 2, none⟩ (.slice none 0 0)).setCell ⟨v2.heap.size, 3, none⟩ (.slice a7 ln c7)).setCell ⟨v2.heap.size, 4, none⟩ (.slice a11 tn c11)) = V := ⟨_, rfl⟩
              have hHC := ownCut_of w v5 V (v2.heap.size) f e sa sn sc la ln lc ta tn tc li ls a7 c7 a11 c11 hVV XX_5.out XA_5.out ZR_5.out LL_5.out TT_5.out HB_5.out (fun k h k2 h2 => by have := I_LL.out k h; have := I_TT.out k2 h2; have := K_LL.out k h; have := K_TT.out k2 h2; omega) (fun k h => by have := I_LL.out k h; have := K_LL.out k h; omega) (fun k h => by have := I_TT.out k h; have := K_TT.out k h; omega) (by omega)
              obtain ⟨⟨u0, u1, u2, u3, u4⟩, uf⟩ := XX_5.out
              have uf0 := uf 0
              have uf1 := uf 1
              have uf2 := uf 2
              have uf3 := uf 3
              have uf4 := uf 4
              have HXF : Hid (X5 V w.heap.size (.int .i64 f) (.int .i64 e) (.slice sa sn sc) (.slice la ln lc) (.slice ta tn tc)) := hHC.1
              have HCT := hHC.2 (.pointer (some ⟨v2.heap.size, 0, none⟩)) rfl
              clear hHC uf
              go_simp
              refine hK.out _ _ ?_ (fun hHeld => ?_)
              · exact HXF.out.1
              clear hK K
              try simp only [Act.put, List.setIfInBounds_toArray, List.set_cons_zero, List.set_cons_succ]
              refine wpAnyH_done (by kernel_rfl) ?_ _
              clear hHeld
              go_wp2_with fail
              go_meet
              exact HCT.out
      case cw5 =>
        go_simp
        have hb : Below v1.heap.size v1 (v1.alloc (.cells #[] 3)) := balloc _ _
        have hN := emptyI v1
        have hzz : v1.heap.size + 1 ≤ (v1.alloc (.cells #[] 3)).heap.size := by simp
        have h_HB := HB_1.out.trans (hb.mono HB_1.out.size)
        have h_XA := XA_1.out.later hb
        have h_ZR := ZR_1.out.later hb
        have h_E4 := E4_1.out.later hb
        refine hK.out _ _ ?_ (fun hHeld => ?_)
        · exact h_XA.1
        clear hK K
        try simp only [Act.put, List.setIfInBounds_toArray, List.set_cons_zero, List.set_cons_succ]
        generalize (v1.alloc (.cells #[] 3)) = v2 at hb hN hHeld hzz h_HB h_XA h_ZR h_E4 ⊢
        have HB_2 : Hid (Below w.heap.size w v2) := h_HB
        have XA_2 : Hid (X5 v2 w.heap.size (.int .i64 f) (.int .i64 e) (.slice sa sn sc) (.slice la ln lc) (.slice ta tn tc)) := h_XA
        have ZR_2 : Hid (X5 v2 (w.heap.size + 1) (.int .i64 0) (.int .i64 0) (.slice none 0 0) (.slice none 0 0) (.slice none 0 0)) := h_ZR
        have E4_2 : Hid (Own v2 v0.heap.size (.slice (some ⟨v0.heap.size, 0, none⟩) 0 0) []) := h_E4
        have E8_2 : Hid (Own v2 v1.heap.size (.slice (some ⟨v1.heap.size, 0, none⟩) 0 0) []) := hN
        clear hb hN h_HB h_XA h_ZR h_E4 HB_1 XA_1 ZR_1 E4_1
        refine wpAnyH_ready (rs := [7, 13]) (by kernel_rfl) (by simp) ?_
        refine AllReadyH.cons (o := _) rfl (fun K hK => ?cw15) (AllReadyH.cons (o := _) rfl (fun K hK => ?cw16) AllReadyH.nil)
        case cw15 =>
          rw [if_pos (by rfl)]
          obtain ⟨a7, c7, v3, r1, o1, hg, hw⟩ := appendI_at v2 (v0.heap.size) li la ln lc E4_2.out (HRL.out _ HB_2.out) HL.out HLZ.out (by omega) (by omega)
          have hzz : v2.heap.size ≤ v3.heap.size := hg.size
          have HB_3 : Hid (Below w.heap.size w v3) := Below.grown HB_2.out hg (by omega) (fun k e => by have := Option.some.inj e; omega)
          have XA_3 : Hid (X5 v3 w.heap.size (.int .i64 f) (.int .i64 e) (.slice sa sn sc) (.slice la ln lc) (.slice ta tn tc)) := XA_2.out.grown hg (fun e => by have := Option.some.inj e; omega)
          have ZR_3 : Hid (X5 v3 (w.heap.size + 1) (.int .i64 0) (.int .i64 0) (.slice none 0 0) (.slice none 0 0) (.slice none 0 0)) := ZR_2.out.grown hg (fun e => by have := Option.some.inj e; omega)
          have E8_3 : Hid (Own v3 v1.heap.size (.slice (some ⟨v1.heap.size, 0, none⟩) 0 0) []) := E8_2.out.kept hg (sep_ne (fun k h => by simp only [Value.ownBlock, Option.some.injEq] at h; omega))
          have LL_3 : Hid (Own v3 (w.heap.size + 2) (.slice a7 ln c7) li) := o1.mono (by omega)
          have I_LL : Hid (∀ k, (Value.slice a7 ln c7).ownBlock = some k → k = v0.heap.size ∨ k = v2.heap.size) := hw
          have K_LL : Hid (∀ k, (Value.slice a7 ln c7).ownBlock = some k → k < v3.heap.size) := fun k h => (World.ownsRow.lt o1 k h).2
          refine Lib.wp_append_run _ _ _ _ _ rfl (.slice (some ⟨v0.heap.size, 0, none⟩) 0 0) (.slice la ln lc) (by rfl) (by rfl) (.slice a7 ln c7) v3 (r1 _) ?_
          refine hK.out _ _ ?_ (fun hHeld => ?_)
          · exact XA_3.out.1
          clear hK K r1 o1 hg hw HB_2 XA_2 ZR_2 E4_2 E8_2
          try simp only [Act.put, List.setIfInBounds_toArray, List.set_cons_zero, List.set_cons_succ]
          refine wpAnyH_ready (rs := [11, 13]) (by kernel_rfl) (by simp) ?_
          refine AllReadyH.cons (o := _) rfl (fun K hK => ?cw17) (AllReadyH.cons (o := _) rfl (fun K hK => ?cw18) AllReadyH.nil)
          case cw17 =>
            rw [if_pos (by rfl)]
            obtain ⟨a11, c11, v4, r1, o1, hg, hw⟩ := appendI_at v3 (v1.heap.size) ls ta tn tc E8_3.out (HRT.out _ HB_3.out) HT.out HTZ.out (by omega) (by omega)
            have hzz : v3.heap.size ≤ v4.heap.size := hg.size
            have HB_4 : Hid (Below w.heap.size w v4) := Below.grown HB_3.out hg (by omega) (fun k e => by have := Option.some.inj e; omega)
            have XA_4 : Hid (X5 v4 w.heap.size (.int .i64 f) (.int .i64 e) (.slice sa sn sc) (.slice la ln lc) (.slice ta tn tc)) := XA_3.out.grown hg (fun e => by have := Option.some.inj e; omega)
            have ZR_4 : Hid (X5 v4 (w.heap.size + 1) (.int .i64 0) (.int .i64 0) (.slice none 0 0) (.slice none 0 0) (.slice none 0 0)) := ZR_3.out.grown hg (fun e => by have := Option.some.inj e; omega)
            have LL_4 : Hid (Own v4 (w.heap.size + 2) (.slice a7 ln c7) li) := LL_3.out.kept hg (sep_ne (fun k h => by have := I_LL.out k h; have := K_LL.out k h; omega))
            have TT_4 : Hid (Own v4 (w.heap.size + 2) (.slice a11 tn c11) ls) := o1.mono (by omega)
            have I_TT : Hid (∀ k, (Value.slice a11 tn c11).ownBlock = some k → k = v1.heap.size ∨ k = v3.heap.size) := hw
            have K_TT : Hid (∀ k, (Value.slice a11 tn c11).ownBlock = some k → k < v4.heap.size) := fun k h => (World.ownsRow.lt o1 k h).2
            refine Lib.wp_append_run _ _ _ _ _ rfl (.slice (some ⟨v1.heap.size, 0, none⟩) 0 0) (.slice ta tn tc) (by rfl) (by rfl) (.slice a11 tn c11) v4 (r1 _) ?_
            refine hK.out _ _ ?_ (fun hHeld => ?_)
            · exact XA_4.out.1
            clear hK K r1 o1 hg hw HB_3 XA_3 ZR_3 E8_3 LL_3
            try simp only [Act.put, List.setIfInBounds_toArray, List.set_cons_zero, List.set_cons_succ]
            refine takeV13 (i := 12) (oi := _) (v := ?_) (d := some 18) rfl (by kernel_rfl) (by kernel_rfl) (by kernel_rfl) (by kernel_rfl) (fun _ _ _ h => h) (Or.inl ⟨by rfl, ?_⟩) (by assumption) ?_
            rotate_left
            · (intro w hSw; (try dsimp only at hSw); go_simp <;> with_reducible rfl)
            try simp only [Act.put, List.setIfInBounds_toArray, List.set_cons_zero, List.set_cons_succ]
            refine wpAnyH_ready (rs := [13]) (by kernel_rfl) (by simp) ?_
            refine AllReadyH.cons (o := _) rfl (fun K hK => ?cw19) AllReadyH.nil
            case cw19 =>
              go_simp
              have hb : Below v4.heap.size v4 (v4.alloc (.cells #[.int .i64 0, .int .i64 0, .slice none 0 0, .slice none 0 0, .slice none 0 0] 29)) := balloc _ _
              have hN := x5_new v4 (.int .i64 0) (.int .i64 0) (.slice none 0 0) (.slice none 0 0) (.slice none 0 0) 29 v4.heap.size rfl
              have hzz : v4.heap.size + 1 ≤ (v4.alloc (.cells #[.int .i64 0, .int .i64 0, .slice none 0 0, .slice none 0 0, .slice none 0 0] 29)).heap.size := by simp
              have h_HB := HB_4.out.trans (hb.mono HB_4.out.size)
              have h_XA := XA_4.out.later hb
              have h_ZR := ZR_4.out.later hb
              have h_LL := LL_4.out.later hb
              have h_TT := TT_4.out.later hb
              refine hK.out _ _ ?_ (fun hHeld => ?_)
              · exact h_XA.1
              clear hK K
              try simp only [Act.put, List.setIfInBounds_toArray, List.set_cons_zero, List.set_cons_succ]
              generalize (v4.alloc (.cells #[.int .i64 0, .int .i64 0, .slice none 0 0, .slice none 0 0, .slice none 0 0] 29)) = v5 at hb hN hHeld hzz h_HB h_XA h_ZR h_LL h_TT ⊢
              have HB_5 : Hid (Below w.heap.size w v5) := h_HB
              have XA_5 : Hid (X5 v5 w.heap.size (.int .i64 f) (.int .i64 e) (.slice sa sn sc) (.slice la ln lc) (.slice ta tn tc)) := h_XA
              have ZR_5 : Hid (X5 v5 (w.heap.size + 1) (.int .i64 0) (.int .i64 0) (.slice none 0 0) (.slice none 0 0) (.slice none 0 0)) := h_ZR
              have LL_5 : Hid (Own v5 (w.heap.size + 2) (.slice a7 ln c7) li) := h_LL
              have TT_5 : Hid (Own v5 (w.heap.size + 2) (.slice a11 tn c11) ls) := h_TT
              have XX_5 : Hid (X5 v5 v4.heap.size (.int .i64 0) (.int .i64 0) (.slice none 0 0) (.slice none 0 0) (.slice none 0 0)) := hN
              clear hb hN h_HB h_XA h_ZR h_LL h_TT HB_4 XA_4 ZR_4 LL_4 TT_4
              refine wpAnyH_ready (rs := [14]) (by kernel_rfl) (by simp) ?_
              refine AllReadyH.cons (o := _) rfl (fun K hK => ?_) AllReadyH.nil
              obtain ⟨V, hVV⟩ : ∃ V, (((((v5.setCell ⟨v4.heap.size, 0, none⟩ (.int .i64 f)).setCell ⟨v4.heap.size, 1, none⟩ (.int .i64 e)).setCell ⟨v4.heap.size, 2, none⟩ (.slice none 0 0)).setCell ⟨v4.heap.size, 3, none⟩ (.slice a7 ln c7)).setCell ⟨v4.heap.size, 4, none⟩ (.slice a11 tn c11)) = V := ⟨_, rfl⟩
              have hHC := ownCut_of w v5 V (v4.heap.size) f e sa sn sc la ln lc ta tn tc li ls a7 c7 a11 c11 hVV XX_5.out XA_5.out ZR_5.out LL_5.out TT_5.out HB_5.out (fun k h k2 h2 => by have := I_LL.out k h; have := I_TT.out k2 h2; have := K_LL.out k h; have := K_TT.out k2 h2; omega) (fun k h => by have := I_LL.out k h; have := K_LL.out k h; omega) (fun k h => by have := I_TT.out k h; have := K_TT.out k h; omega) (by omega)
              obtain ⟨⟨u0, u1, u2, u3, u4⟩, uf⟩ := XX_5.out
              have uf0 := uf 0
              have uf1 := uf 1
              have uf2 := uf 2
              have uf3 := uf 3
              have uf4 := uf 4
              have HXF : Hid (X5 V w.heap.size (.int .i64 f) (.int .i64 e) (.slice sa sn sc) (.slice la ln lc) (.slice ta tn tc)) := hHC.1
              have HCT := hHC.2 (.pointer (some ⟨v4.heap.size, 0, none⟩)) rfl
              clear hHC uf
              go_simp
              refine hK.out _ _ ?_ (fun hHeld => ?_)
              · exact HXF.out.1
              clear hK K
              try simp only [Act.put, List.setIfInBounds_toArray, List.set_cons_zero, List.set_cons_succ]
              refine wpAnyH_done (by kernel_rfl) ?_ _
              clear hHeld
              go_wp2_with fail
              go_meet
              exact HCT.out
          case cw18 =>
            go_simp
            have hb : Below v3.heap.size v3 (v3.alloc (.cells #[.int .i64 0, .int .i64 0, .slice none 0 0, .slice none 0 0, .slice none 0 0] 29)) := balloc _ _
            have hN := x5_new v3 (.int .i64 0) (.int .i64 0) (.slice none 0 0) (.slice none 0 0) (.slice none 0 0) 29 v3.heap.size rfl
            have hzz : v3.heap.size + 1 ≤ (v3.alloc (.cells #[.int .i64 0, .int .i64 0, .slice none 0 0, .slice none 0 0, .slice none 0 0] 29)).heap.size := by simp
            have h_HB := HB_3.out.trans (hb.mono HB_3.out.size)
            have h_XA := XA_3.out.later hb
            have h_ZR := ZR_3.out.later hb
            have h_E8 := E8_3.out.later hb
            have h_LL := LL_3.out.later hb
            refine hK.out _ _ ?_ (fun hHeld => ?_)
            · exact h_XA.1
            clear hK K
            try simp only [Act.put, List.setIfInBounds_toArray, List.set_cons_zero, List.set_cons_succ]
            generalize (v3.alloc (.cells #[.int .i64 0, .int .i64 0, .slice none 0 0, .slice none 0 0, .slice none 0 0] 29)) = v4 at hb hN hHeld hzz h_HB h_XA h_ZR h_E8 h_LL ⊢
            have HB_4 : Hid (Below w.heap.size w v4) := h_HB
            have XA_4 : Hid (X5 v4 w.heap.size (.int .i64 f) (.int .i64 e) (.slice sa sn sc) (.slice la ln lc) (.slice ta tn tc)) := h_XA
            have ZR_4 : Hid (X5 v4 (w.heap.size + 1) (.int .i64 0) (.int .i64 0) (.slice none 0 0) (.slice none 0 0) (.slice none 0 0)) := h_ZR
            have E8_4 : Hid (Own v4 v1.heap.size (.slice (some ⟨v1.heap.size, 0, none⟩) 0 0) []) := h_E8
            have LL_4 : Hid (Own v4 (w.heap.size + 2) (.slice a7 ln c7) li) := h_LL
            have XX_4 : Hid (X5 v4 v3.heap.size (.int .i64 0) (.int .i64 0) (.slice none 0 0) (.slice none 0 0) (.slice none 0 0)) := hN
            clear hb hN h_HB h_XA h_ZR h_E8 h_LL HB_3 XA_3 ZR_3 E8_3 LL_3
            refine wpAnyH_ready (rs := [11]) (by kernel_rfl) (by simp) ?_
            refine AllReadyH.cons (o := _) rfl (fun K hK => ?cw20) AllReadyH.nil
            case cw20 =>
              rw [if_pos (by rfl)]
              obtain ⟨a11, c11, v5, r1, o1, hg, hw⟩ := appendI_at v4 (v1.heap.size) ls ta tn tc E8_4.out (HRT.out _ HB_4.out) HT.out HTZ.out (by omega) (by omega)
              have hzz : v4.heap.size ≤ v5.heap.size := hg.size
              have HB_5 : Hid (Below w.heap.size w v5) := Below.grown HB_4.out hg (by omega) (fun k e => by have := Option.some.inj e; omega)
              have XA_5 : Hid (X5 v5 w.heap.size (.int .i64 f) (.int .i64 e) (.slice sa sn sc) (.slice la ln lc) (.slice ta tn tc)) := XA_4.out.grown hg (fun e => by have := Option.some.inj e; omega)
              have ZR_5 : Hid (X5 v5 (w.heap.size + 1) (.int .i64 0) (.int .i64 0) (.slice none 0 0) (.slice none 0 0) (.slice none 0 0)) := ZR_4.out.grown hg (fun e => by have := Option.some.inj e; omega)
              have LL_5 : Hid (Own v5 (w.heap.size + 2) (.slice a7 ln c7) li) := LL_4.out.kept hg (sep_ne (fun k h => by have := I_LL.out k h; have := K_LL.out k h; omega))
              have XX_5 : Hid (X5 v5 v3.heap.size (.int .i64 0) (.int .i64 0) (.slice none 0 0) (.slice none 0 0) (.slice none 0 0)) := XX_4.out.grown hg (fun e => by have := Option.some.inj e; omega)
              have TT_5 : Hid (Own v5 (w.heap.size + 2) (.slice a11 tn c11) ls) := o1.mono (by omega)
              have I_TT : Hid (∀ k, (Value.slice a11 tn c11).ownBlock = some k → k = v1.heap.size ∨ k = v4.heap.size) := hw
              have K_TT : Hid (∀ k, (Value.slice a11 tn c11).ownBlock = some k → k < v5.heap.size) := fun k h => (World.ownsRow.lt o1 k h).2
              refine Lib.wp_append_run _ _ _ _ _ rfl (.slice (some ⟨v1.heap.size, 0, none⟩) 0 0) (.slice ta tn tc) (by rfl) (by rfl) (.slice a11 tn c11) v5 (r1 _) ?_
              refine hK.out _ _ ?_ (fun hHeld => ?_)
              · exact XA_5.out.1
              clear hK K r1 o1 hg hw HB_4 XA_4 ZR_4 E8_4 LL_4 XX_4
              try simp only [Act.put, List.setIfInBounds_toArray, List.set_cons_zero, List.set_cons_succ]
              refine takeV13 (i := 12) (oi := _) (v := ?_) (d := some 18) rfl (by kernel_rfl) (by kernel_rfl) (by kernel_rfl) (by kernel_rfl) (fun _ _ _ h => h) (Or.inl ⟨by rfl, ?_⟩) (by assumption) ?_
              rotate_left
              · (intro w hSw; (try dsimp only at hSw); go_simp <;> with_reducible rfl)
              try simp only [Act.put, List.setIfInBounds_toArray, List.set_cons_zero, List.set_cons_succ]
              refine wpAnyH_ready (rs := [14]) (by kernel_rfl) (by simp) ?_
              refine AllReadyH.cons (o := _) rfl (fun K hK => ?_) AllReadyH.nil
              obtain ⟨V, hVV⟩ : ∃ V, (((((v5.setCell ⟨v3.heap.size, 0, none⟩ (.int .i64 f)).setCell ⟨v3.heap.size, 1, none⟩ (.int .i64 e)).setCell ⟨v3.heap.size, 2, none⟩ (.slice none 0 0)).setCell ⟨v3.heap.size, 3, none⟩ (.slice a7 ln c7)).setCell ⟨v3.heap.size, 4, none⟩ (.slice a11 tn c11)) = V := ⟨_, rfl⟩
              have hHC := ownCut_of w v5 V (v3.heap.size) f e sa sn sc la ln lc ta tn tc li ls a7 c7 a11 c11 hVV XX_5.out XA_5.out ZR_5.out LL_5.out TT_5.out HB_5.out (fun k h k2 h2 => by have := I_LL.out k h; have := I_TT.out k2 h2; have := K_LL.out k h; have := K_TT.out k2 h2; omega) (fun k h => by have := I_LL.out k h; have := K_LL.out k h; omega) (fun k h => by have := I_TT.out k h; have := K_TT.out k h; omega) (by omega)
              obtain ⟨⟨u0, u1, u2, u3, u4⟩, uf⟩ := XX_5.out
              have uf0 := uf 0
              have uf1 := uf 1
              have uf2 := uf 2
              have uf3 := uf 3
              have uf4 := uf 4
              have HXF : Hid (X5 V w.heap.size (.int .i64 f) (.int .i64 e) (.slice sa sn sc) (.slice la ln lc) (.slice ta tn tc)) := hHC.1
              have HCT := hHC.2 (.pointer (some ⟨v3.heap.size, 0, none⟩)) rfl
              clear hHC uf
              go_simp
              refine hK.out _ _ ?_ (fun hHeld => ?_)
              · exact HXF.out.1
              clear hK K
              try simp only [Act.put, List.setIfInBounds_toArray, List.set_cons_zero, List.set_cons_succ]
              refine wpAnyH_done (by kernel_rfl) ?_ _
              clear hHeld
              go_wp2_with fail
              go_meet
              exact HCT.out
        case cw16 =>
          go_simp
          have hb : Below v2.heap.size v2 (v2.alloc (.cells #[.int .i64 0, .int .i64 0, .slice none 0 0, .slice none 0 0, .slice none 0 0] 29)) := balloc _ _
          have hN := x5_new v2 (.int .i64 0) (.int .i64 0) (.slice none 0 0) (.slice none 0 0) (.slice none 0 0) 29 v2.heap.size rfl
          have hzz : v2.heap.size + 1 ≤ (v2.alloc (.cells #[.int .i64 0, .int .i64 0, .slice none 0 0, .slice none 0 0, .slice none 0 0] 29)).heap.size := by simp
          have h_HB := HB_2.out.trans (hb.mono HB_2.out.size)
          have h_XA := XA_2.out.later hb
          have h_ZR := ZR_2.out.later hb
          have h_E4 := E4_2.out.later hb
          have h_E8 := E8_2.out.later hb
          refine hK.out _ _ ?_ (fun hHeld => ?_)
          · exact h_XA.1
          clear hK K
          try simp only [Act.put, List.setIfInBounds_toArray, List.set_cons_zero, List.set_cons_succ]
          generalize (v2.alloc (.cells #[.int .i64 0, .int .i64 0, .slice none 0 0, .slice none 0 0, .slice none 0 0] 29)) = v3 at hb hN hHeld hzz h_HB h_XA h_ZR h_E4 h_E8 ⊢
          have HB_3 : Hid (Below w.heap.size w v3) := h_HB
          have XA_3 : Hid (X5 v3 w.heap.size (.int .i64 f) (.int .i64 e) (.slice sa sn sc) (.slice la ln lc) (.slice ta tn tc)) := h_XA
          have ZR_3 : Hid (X5 v3 (w.heap.size + 1) (.int .i64 0) (.int .i64 0) (.slice none 0 0) (.slice none 0 0) (.slice none 0 0)) := h_ZR
          have E4_3 : Hid (Own v3 v0.heap.size (.slice (some ⟨v0.heap.size, 0, none⟩) 0 0) []) := h_E4
          have E8_3 : Hid (Own v3 v1.heap.size (.slice (some ⟨v1.heap.size, 0, none⟩) 0 0) []) := h_E8
          have XX_3 : Hid (X5 v3 v2.heap.size (.int .i64 0) (.int .i64 0) (.slice none 0 0) (.slice none 0 0) (.slice none 0 0)) := hN
          clear hb hN h_HB h_XA h_ZR h_E4 h_E8 HB_2 XA_2 ZR_2 E4_2 E8_2
          refine wpAnyH_ready (rs := [7]) (by kernel_rfl) (by simp) ?_
          refine AllReadyH.cons (o := _) rfl (fun K hK => ?cw21) AllReadyH.nil
          case cw21 =>
            rw [if_pos (by rfl)]
            obtain ⟨a7, c7, v4, r1, o1, hg, hw⟩ := appendI_at v3 (v0.heap.size) li la ln lc E4_3.out (HRL.out _ HB_3.out) HL.out HLZ.out (by omega) (by omega)
            have hzz : v3.heap.size ≤ v4.heap.size := hg.size
            have HB_4 : Hid (Below w.heap.size w v4) := Below.grown HB_3.out hg (by omega) (fun k e => by have := Option.some.inj e; omega)
            have XA_4 : Hid (X5 v4 w.heap.size (.int .i64 f) (.int .i64 e) (.slice sa sn sc) (.slice la ln lc) (.slice ta tn tc)) := XA_3.out.grown hg (fun e => by have := Option.some.inj e; omega)
            have ZR_4 : Hid (X5 v4 (w.heap.size + 1) (.int .i64 0) (.int .i64 0) (.slice none 0 0) (.slice none 0 0) (.slice none 0 0)) := ZR_3.out.grown hg (fun e => by have := Option.some.inj e; omega)
            have E8_4 : Hid (Own v4 v1.heap.size (.slice (some ⟨v1.heap.size, 0, none⟩) 0 0) []) := E8_3.out.kept hg (sep_ne (fun k h => by simp only [Value.ownBlock, Option.some.injEq] at h; omega))
            have XX_4 : Hid (X5 v4 v2.heap.size (.int .i64 0) (.int .i64 0) (.slice none 0 0) (.slice none 0 0) (.slice none 0 0)) := XX_3.out.grown hg (fun e => by have := Option.some.inj e; omega)
            have LL_4 : Hid (Own v4 (w.heap.size + 2) (.slice a7 ln c7) li) := o1.mono (by omega)
            have I_LL : Hid (∀ k, (Value.slice a7 ln c7).ownBlock = some k → k = v0.heap.size ∨ k = v3.heap.size) := hw
            have K_LL : Hid (∀ k, (Value.slice a7 ln c7).ownBlock = some k → k < v4.heap.size) := fun k h => (World.ownsRow.lt o1 k h).2
            refine Lib.wp_append_run _ _ _ _ _ rfl (.slice (some ⟨v0.heap.size, 0, none⟩) 0 0) (.slice la ln lc) (by rfl) (by rfl) (.slice a7 ln c7) v4 (r1 _) ?_
            refine hK.out _ _ ?_ (fun hHeld => ?_)
            · exact XA_4.out.1
            clear hK K r1 o1 hg hw HB_3 XA_3 ZR_3 E4_3 E8_3 XX_3
            try simp only [Act.put, List.setIfInBounds_toArray, List.set_cons_zero, List.set_cons_succ]
            refine wpAnyH_ready (rs := [11]) (by kernel_rfl) (by simp) ?_
            refine AllReadyH.cons (o := _) rfl (fun K hK => ?cw22) AllReadyH.nil
            case cw22 =>
              rw [if_pos (by rfl)]
              obtain ⟨a11, c11, v5, r1, o1, hg, hw⟩ := appendI_at v4 (v1.heap.size) ls ta tn tc E8_4.out (HRT.out _ HB_4.out) HT.out HTZ.out (by omega) (by omega)
              have hzz : v4.heap.size ≤ v5.heap.size := hg.size
              have HB_5 : Hid (Below w.heap.size w v5) := Below.grown HB_4.out hg (by omega) (fun k e => by have := Option.some.inj e; omega)
              have XA_5 : Hid (X5 v5 w.heap.size (.int .i64 f) (.int .i64 e) (.slice sa sn sc) (.slice la ln lc) (.slice ta tn tc)) := XA_4.out.grown hg (fun e => by have := Option.some.inj e; omega)
              have ZR_5 : Hid (X5 v5 (w.heap.size + 1) (.int .i64 0) (.int .i64 0) (.slice none 0 0) (.slice none 0 0) (.slice none 0 0)) := ZR_4.out.grown hg (fun e => by have := Option.some.inj e; omega)
              have XX_5 : Hid (X5 v5 v2.heap.size (.int .i64 0) (.int .i64 0) (.slice none 0 0) (.slice none 0 0) (.slice none 0 0)) := XX_4.out.grown hg (fun e => by have := Option.some.inj e; omega)
              have LL_5 : Hid (Own v5 (w.heap.size + 2) (.slice a7 ln c7) li) := LL_4.out.kept hg (sep_ne (fun k h => by have := I_LL.out k h; have := K_LL.out k h; omega))
              have TT_5 : Hid (Own v5 (w.heap.size + 2) (.slice a11 tn c11) ls) := o1.mono (by omega)
              have I_TT : Hid (∀ k, (Value.slice a11 tn c11).ownBlock = some k → k = v1.heap.size ∨ k = v4.heap.size) := hw
              have K_TT : Hid (∀ k, (Value.slice a11 tn c11).ownBlock = some k → k < v5.heap.size) := fun k h => (World.ownsRow.lt o1 k h).2
              refine Lib.wp_append_run _ _ _ _ _ rfl (.slice (some ⟨v1.heap.size, 0, none⟩) 0 0) (.slice ta tn tc) (by rfl) (by rfl) (.slice a11 tn c11) v5 (r1 _) ?_
              refine hK.out _ _ ?_ (fun hHeld => ?_)
              · exact XA_5.out.1
              clear hK K r1 o1 hg hw HB_4 XA_4 ZR_4 E8_4 XX_4 LL_4
              try simp only [Act.put, List.setIfInBounds_toArray, List.set_cons_zero, List.set_cons_succ]
              refine takeV13 (i := 12) (oi := _) (v := ?_) (d := some 18) rfl (by kernel_rfl) (by kernel_rfl) (by kernel_rfl) (by kernel_rfl) (fun _ _ _ h => h) (Or.inl ⟨by rfl, ?_⟩) (by assumption) ?_
              rotate_left
              · (intro w hSw; (try dsimp only at hSw); go_simp <;> with_reducible rfl)
              try simp only [Act.put, List.setIfInBounds_toArray, List.set_cons_zero, List.set_cons_succ]
              refine wpAnyH_ready (rs := [14]) (by kernel_rfl) (by simp) ?_
              refine AllReadyH.cons (o := _) rfl (fun K hK => ?_) AllReadyH.nil
              obtain ⟨V, hVV⟩ : ∃ V, (((((v5.setCell ⟨v2.heap.size, 0, none⟩ (.int .i64 f)).setCell ⟨v2.heap.size, 1, none⟩ (.int .i64 e)).setCell ⟨v2.heap.size, 2, none⟩ (.slice none 0 0)).setCell ⟨v2.heap.size, 3, none⟩ (.slice a7 ln c7)).setCell ⟨v2.heap.size, 4, none⟩ (.slice a11 tn c11)) = V := ⟨_, rfl⟩
              have hHC := ownCut_of w v5 V (v2.heap.size) f e sa sn sc la ln lc ta tn tc li ls a7 c7 a11 c11 hVV XX_5.out XA_5.out ZR_5.out LL_5.out TT_5.out HB_5.out (fun k h k2 h2 => by have := I_LL.out k h; have := I_TT.out k2 h2; have := K_LL.out k h; have := K_TT.out k2 h2; omega) (fun k h => by have := I_LL.out k h; have := K_LL.out k h; omega) (fun k h => by have := I_TT.out k h; have := K_TT.out k h; omega) (by omega)
              obtain ⟨⟨u0, u1, u2, u3, u4⟩, uf⟩ := XX_5.out
              have uf0 := uf 0
              have uf1 := uf 1
              have uf2 := uf 2
              have uf3 := uf 3
              have uf4 := uf 4
              have HXF : Hid (X5 V w.heap.size (.int .i64 f) (.int .i64 e) (.slice sa sn sc) (.slice la ln lc) (.slice ta tn tc)) := hHC.1
              have HCT := hHC.2 (.pointer (some ⟨v2.heap.size, 0, none⟩)) rfl
              clear hHC uf
              go_simp
              refine hK.out _ _ ?_ (fun hHeld => ?_)
              · exact HXF.out.1
              clear hK K
              try simp only [Act.put, List.setIfInBounds_toArray, List.set_cons_zero, List.set_cons_succ]
              refine wpAnyH_done (by kernel_rfl) ?_ _
              clear hHeld
              go_wp2_with fail
              go_meet
              exact HCT.out
      case cw6 =>
        go_simp
        have hb : Below v1.heap.size v1 (v1.alloc (.cells #[.int .i64 0, .int .i64 0, .slice none 0 0, .slice none 0 0, .slice none 0 0] 29)) := balloc _ _
        have hN := x5_new v1 (.int .i64 0) (.int .i64 0) (.slice none 0 0) (.slice none 0 0) (.slice none 0 0) 29 v1.heap.size rfl
        have hzz : v1.heap.size + 1 ≤ (v1.alloc (.cells #[.int .i64 0, .int .i64 0, .slice none 0 0, .slice none 0 0, .slice none 0 0] 29)).heap.size := by simp
        have h_HB := HB_1.out.trans (hb.mono HB_1.out.size)
        have h_XA := XA_1.out.later hb
        have h_ZR := ZR_1.out.later hb
        have h_E4 := E4_1.out.later hb
        refine hK.out _ _ ?_ (fun hHeld => ?_)
        · exact h_XA.1
        clear hK K
        try simp only [Act.put, List.setIfInBounds_toArray, List.set_cons_zero, List.set_cons_succ]
        generalize (v1.alloc (.cells #[.int .i64 0, .int .i64 0, .slice none 0 0, .slice none 0 0, .slice none 0 0] 29)) = v2 at hb hN hHeld hzz h_HB h_XA h_ZR h_E4 ⊢
        have HB_2 : Hid (Below w.heap.size w v2) := h_HB
        have XA_2 : Hid (X5 v2 w.heap.size (.int .i64 f) (.int .i64 e) (.slice sa sn sc) (.slice la ln lc) (.slice ta tn tc)) := h_XA
        have ZR_2 : Hid (X5 v2 (w.heap.size + 1) (.int .i64 0) (.int .i64 0) (.slice none 0 0) (.slice none 0 0) (.slice none 0 0)) := h_ZR
        have E4_2 : Hid (Own v2 v0.heap.size (.slice (some ⟨v0.heap.size, 0, none⟩) 0 0) []) := h_E4
        have XX_2 : Hid (X5 v2 v1.heap.size (.int .i64 0) (.int .i64 0) (.slice none 0 0) (.slice none 0 0) (.slice none 0 0)) := hN
        clear hb hN h_HB h_XA h_ZR h_E4 HB_1 XA_1 ZR_1 E4_1
        refine wpAnyH_ready (rs := [7, 8]) (by kernel_rfl) (by simp) ?_
        refine AllReadyH.cons (o := _) rfl (fun K hK => ?cw23) (AllReadyH.cons (o := _) rfl (fun K hK => ?cw24) AllReadyH.nil)
        case cw23 =>
          rw [if_pos (by rfl)]
          obtain ⟨a7, c7, v3, r1, o1, hg, hw⟩ := appendI_at v2 (v0.heap.size) li la ln lc E4_2.out (HRL.out _ HB_2.out) HL.out HLZ.out (by omega) (by omega)
          have hzz : v2.heap.size ≤ v3.heap.size := hg.size
          have HB_3 : Hid (Below w.heap.size w v3) := Below.grown HB_2.out hg (by omega) (fun k e => by have := Option.some.inj e; omega)
          have XA_3 : Hid (X5 v3 w.heap.size (.int .i64 f) (.int .i64 e) (.slice sa sn sc) (.slice la ln lc) (.slice ta tn tc)) := XA_2.out.grown hg (fun e => by have := Option.some.inj e; omega)
          have ZR_3 : Hid (X5 v3 (w.heap.size + 1) (.int .i64 0) (.int .i64 0) (.slice none 0 0) (.slice none 0 0) (.slice none 0 0)) := ZR_2.out.grown hg (fun e => by have := Option.some.inj e; omega)
          have XX_3 : Hid (X5 v3 v1.heap.size (.int .i64 0) (.int .i64 0) (.slice none 0 0) (.slice none 0 0) (.slice none 0 0)) := XX_2.out.grown hg (fun e => by have := Option.some.inj e; omega)
          have LL_3 : Hid (Own v3 (w.heap.size + 2) (.slice a7 ln c7) li) := o1.mono (by omega)
          have I_LL : Hid (∀ k, (Value.slice a7 ln c7).ownBlock = some k → k = v0.heap.size ∨ k = v2.heap.size) := hw
          have K_LL : Hid (∀ k, (Value.slice a7 ln c7).ownBlock = some k → k < v3.heap.size) := fun k h => (World.ownsRow.lt o1 k h).2
          refine Lib.wp_append_run _ _ _ _ _ rfl (.slice (some ⟨v0.heap.size, 0, none⟩) 0 0) (.slice la ln lc) (by rfl) (by rfl) (.slice a7 ln c7) v3 (r1 _) ?_
          refine hK.out _ _ ?_ (fun hHeld => ?_)
          · exact XA_3.out.1
          clear hK K r1 o1 hg hw HB_2 XA_2 ZR_2 E4_2 XX_2
          try simp only [Act.put, List.setIfInBounds_toArray, List.set_cons_zero, List.set_cons_succ]
          refine wpAnyH_ready (rs := [8]) (by kernel_rfl) (by simp) ?_
          refine AllReadyH.cons (o := _) rfl (fun K hK => ?cw25) AllReadyH.nil
          case cw25 =>
            go_simp
            have hb : Below v3.heap.size v3 (v3.alloc (.cells #[] 3)) := balloc _ _
            have hN := emptyI v3
            have hzz : v3.heap.size + 1 ≤ (v3.alloc (.cells #[] 3)).heap.size := by simp
            have h_HB := HB_3.out.trans (hb.mono HB_3.out.size)
            have h_XA := XA_3.out.later hb
            have h_ZR := ZR_3.out.later hb
            have h_XX := XX_3.out.later hb
            have h_LL := LL_3.out.later hb
            refine hK.out _ _ ?_ (fun hHeld => ?_)
            · exact h_XA.1
            clear hK K
            try simp only [Act.put, List.setIfInBounds_toArray, List.set_cons_zero, List.set_cons_succ]
            generalize (v3.alloc (.cells #[] 3)) = v4 at hb hN hHeld hzz h_HB h_XA h_ZR h_XX h_LL ⊢
            have HB_4 : Hid (Below w.heap.size w v4) := h_HB
            have XA_4 : Hid (X5 v4 w.heap.size (.int .i64 f) (.int .i64 e) (.slice sa sn sc) (.slice la ln lc) (.slice ta tn tc)) := h_XA
            have ZR_4 : Hid (X5 v4 (w.heap.size + 1) (.int .i64 0) (.int .i64 0) (.slice none 0 0) (.slice none 0 0) (.slice none 0 0)) := h_ZR
            have XX_4 : Hid (X5 v4 v1.heap.size (.int .i64 0) (.int .i64 0) (.slice none 0 0) (.slice none 0 0) (.slice none 0 0)) := h_XX
            have LL_4 : Hid (Own v4 (w.heap.size + 2) (.slice a7 ln c7) li) := h_LL
            have E8_4 : Hid (Own v4 v3.heap.size (.slice (some ⟨v3.heap.size, 0, none⟩) 0 0) []) := hN
            clear hb hN h_HB h_XA h_ZR h_XX h_LL HB_3 XA_3 ZR_3 XX_3 LL_3
            refine wpAnyH_ready (rs := [11]) (by kernel_rfl) (by simp) ?_
            refine AllReadyH.cons (o := _) rfl (fun K hK => ?cw26) AllReadyH.nil
            case cw26 =>
              rw [if_pos (by rfl)]
              obtain ⟨a11, c11, v5, r1, o1, hg, hw⟩ := appendI_at v4 (v3.heap.size) ls ta tn tc E8_4.out (HRT.out _ HB_4.out) HT.out HTZ.out (by omega) (by omega)
              have hzz : v4.heap.size ≤ v5.heap.size := hg.size
              have HB_5 : Hid (Below w.heap.size w v5) := Below.grown HB_4.out hg (by omega) (fun k e => by have := Option.some.inj e; omega)
              have XA_5 : Hid (X5 v5 w.heap.size (.int .i64 f) (.int .i64 e) (.slice sa sn sc) (.slice la ln lc) (.slice ta tn tc)) := XA_4.out.grown hg (fun e => by have := Option.some.inj e; omega)
              have ZR_5 : Hid (X5 v5 (w.heap.size + 1) (.int .i64 0) (.int .i64 0) (.slice none 0 0) (.slice none 0 0) (.slice none 0 0)) := ZR_4.out.grown hg (fun e => by have := Option.some.inj e; omega)
              have XX_5 : Hid (X5 v5 v1.heap.size (.int .i64 0) (.int .i64 0) (.slice none 0 0) (.slice none 0 0) (.slice none 0 0)) := XX_4.out.grown hg (fun e => by have := Option.some.inj e; omega)
              have LL_5 : Hid (Own v5 (w.heap.size + 2) (.slice a7 ln c7) li) := LL_4.out.kept hg (sep_ne (fun k h => by have := I_LL.out k h; have := K_LL.out k h; omega))
              have TT_5 : Hid (Own v5 (w.heap.size + 2) (.slice a11 tn c11) ls) := o1.mono (by omega)
              have I_TT : Hid (∀ k, (Value.slice a11 tn c11).ownBlock = some k → k = v3.heap.size ∨ k = v4.heap.size) := hw
              have K_TT : Hid (∀ k, (Value.slice a11 tn c11).ownBlock = some k → k < v5.heap.size) := fun k h => (World.ownsRow.lt o1 k h).2
              refine Lib.wp_append_run _ _ _ _ _ rfl (.slice (some ⟨v3.heap.size, 0, none⟩) 0 0) (.slice ta tn tc) (by rfl) (by rfl) (.slice a11 tn c11) v5 (r1 _) ?_
              refine hK.out _ _ ?_ (fun hHeld => ?_)
              · exact XA_5.out.1
              clear hK K r1 o1 hg hw HB_4 XA_4 ZR_4 XX_4 LL_4 E8_4
              try simp only [Act.put, List.setIfInBounds_toArray, List.set_cons_zero, List.set_cons_succ]
              refine takeV13 (i := 12) (oi := _) (v := ?_) (d := some 18) rfl (by kernel_rfl) (by kernel_rfl) (by kernel_rfl) (by kernel_rfl) (fun _ _ _ h => h) (Or.inl ⟨by rfl, ?_⟩) (by assumption) ?_
              rotate_left
              · (intro w hSw; (try dsimp only at hSw); go_simp <;> with_reducible rfl)
              try simp only [Act.put, List.setIfInBounds_toArray, List.set_cons_zero, List.set_cons_succ]
              refine wpAnyH_ready (rs := [14]) (by kernel_rfl) (by simp) ?_
              refine AllReadyH.cons (o := _) rfl (fun K hK => ?_) AllReadyH.nil
              obtain ⟨V, hVV⟩ : ∃ V, (((((v5.setCell ⟨v1.heap.size, 0, none⟩ (.int .i64 f)).setCell ⟨v1.heap.size, 1, none⟩ (.int .i64 e)).setCell ⟨v1.heap.size, 2, none⟩ (.slice none 0 0)).setCell ⟨v1.heap.size, 3, none⟩ (.slice a7 ln c7)).setCell ⟨v1.heap.size, 4, none⟩ (.slice a11 tn c11)) = V := ⟨_, rfl⟩
              have hHC := ownCut_of w v5 V (v1.heap.size) f e sa sn sc la ln lc ta tn tc li ls a7 c7 a11 c11 hVV XX_5.out XA_5.out ZR_5.out LL_5.out TT_5.out HB_5.out (fun k h k2 h2 => by have := I_LL.out k h; have := I_TT.out k2 h2; have := K_LL.out k h; have := K_TT.out k2 h2; omega) (fun k h => by have := I_LL.out k h; have := K_LL.out k h; omega) (fun k h => by have := I_TT.out k h; have := K_TT.out k h; omega) (by omega)
              obtain ⟨⟨u0, u1, u2, u3, u4⟩, uf⟩ := XX_5.out
              have uf0 := uf 0
              have uf1 := uf 1
              have uf2 := uf 2
              have uf3 := uf 3
              have uf4 := uf 4
              have HXF : Hid (X5 V w.heap.size (.int .i64 f) (.int .i64 e) (.slice sa sn sc) (.slice la ln lc) (.slice ta tn tc)) := hHC.1
              have HCT := hHC.2 (.pointer (some ⟨v1.heap.size, 0, none⟩)) rfl
              clear hHC uf
              go_simp
              refine hK.out _ _ ?_ (fun hHeld => ?_)
              · exact HXF.out.1
              clear hK K
              try simp only [Act.put, List.setIfInBounds_toArray, List.set_cons_zero, List.set_cons_succ]
              refine wpAnyH_done (by kernel_rfl) ?_ _
              clear hHeld
              go_wp2_with fail
              go_meet
              exact HCT.out
        case cw24 =>
          go_simp
          have hb : Below v2.heap.size v2 (v2.alloc (.cells #[] 3)) := balloc _ _
          have hN := emptyI v2
          have hzz : v2.heap.size + 1 ≤ (v2.alloc (.cells #[] 3)).heap.size := by simp
          have h_HB := HB_2.out.trans (hb.mono HB_2.out.size)
          have h_XA := XA_2.out.later hb
          have h_ZR := ZR_2.out.later hb
          have h_E4 := E4_2.out.later hb
          have h_XX := XX_2.out.later hb
          refine hK.out _ _ ?_ (fun hHeld => ?_)
          · exact h_XA.1
          clear hK K
          try simp only [Act.put, List.setIfInBounds_toArray, List.set_cons_zero, List.set_cons_succ]
          generalize (v2.alloc (.cells #[] 3)) = v3 at hb hN hHeld hzz h_HB h_XA h_ZR h_E4 h_XX ⊢
          have HB_3 : Hid (Below w.heap.size w v3) := h_HB
          have XA_3 : Hid (X5 v3 w.heap.size (.int .i64 f) (.int .i64 e) (.slice sa sn sc) (.slice la ln lc) (.slice ta tn tc)) := h_XA
          have ZR_3 : Hid (X5 v3 (w.heap.size + 1) (.int .i64 0) (.int .i64 0) (.slice none 0 0) (.slice none 0 0) (.slice none 0 0)) := h_ZR
          have E4_3 : Hid (Own v3 v0.heap.size (.slice (some ⟨v0.heap.size, 0, none⟩) 0 0) []) := h_E4
          have XX_3 : Hid (X5 v3 v1.heap.size (.int .i64 0) (.int .i64 0) (.slice none 0 0) (.slice none 0 0) (.slice none 0 0)) := h_XX
          have E8_3 : Hid (Own v3 v2.heap.size (.slice (some ⟨v2.heap.size, 0, none⟩) 0 0) []) := hN
          clear hb hN h_HB h_XA h_ZR h_E4 h_XX HB_2 XA_2 ZR_2 E4_2 XX_2
          refine wpAnyH_ready (rs := [7]) (by kernel_rfl) (by simp) ?_
          refine AllReadyH.cons (o := _) rfl (fun K hK => ?cw27) AllReadyH.nil
          case cw27 =>
            rw [if_pos (by rfl)]
            obtain ⟨a7, c7, v4, r1, o1, hg, hw⟩ := appendI_at v3 (v0.heap.size) li la ln lc E4_3.out (HRL.out _ HB_3.out) HL.out HLZ.out (by omega) (by omega)
            have hzz : v3.heap.size ≤ v4.heap.size := hg.size
            have HB_4 : Hid (Below w.heap.size w v4) := Below.grown HB_3.out hg (by omega) (fun k e => by have := Option.some.inj e; omega)
            have XA_4 : Hid (X5 v4 w.heap.size (.int .i64 f) (.int .i64 e) (.slice sa sn sc) (.slice la ln lc) (.slice ta tn tc)) := XA_3.out.grown hg (fun e => by have := Option.some.inj e; omega)
            have ZR_4 : Hid (X5 v4 (w.heap.size + 1) (.int .i64 0) (.int .i64 0) (.slice none 0 0) (.slice none 0 0) (.slice none 0 0)) := ZR_3.out.grown hg (fun e => by have := Option.some.inj e; omega)
            have XX_4 : Hid (X5 v4 v1.heap.size (.int .i64 0) (.int .i64 0) (.slice none 0 0) (.slice none 0 0) (.slice none 0 0)) := XX_3.out.grown hg (fun e => by have := Option.some.inj e; omega)
            have E8_4 : Hid (Own v4 v2.heap.size (.slice (some ⟨v2.heap.size, 0, none⟩) 0 0) []) := E8_3.out.kept hg (sep_ne (fun k h => by simp only [Value.ownBlock, Option.some.injEq] at h; omega))
            have LL_4 : Hid (Own v4 (w.heap.size + 2) (.slice a7 ln c7) li) := o1.mono (by omega)
            have I_LL : Hid (∀ k, (Value.slice a7 ln c7).ownBlock = some k → k = v0.heap.size ∨ k = v3.heap.size) := hw
            have K_LL : Hid (∀ k, (Value.slice a7 ln c7).ownBlock = some k → k < v4.heap.size) := fun k h => (World.ownsRow.lt o1 k h).2
            refine Lib.wp_append_run _ _ _ _ _ rfl (.slice (some ⟨v0.heap.size, 0, none⟩) 0 0) (.slice la ln lc) (by rfl) (by rfl) (.slice a7 ln c7) v4 (r1 _) ?_
            refine hK.out _ _ ?_ (fun hHeld => ?_)
            · exact XA_4.out.1
            clear hK K r1 o1 hg hw HB_3 XA_3 ZR_3 E4_3 XX_3 E8_3
            try simp only [Act.put, List.setIfInBounds_toArray, List.set_cons_zero, List.set_cons_succ]
            refine wpAnyH_ready (rs := [11]) (by kernel_rfl) (by simp) ?_
            refine AllReadyH.cons (o := _) rfl (fun K hK => ?cw28) AllReadyH.nil
            case cw28 =>
              rw [if_pos (by rfl)]
              obtain ⟨a11, c11, v5, r1, o1, hg, hw⟩ := appendI_at v4 (v2.heap.size) ls ta tn tc E8_4.out (HRT.out _ HB_4.out) HT.out HTZ.out (by omega) (by omega)
              have hzz : v4.heap.size ≤ v5.heap.size := hg.size
              have HB_5 : Hid (Below w.heap.size w v5) := Below.grown HB_4.out hg (by omega) (fun k e => by have := Option.some.inj e; omega)
              have XA_5 : Hid (X5 v5 w.heap.size (.int .i64 f) (.int .i64 e) (.slice sa sn sc) (.slice la ln lc) (.slice ta tn tc)) := XA_4.out.grown hg (fun e => by have := Option.some.inj e; omega)
              have ZR_5 : Hid (X5 v5 (w.heap.size + 1) (.int .i64 0) (.int .i64 0) (.slice none 0 0) (.slice none 0 0) (.slice none 0 0)) := ZR_4.out.grown hg (fun e => by have := Option.some.inj e; omega)
              have XX_5 : Hid (X5 v5 v1.heap.size (.int .i64 0) (.int .i64 0) (.slice none 0 0) (.slice none 0 0) (.slice none 0 0)) := XX_4.out.grown hg (fun e => by have := Option.some.inj e; omega)
              have LL_5 : Hid (Own v5 (w.heap.size + 2) (.slice a7 ln c7) li) := LL_4.out.kept hg (sep_ne (fun k h => by have := I_LL.out k h; have := K_LL.out k h; omega))
              have TT_5 : Hid (Own v5 (w.heap.size + 2) (.slice a11 tn c11) ls) := o1.mono (by omega)
              have I_TT : Hid (∀ k, (Value.slice a11 tn c11).ownBlock = some k → k = v2.heap.size ∨ k = v4.heap.size) := hw
              have K_TT : Hid (∀ k, (Value.slice a11 tn c11).ownBlock = some k → k < v5.heap.size) := fun k h => (World.ownsRow.lt o1 k h).2
              refine Lib.wp_append_run _ _ _ _ _ rfl (.slice (some ⟨v2.heap.size, 0, none⟩) 0 0) (.slice ta tn tc) (by rfl) (by rfl) (.slice a11 tn c11) v5 (r1 _) ?_
              refine hK.out _ _ ?_ (fun hHeld => ?_)
              · exact XA_5.out.1
              clear hK K r1 o1 hg hw HB_4 XA_4 ZR_4 XX_4 E8_4 LL_4
              try simp only [Act.put, List.setIfInBounds_toArray, List.set_cons_zero, List.set_cons_succ]
              refine takeV13 (i := 12) (oi := _) (v := ?_) (d := some 18) rfl (by kernel_rfl) (by kernel_rfl) (by kernel_rfl) (by kernel_rfl) (fun _ _ _ h => h) (Or.inl ⟨by rfl, ?_⟩) (by assumption) ?_
              rotate_left
              · (intro w hSw; (try dsimp only at hSw); go_simp <;> with_reducible rfl)
              try simp only [Act.put, List.setIfInBounds_toArray, List.set_cons_zero, List.set_cons_succ]
              refine wpAnyH_ready (rs := [14]) (by kernel_rfl) (by simp) ?_
              refine AllReadyH.cons (o := _) rfl (fun K hK => ?_) AllReadyH.nil
              obtain ⟨V, hVV⟩ : ∃ V, (((((v5.setCell ⟨v1.heap.size, 0, none⟩ (.int .i64 f)).setCell ⟨v1.heap.size, 1, none⟩ (.int .i64 e)).setCell ⟨v1.heap.size, 2, none⟩ (.slice none 0 0)).setCell ⟨v1.heap.size, 3, none⟩ (.slice a7 ln c7)).setCell ⟨v1.heap.size, 4, none⟩ (.slice a11 tn c11)) = V := ⟨_, rfl⟩
              have hHC := ownCut_of w v5 V (v1.heap.size) f e sa sn sc la ln lc ta tn tc li ls a7 c7 a11 c11 hVV XX_5.out XA_5.out ZR_5.out LL_5.out TT_5.out HB_5.out (fun k h k2 h2 => by have := I_LL.out k h; have := I_TT.out k2 h2; have := K_LL.out k h; have := K_TT.out k2 h2; omega) (fun k h => by have := I_LL.out k h; have := K_LL.out k h; omega) (fun k h => by have := I_TT.out k h; have := K_TT.out k h; omega) (by omega)
              obtain ⟨⟨u0, u1, u2, u3, u4⟩, uf⟩ := XX_5.out
              have uf0 := uf 0
              have uf1 := uf 1
              have uf2 := uf 2
              have uf3 := uf 3
              have uf4 := uf 4
              have HXF : Hid (X5 V w.heap.size (.int .i64 f) (.int .i64 e) (.slice sa sn sc) (.slice la ln lc) (.slice ta tn tc)) := hHC.1
              have HCT := hHC.2 (.pointer (some ⟨v1.heap.size, 0, none⟩)) rfl
              clear hHC uf
              go_simp
              refine hK.out _ _ ?_ (fun hHeld => ?_)
              · exact HXF.out.1
              clear hK K
              try simp only [Act.put, List.setIfInBounds_toArray, List.set_cons_zero, List.set_cons_succ]
              refine wpAnyH_done (by kernel_rfl) ?_ _
              clear hHeld
              go_wp2_with fail
              go_meet
              exact HCT.out
    case cw2 =>
      go_simp
      have hb : Below v0.heap.size v0 (v0.alloc (.cells #[] 3)) := balloc _ _
      have hN := emptyI v0
      have hzz : v0.heap.size + 1 ≤ (v0.alloc (.cells #[] 3)).heap.size := by simp
      have h_HB := HB_0.out.trans (hb.mono HB_0.out.size)
      have h_XA := XA_0.out.later hb
      have h_ZR := ZR_0.out.later hb
      refine hK.out _ _ ?_ (fun hHeld => ?_)
      · exact h_XA.1
      clear hK K
      try simp only [Act.put, List.setIfInBounds_toArray, List.set_cons_zero, List.set_cons_succ]
      generalize (v0.alloc (.cells #[] 3)) = v1 at hb hN hHeld hzz h_HB h_XA h_ZR ⊢
      have HB_1 : Hid (Below w.heap.size w v1) := h_HB
      have XA_1 : Hid (X5 v1 w.heap.size (.int .i64 f) (.int .i64 e) (.slice sa sn sc) (.slice la ln lc) (.slice ta tn tc)) := h_XA
      have ZR_1 : Hid (X5 v1 (w.heap.size + 1) (.int .i64 0) (.int .i64 0) (.slice none 0 0) (.slice none 0 0) (.slice none 0 0)) := h_ZR
      have E8_1 : Hid (Own v1 v0.heap.size (.slice (some ⟨v0.heap.size, 0, none⟩) 0 0) []) := hN
      clear hb hN h_HB h_XA h_ZR HB_0 XA_0 ZR_0
      refine wpAnyH_ready (rs := [4, 13]) (by kernel_rfl) (by simp) ?_
      refine AllReadyH.cons (o := _) rfl (fun K hK => ?cw29) (AllReadyH.cons (o := _) rfl (fun K hK => ?cw30) AllReadyH.nil)
      case cw29 =>
        go_simp
        have hb : Below v1.heap.size v1 (v1.alloc (.cells #[] 3)) := balloc _ _
        have hN := emptyI v1
        have hzz : v1.heap.size + 1 ≤ (v1.alloc (.cells #[] 3)).heap.size := by simp
        have h_HB := HB_1.out.trans (hb.mono HB_1.out.size)
        have h_XA := XA_1.out.later hb
        have h_ZR := ZR_1.out.later hb
        have h_E8 := E8_1.out.later hb
        refine hK.out _ _ ?_ (fun hHeld => ?_)
        · exact h_XA.1
        clear hK K
        try simp only [Act.put, List.setIfInBounds_toArray, List.set_cons_zero, List.set_cons_succ]
        generalize (v1.alloc (.cells #[] 3)) = v2 at hb hN hHeld hzz h_HB h_XA h_ZR h_E8 ⊢
        have HB_2 : Hid (Below w.heap.size w v2) := h_HB
        have XA_2 : Hid (X5 v2 w.heap.size (.int .i64 f) (.int .i64 e) (.slice sa sn sc) (.slice la ln lc) (.slice ta tn tc)) := h_XA
        have ZR_2 : Hid (X5 v2 (w.heap.size + 1) (.int .i64 0) (.int .i64 0) (.slice none 0 0) (.slice none 0 0) (.slice none 0 0)) := h_ZR
        have E8_2 : Hid (Own v2 v0.heap.size (.slice (some ⟨v0.heap.size, 0, none⟩) 0 0) []) := h_E8
        have E4_2 : Hid (Own v2 v1.heap.size (.slice (some ⟨v1.heap.size, 0, none⟩) 0 0) []) := hN
        clear hb hN h_HB h_XA h_ZR h_E8 HB_1 XA_1 ZR_1 E8_1
        refine wpAnyH_ready (rs := [7, 13]) (by kernel_rfl) (by simp) ?_
        refine AllReadyH.cons (o := _) rfl (fun K hK => ?cw31) (AllReadyH.cons (o := _) rfl (fun K hK => ?cw32) AllReadyH.nil)
        case cw31 =>
          rw [if_pos (by rfl)]
          obtain ⟨a7, c7, v3, r1, o1, hg, hw⟩ := appendI_at v2 (v1.heap.size) li la ln lc E4_2.out (HRL.out _ HB_2.out) HL.out HLZ.out (by omega) (by omega)
          have hzz : v2.heap.size ≤ v3.heap.size := hg.size
          have HB_3 : Hid (Below w.heap.size w v3) := Below.grown HB_2.out hg (by omega) (fun k e => by have := Option.some.inj e; omega)
          have XA_3 : Hid (X5 v3 w.heap.size (.int .i64 f) (.int .i64 e) (.slice sa sn sc) (.slice la ln lc) (.slice ta tn tc)) := XA_2.out.grown hg (fun e => by have := Option.some.inj e; omega)
          have ZR_3 : Hid (X5 v3 (w.heap.size + 1) (.int .i64 0) (.int .i64 0) (.slice none 0 0) (.slice none 0 0) (.slice none 0 0)) := ZR_2.out.grown hg (fun e => by have := Option.some.inj e; omega)
          have E8_3 : Hid (Own v3 v0.heap.size (.slice (some ⟨v0.heap.size, 0, none⟩) 0 0) []) := E8_2.out.kept hg (sep_ne (fun k h => by simp only [Value.ownBlock, Option.some.injEq] at h; omega))
          have LL_3 : Hid (Own v3 (w.heap.size + 2) (.slice a7 ln c7) li) := o1.mono (by omega)
          have I_LL : Hid (∀ k, (Value.slice a7 ln c7).ownBlock = some k → k = v1.heap.size ∨ k = v2.heap.size) := hw
          have K_LL : Hid (∀ k, (Value.slice a7 ln c7).ownBlock = some k → k < v3.heap.size) := fun k h => (World.ownsRow.lt o1 k h).2
          refine Lib.wp_append_run _ _ _ _ _ rfl (.slice (some ⟨v1.heap.size, 0, none⟩) 0 0) (.slice la ln lc) (by rfl) (by rfl) (.slice a7 ln c7) v3 (r1 _) ?_
          refine hK.out _ _ ?_ (fun hHeld => ?_)
          · exact XA_3.out.1
          clear hK K r1 o1 hg hw HB_2 XA_2 ZR_2 E8_2 E4_2
          try simp only [Act.put, List.setIfInBounds_toArray, List.set_cons_zero, List.set_cons_succ]
          refine wpAnyH_ready (rs := [11, 13]) (by kernel_rfl) (by simp) ?_
          refine AllReadyH.cons (o := _) rfl (fun K hK => ?cw33) (AllReadyH.cons (o := _) rfl (fun K hK => ?cw34) AllReadyH.nil)
          case cw33 =>
            rw [if_pos (by rfl)]
            obtain ⟨a11, c11, v4, r1, o1, hg, hw⟩ := appendI_at v3 (v0.heap.size) ls ta tn tc E8_3.out (HRT.out _ HB_3.out) HT.out HTZ.out (by omega) (by omega)
            have hzz : v3.heap.size ≤ v4.heap.size := hg.size
            have HB_4 : Hid (Below w.heap.size w v4) := Below.grown HB_3.out hg (by omega) (fun k e => by have := Option.some.inj e; omega)
            have XA_4 : Hid (X5 v4 w.heap.size (.int .i64 f) (.int .i64 e) (.slice sa sn sc) (.slice la ln lc) (.slice ta tn tc)) := XA_3.out.grown hg (fun e => by have := Option.some.inj e; omega)
            have ZR_4 : Hid (X5 v4 (w.heap.size + 1) (.int .i64 0) (.int .i64 0) (.slice none 0 0) (.slice none 0 0) (.slice none 0 0)) := ZR_3.out.grown hg (fun e => by have := Option.some.inj e; omega)
            have LL_4 : Hid (Own v4 (w.heap.size + 2) (.slice a7 ln c7) li) := LL_3.out.kept hg (sep_ne (fun k h => by have := I_LL.out k h; have := K_LL.out k h; omega))
            have TT_4 : Hid (Own v4 (w.heap.size + 2) (.slice a11 tn c11) ls) := o1.mono (by omega)
            have I_TT : Hid (∀ k, (Value.slice a11 tn c11).ownBlock = some k → k = v0.heap.size ∨ k = v3.heap.size) := hw
            have K_TT : Hid (∀ k, (Value.slice a11 tn c11).ownBlock = some k → k < v4.heap.size) := fun k h => (World.ownsRow.lt o1 k h).2
            refine Lib.wp_append_run _ _ _ _ _ rfl (.slice (some ⟨v0.heap.size, 0, none⟩) 0 0) (.slice ta tn tc) (by rfl) (by rfl) (.slice a11 tn c11) v4 (r1 _) ?_
            refine hK.out _ _ ?_ (fun hHeld => ?_)
            · exact XA_4.out.1
            clear hK K r1 o1 hg hw HB_3 XA_3 ZR_3 E8_3 LL_3
            try simp only [Act.put, List.setIfInBounds_toArray, List.set_cons_zero, List.set_cons_succ]
            refine takeV13 (i := 12) (oi := _) (v := ?_) (d := some 18) rfl (by kernel_rfl) (by kernel_rfl) (by kernel_rfl) (by kernel_rfl) (fun _ _ _ h => h) (Or.inl ⟨by rfl, ?_⟩) (by assumption) ?_
            rotate_left
            · (intro w hSw; (try dsimp only at hSw); go_simp <;> with_reducible rfl)
            try simp only [Act.put, List.setIfInBounds_toArray, List.set_cons_zero, List.set_cons_succ]
            refine wpAnyH_ready (rs := [13]) (by kernel_rfl) (by simp) ?_
            refine AllReadyH.cons (o := _) rfl (fun K hK => ?cw35) AllReadyH.nil
            case cw35 =>
              go_simp
              have hb : Below v4.heap.size v4 (v4.alloc (.cells #[.int .i64 0, .int .i64 0, .slice none 0 0, .slice none 0 0, .slice none 0 0] 29)) := balloc _ _
              have hN := x5_new v4 (.int .i64 0) (.int .i64 0) (.slice none 0 0) (.slice none 0 0) (.slice none 0 0) 29 v4.heap.size rfl
              have hzz : v4.heap.size + 1 ≤ (v4.alloc (.cells #[.int .i64 0, .int .i64 0, .slice none 0 0, .slice none 0 0, .slice none 0 0] 29)).heap.size := by simp
              have h_HB := HB_4.out.trans (hb.mono HB_4.out.size)
              have h_XA := XA_4.out.later hb
              have h_ZR := ZR_4.out.later hb
              have h_LL := LL_4.out.later hb
              have h_TT := TT_4.out.later hb
              refine hK.out _ _ ?_ (fun hHeld => ?_)
              · exact h_XA.1
              clear hK K
              try simp only [Act.put, List.setIfInBounds_toArray, List.set_cons_zero, List.set_cons_succ]
              generalize (v4.alloc (.cells #[.int .i64 0, .int .i64 0, .slice none 0 0, .slice none 0 0, .slice none 0 0] 29)) = v5 at hb hN hHeld hzz h_HB h_XA h_ZR h_LL h_TT ⊢
              have HB_5 : Hid (Below w.heap.size w v5) := h_HB
              have XA_5 : Hid (X5 v5 w.heap.size (.int .i64 f) (.int .i64 e) (.slice sa sn sc) (.slice la ln lc) (.slice ta tn tc)) := h_XA
              have ZR_5 : Hid (X5 v5 (w.heap.size + 1) (.int .i64 0) (.int .i64 0) (.slice none 0 0) (.slice none 0 0) (.slice none 0 0)) := h_ZR
              have LL_5 : Hid (Own v5 (w.heap.size + 2) (.slice a7 ln c7) li) := h_LL
              have TT_5 : Hid (Own v5 (w.heap.size + 2) (.slice a11 tn c11) ls) := h_TT
              have XX_5 : Hid (X5 v5 v4.heap.size (.int .i64 0) (.int .i64 0) (.slice none 0 0) (.slice none 0 0) (.slice none 0 0)) := hN
              clear hb hN h_HB h_XA h_ZR h_LL h_TT HB_4 XA_4 ZR_4 LL_4 TT_4
              refine wpAnyH_ready (rs := [14]) (by kernel_rfl) (by simp) ?_
              refine AllReadyH.cons (o := _) rfl (fun K hK => ?_) AllReadyH.nil
              obtain ⟨V, hVV⟩ : ∃ V, (((((v5.setCell ⟨v4.heap.size, 0, none⟩ (.int .i64 f)).setCell ⟨v4.heap.size, 1, none⟩ (.int .i64 e)).setCell ⟨v4.heap.size, 2, none⟩ (.slice none 0 0)).setCell ⟨v4.heap.size, 3, none⟩ (.slice a7 ln c7)).setCell ⟨v4.heap.size, 4, none⟩ (.slice a11 tn c11)) = V := ⟨_, rfl⟩
              have hHC := ownCut_of w v5 V (v4.heap.size) f e sa sn sc la ln lc ta tn tc li ls a7 c7 a11 c11 hVV XX_5.out XA_5.out ZR_5.out LL_5.out TT_5.out HB_5.out (fun k h k2 h2 => by have := I_LL.out k h; have := I_TT.out k2 h2; have := K_LL.out k h; have := K_TT.out k2 h2; omega) (fun k h => by have := I_LL.out k h; have := K_LL.out k h; omega) (fun k h => by have := I_TT.out k h; have := K_TT.out k h; omega) (by omega)
              obtain ⟨⟨u0, u1, u2, u3, u4⟩, uf⟩ := XX_5.out
              have uf0 := uf 0
              have uf1 := uf 1
              have uf2 := uf 2
              have uf3 := uf 3
              have uf4 := uf 4
              have HXF : Hid (X5 V w.heap.size (.int .i64 f) (.int .i64 e) (.slice sa sn sc) (.slice la ln lc) (.slice ta tn tc)) := hHC.1
              have HCT := hHC.2 (.pointer (some ⟨v4.heap.size, 0, none⟩)) rfl
              clear hHC uf
              go_simp
              refine hK.out _ _ ?_ (fun hHeld => ?_)
              · exact HXF.out.1
              clear hK K
              try simp only [Act.put, List.setIfInBounds_toArray, List.set_cons_zero, List.set_cons_succ]
              refine wpAnyH_done (by kernel_rfl) ?_ _
              clear hHeld
              go_wp2_with fail
              go_meet
              exact HCT.out
          case cw34 =>
            go_simp
            have hb : Below v3.heap.size v3 (v3.alloc (.cells #[.int .i64 0, .int .i64 0, .slice none 0 0, .slice none 0 0, .slice none 0 0] 29)) := balloc _ _
            have hN := x5_new v3 (.int .i64 0) (.int .i64 0) (.slice none 0 0) (.slice none 0 0) (.slice none 0 0) 29 v3.heap.size rfl
            have hzz : v3.heap.size + 1 ≤ (v3.alloc (.cells #[.int .i64 0, .int .i64 0, .slice none 0 0, .slice none 0 0, .slice none 0 0] 29)).heap.size := by simp
            have h_HB := HB_3.out.trans (hb.mono HB_3.out.size)
            have h_XA := XA_3.out.later hb
            have h_ZR := ZR_3.out.later hb
            have h_E8 := E8_3.out.later hb
            have h_LL := LL_3.out.later hb
            refine hK.out _ _ ?_ (fun hHeld => ?_)
            · exact h_XA.1
            clear hK K
            try simp only [Act.put, List.setIfInBounds_toArray, List.set_cons_zero, List.set_cons_succ]
            generalize (v3.alloc (.cells #[.int .i64 0, .int .i64 0, .slice none 0 0, .slice none 0 0, .slice none 0 0] 29)) = v4 at hb hN hHeld hzz h_HB h_XA h_ZR h_E8 h_LL ⊢
            have HB_4 : Hid (Below w.heap.size w v4) := h_HB
            have XA_4 : Hid (X5 v4 w.heap.size (.int .i64 f) (.int .i64 e) (.slice sa sn sc) (.slice la ln lc) (.slice ta tn tc)) := h_XA
            have ZR_4 : Hid (X5 v4 (w.heap.size + 1) (.int .i64 0) (.int .i64 0) (.slice none 0 0) (.slice none 0 0) (.slice none 0 0)) := h_ZR
            have E8_4 : Hid (Own v4 v0.heap.size (.slice (some ⟨v0.heap.size, 0, none⟩) 0 0) []) := h_E8
            have LL_4 : Hid (Own v4 (w.heap.size + 2) (.slice a7 ln c7) li) := h_LL
            have XX_4 : Hid (X5 v4 v3.heap.size (.int .i64 0) (.int .i64 0) (.slice none 0 0) (.slice none 0 0) (.slice none 0 0)) := hN
            clear hb hN h_HB h_XA h_ZR h_E8 h_LL HB_3 XA_3 ZR_3 E8_3 LL_3
            refine wpAnyH_ready (rs := [11]) (by kernel_rfl) (by simp) ?_
            refine AllReadyH.cons (o := _) rfl (fun K hK => ?cw36) AllReadyH.nil
            case cw36 =>
              rw [if_pos (by rfl)]
              obtain ⟨a11, c11, v5, r1, o1, hg, hw⟩ := appendI_at v4 (v0.heap.size) ls ta tn tc E8_4.out (HRT.out _ HB_4.out) HT.out HTZ.out (by omega) (by omega)
              have hzz : v4.heap.size ≤ v5.heap.size := hg.size
              have HB_5 : Hid (Below w.heap.size w v5) := Below.grown HB_4.out hg (by omega) (fun k e => by have := Option.some.inj e; omega)
              have XA_5 : Hid (X5 v5 w.heap.size (.int .i64 f) (.int .i64 e) (.slice sa sn sc) (.slice la ln lc) (.slice ta tn tc)) := XA_4.out.grown hg (fun e => by have := Option.some.inj e; omega)
              have ZR_5 : Hid (X5 v5 (w.heap.size + 1) (.int .i64 0) (.int .i64 0) (.slice none 0 0) (.slice none 0 0) (.slice none 0 0)) := ZR_4.out.grown hg (fun e => by have := Option.some.inj e; omega)
              have LL_5 : Hid (Own v5 (w.heap.size + 2) (.slice a7 ln c7) li) := LL_4.out.kept hg (sep_ne (fun k h => by have := I_LL.out k h; have := K_LL.out k h; omega))
              have XX_5 : Hid (X5 v5 v3.heap.size (.int .i64 0) (.int .i64 0) (.slice none 0 0) (.slice none 0 0) (.slice none 0 0)) := XX_4.out.grown hg (fun e => by have := Option.some.inj e; omega)
              have TT_5 : Hid (Own v5 (w.heap.size + 2) (.slice a11 tn c11) ls) := o1.mono (by omega)
              have I_TT : Hid (∀ k, (Value.slice a11 tn c11).ownBlock = some k → k = v0.heap.size ∨ k = v4.heap.size) := hw
              have K_TT : Hid (∀ k, (Value.slice a11 tn c11).ownBlock = some k → k < v5.heap.size) := fun k h => (World.ownsRow.lt o1 k h).2
              refine Lib.wp_append_run _ _ _ _ _ rfl (.slice (some ⟨v0.heap.size, 0, none⟩) 0 0) (.slice ta tn tc) (by rfl) (by rfl) (.slice a11 tn c11) v5 (r1 _) ?_
              refine hK.out _ _ ?_ (fun hHeld => ?_)
              · exact XA_5.out.1
              clear hK K r1 o1 hg hw HB_4 XA_4 ZR_4 E8_4 LL_4 XX_4
              try simp only [Act.put, List.setIfInBounds_toArray, List.set_cons_zero, List.set_cons_succ]
              refine takeV13 (i := 12) (oi := _) (v := ?_) (d := some 18) rfl (by kernel_rfl) (by kernel_rfl) (by kernel_rfl) (by kernel_rfl) (fun _ _ _ h => h) (Or.inl ⟨by rfl, ?_⟩) (by assumption) ?_
              rotate_left
              · (intro w hSw; (try dsimp only at hSw); go_simp <;> with_reducible rfl)
              try simp only [Act.put, List.setIfInBounds_toArray, List.set_cons_zero, List.set_cons_succ]
              refine wpAnyH_ready (rs := [14]) (by kernel_rfl) (by simp) ?_
              refine AllReadyH.cons (o := _) rfl (fun K hK => ?_) AllReadyH.nil
              obtain ⟨V, hVV⟩ : ∃ V, (((((v5.setCell ⟨v3.heap.size, 0, none⟩ (.int .i64 f)).setCell ⟨v3.heap.size, 1, none⟩ (.int .i64 e)).setCell ⟨v3.heap.size, 2, none⟩ (.slice none 0 0)).setCell ⟨v3.heap.size, 3, none⟩ (.slice a7 ln c7)).setCell ⟨v3.heap.size, 4, none⟩ (.slice a11 tn c11)) = V := ⟨_, rfl⟩
              have hHC := ownCut_of w v5 V (v3.heap.size) f e sa sn sc la ln lc ta tn tc li ls a7 c7 a11 c11 hVV XX_5.out XA_5.out ZR_5.out LL_5.out TT_5.out HB_5.out (fun k h k2 h2 => by have := I_LL.out k h; have := I_TT.out k2 h2; have := K_LL.out k h; have := K_TT.out k2 h2; omega) (fun k h => by have := I_LL.out k h; have := K_LL.out k h; omega) (fun k h => by have := I_TT.out k h; have := K_TT.out k h; omega) (by omega)
              obtain ⟨⟨u0, u1, u2, u3, u4⟩, uf⟩ := XX_5.out
              have uf0 := uf 0
              have uf1 := uf 1
              have uf2 := uf 2
              have uf3 := uf 3
              have uf4 := uf 4
              have HXF : Hid (X5 V w.heap.size (.int .i64 f) (.int .i64 e) (.slice sa sn sc) (.slice la ln lc) (.slice ta tn tc)) := hHC.1
              have HCT := hHC.2 (.pointer (some ⟨v3.heap.size, 0, none⟩)) rfl
              clear hHC uf
              go_simp
              refine hK.out _ _ ?_ (fun hHeld => ?_)
              · exact HXF.out.1
              clear hK K
              try simp only [Act.put, List.setIfInBounds_toArray, List.set_cons_zero, List.set_cons_succ]
              refine wpAnyH_done (by kernel_rfl) ?_ _
              clear hHeld
              go_wp2_with fail
              go_meet
              exact HCT.out
        case cw32 =>
          go_simp
          have hb : Below v2.heap.size v2 (v2.alloc (.cells #[.int .i64 0, .int .i64 0, .slice none 0 0, .slice none 0 0, .slice none 0 0] 29)) := balloc _ _
          have hN := x5_new v2 (.int .i64 0) (.int .i64 0) (.slice none 0 0) (.slice none 0 0) (.slice none 0 0) 29 v2.heap.size rfl
          have hzz : v2.heap.size + 1 ≤ (v2.alloc (.cells #[.int .i64 0, .int .i64 0, .slice none 0 0, .slice none 0 0, .slice none 0 0] 29)).heap.size := by simp
          have h_HB := HB_2.out.trans (hb.mono HB_2.out.size)
          have h_XA := XA_2.out.later hb
          have h_ZR := ZR_2.out.later hb
          have h_E8 := E8_2.out.later hb
          have h_E4 := E4_2.out.later hb
          refine hK.out _ _ ?_ (fun hHeld => ?_)
          · exact h_XA.1
          clear hK K
          try simp only [Act.put, List.setIfInBounds_toArray, List.set_cons_zero, List.set_cons_succ]
          generalize (v2.alloc (.cells #[.int .i64 0, .int .i64 0, .slice none 0 0, .slice none 0 0, .slice none 0 0] 29)) = v3 at hb hN hHeld hzz h_HB h_XA h_ZR h_E8 h_E4 ⊢
          have HB_3 : Hid (Below w.heap.size w v3) := h_HB
          have XA_3 : Hid (X5 v3 w.heap.size (.int .i64 f) (.int .i64 e) (.slice sa sn sc) (.slice la ln lc) (.slice ta tn tc)) := h_XA
          have ZR_3 : Hid (X5 v3 (w.heap.size + 1) (.int .i64 0) (.int .i64 0) (.slice none 0 0) (.slice none 0 0) (.slice none 0 0)) := h_ZR
          have E8_3 : Hid (Own v3 v0.heap.size (.slice (some ⟨v0.heap.size, 0, none⟩) 0 0) []) := h_E8
          have E4_3 : Hid (Own v3 v1.heap.size (.slice (some ⟨v1.heap.size, 0, none⟩) 0 0) []) := h_E4
          have XX_3 : Hid (X5 v3 v2.heap.size (.int .i64 0) (.int .i64 0) (.slice none 0 0) (.slice none 0 0) (.slice none 0 0)) := hN
          clear hb hN h_HB h_XA h_ZR h_E8 h_E4 HB_2 XA_2 ZR_2 E8_2 E4_2
          refine wpAnyH_ready (rs := [7]) (by kernel_rfl) (by simp) ?_
          refine AllReadyH.cons (o := _) rfl (fun K hK => ?cw37) AllReadyH.nil
          case cw37 =>
            rw [if_pos (by rfl)]
            obtain ⟨a7, c7, v4, r1, o1, hg, hw⟩ := appendI_at v3 (v1.heap.size) li la ln lc E4_3.out (HRL.out _ HB_3.out) HL.out HLZ.out (by omega) (by omega)
            have hzz : v3.heap.size ≤ v4.heap.size := hg.size
            have HB_4 : Hid (Below w.heap.size w v4) := Below.grown HB_3.out hg (by omega) (fun k e => by have := Option.some.inj e; omega)
            have XA_4 : Hid (X5 v4 w.heap.size (.int .i64 f) (.int .i64 e) (.slice sa sn sc) (.slice la ln lc) (.slice ta tn tc)) := XA_3.out.grown hg (fun e => by have := Option.some.inj e; omega)
            have ZR_4 : Hid (X5 v4 (w.heap.size + 1) (.int .i64 0) (.int .i64 0) (.slice none 0 0) (.slice none 0 0) (.slice none 0 0)) := ZR_3.out.grown hg (fun e => by have := Option.some.inj e; omega)
            have E8_4 : Hid (Own v4 v0.heap.size (.slice (some ⟨v0.heap.size, 0, none⟩) 0 0) []) := E8_3.out.kept hg (sep_ne (fun k h => by simp only [Value.ownBlock, Option.some.injEq] at h; omega))
            have XX_4 : Hid (X5 v4 v2.heap.size (.int .i64 0) (.int .i64 0) (.slice none 0 0) (.slice none 0 0) (.slice none 0 0)) := XX_3.out.grown hg (fun e => by have := Option.some.inj e; omega)
            have LL_4 : Hid (Own v4 (w.heap.size + 2) (.slice a7 ln c7) li) := o1.mono (by omega)
            have I_LL : Hid (∀ k, (Value.slice a7 ln c7).ownBlock = some k → k = v1.heap.size ∨ k = v3.heap.size) := hw
            have K_LL : Hid (∀ k, (Value.slice a7 ln c7).ownBlock = some k → k < v4.heap.size) := fun k h => (World.ownsRow.lt o1 k h).2
            refine Lib.wp_append_run _ _ _ _ _ rfl (.slice (some ⟨v1.heap.size, 0, none⟩) 0 0) (.slice la ln lc) (by rfl) (by rfl) (.slice a7 ln c7) v4 (r1 _) ?_
            refine hK.out _ _ ?_ (fun hHeld => ?_)
            · exact XA_4.out.1
            clear hK K r1 o1 hg hw HB_3 XA_3 ZR_3 E8_3 E4_3 XX_3
            try simp only [Act.put, List.setIfInBounds_toArray, List.set_cons_zero, List.set_cons_succ]
            refine wpAnyH_ready (rs := [11]) (by kernel_rfl) (by simp) ?_
            refine AllReadyH.cons (o := _) rfl (fun K hK => ?cw38) AllReadyH.nil
            case cw38 =>
              rw [if_pos (by rfl)]
              obtain ⟨a11, c11, v5, r1, o1, hg, hw⟩ := appendI_at v4 (v0.heap.size) ls ta tn tc E8_4.out (HRT.out _ HB_4.out) HT.out HTZ.out (by omega) (by omega)
              have hzz : v4.heap.size ≤ v5.heap.size := hg.size
              have HB_5 : Hid (Below w.heap.size w v5) := Below.grown HB_4.out hg (by omega) (fun k e => by have := Option.some.inj e; omega)
              have XA_5 : Hid (X5 v5 w.heap.size (.int .i64 f) (.int .i64 e) (.slice sa sn sc) (.slice la ln lc) (.slice ta tn tc)) := XA_4.out.grown hg (fun e => by have := Option.some.inj e; omega)
              have ZR_5 : Hid (X5 v5 (w.heap.size + 1) (.int .i64 0) (.int .i64 0) (.slice none 0 0) (.slice none 0 0) (.slice none 0 0)) := ZR_4.out.grown hg (fun e => by have := Option.some.inj e; omega)
              have XX_5 : Hid (X5 v5 v2.heap.size (.int .i64 0) (.int .i64 0) (.slice none 0 0) (.slice none 0 0) (.slice none 0 0)) := XX_4.out.grown hg (fun e => by have := Option.some.inj e; omega)
              have LL_5 : Hid (Own v5 (w.heap.size + 2) (.slice a7 ln c7) li) := LL_4.out.kept hg (sep_ne (fun k h => by have := I_LL.out k h; have := K_LL.out k h; omega))
              have TT_5 : Hid (Own v5 (w.heap.size + 2) (.slice a11 tn c11) ls) := o1.mono (by omega)
              have I_TT : Hid (∀ k, (Value.slice a11 tn c11).ownBlock = some k → k = v0.heap.size ∨ k = v4.heap.size) := hw
              have K_TT : Hid (∀ k, (Value.slice a11 tn c11).ownBlock = some k → k < v5.heap.size) := fun k h => (World.ownsRow.lt o1 k h).2
              refine Lib.wp_append_run _ _ _ _ _ rfl (.slice (some ⟨v0.heap.size, 0, none⟩) 0 0) (.slice ta tn tc) (by rfl) (by rfl) (.slice a11 tn c11) v5 (r1 _) ?_
              refine hK.out _ _ ?_ (fun hHeld => ?_)
              · exact XA_5.out.1
              clear hK K r1 o1 hg hw HB_4 XA_4 ZR_4 E8_4 XX_4 LL_4
              try simp only [Act.put, List.setIfInBounds_toArray, List.set_cons_zero, List.set_cons_succ]
              refine takeV13 (i := 12) (oi := _) (v := ?_) (d := some 18) rfl (by kernel_rfl) (by kernel_rfl) (by kernel_rfl) (by kernel_rfl) (fun _ _ _ h => h) (Or.inl ⟨by rfl, ?_⟩) (by assumption) ?_
              rotate_left
              · (intro w hSw; (try dsimp only at hSw); go_simp <;> with_reducible rfl)
              try simp only [Act.put, List.setIfInBounds_toArray, List.set_cons_zero, List.set_cons_succ]
              refine wpAnyH_ready (rs := [14]) (by kernel_rfl) (by simp) ?_
              refine AllReadyH.cons (o := _) rfl (fun K hK => ?_) AllReadyH.nil
              obtain ⟨V, hVV⟩ : ∃ V, (((((v5.setCell ⟨v2.heap.size, 0, none⟩ (.int .i64 f)).setCell ⟨v2.heap.size, 1, none⟩ (.int .i64 e)).setCell ⟨v2.heap.size, 2, none⟩ (.slice none 0 0)).setCell ⟨v2.heap.size, 3, none⟩ (.slice a7 ln c7)).setCell ⟨v2.heap.size, 4, none⟩ (.slice a11 tn c11)) = V := ⟨_, rfl⟩
              have hHC := ownCut_of w v5 V (v2.heap.size) f e sa sn sc la ln lc ta tn tc li ls a7 c7 a11 c11 hVV XX_5.out XA_5.out ZR_5.out LL_5.out TT_5.out HB_5.out (fun k h k2 h2 => by have := I_LL.out k h; have := I_TT.out k2 h2; have := K_LL.out k h; have := K_TT.out k2 h2; omega) (fun k h => by have := I_LL.out k h; have := K_LL.out k h; omega) (fun k h => by have := I_TT.out k h; have := K_TT.out k h; omega) (by omega)
              obtain ⟨⟨u0, u1, u2, u3, u4⟩, uf⟩ := XX_5.out
              have uf0 := uf 0
              have uf1 := uf 1
              have uf2 := uf 2
              have uf3 := uf 3
              have uf4 := uf 4
              have HXF : Hid (X5 V w.heap.size (.int .i64 f) (.int .i64 e) (.slice sa sn sc) (.slice la ln lc) (.slice ta tn tc)) := hHC.1
              have HCT := hHC.2 (.pointer (some ⟨v2.heap.size, 0, none⟩)) rfl
              clear hHC uf
              go_simp
              refine hK.out _ _ ?_ (fun hHeld => ?_)
              · exact HXF.out.1
              clear hK K
              try simp only [Act.put, List.setIfInBounds_toArray, List.set_cons_zero, List.set_cons_succ]
              refine wpAnyH_done (by kernel_rfl) ?_ _
              clear hHeld
              go_wp2_with fail
              go_meet
              exact HCT.out
      case cw30 =>
        go_simp
        have hb : Below v1.heap.size v1 (v1.alloc (.cells #[.int .i64 0, .int .i64 0, .slice none 0 0, .slice none 0 0, .slice none 0 0] 29)) := balloc _ _
        have hN := x5_new v1 (.int .i64 0) (.int .i64 0) (.slice none 0 0) (.slice none 0 0) (.slice none 0 0) 29 v1.heap.size rfl
        have hzz : v1.heap.size + 1 ≤ (v1.alloc (.cells #[.int .i64 0, .int .i64 0, .slice none 0 0, .slice none 0 0, .slice none 0 0] 29)).heap.size := by simp
        have h_HB := HB_1.out.trans (hb.mono HB_1.out.size)
        have h_XA := XA_1.out.later hb
        have h_ZR := ZR_1.out.later hb
        have h_E8 := E8_1.out.later hb
        refine hK.out _ _ ?_ (fun hHeld => ?_)
        · exact h_XA.1
        clear hK K
        try simp only [Act.put, List.setIfInBounds_toArray, List.set_cons_zero, List.set_cons_succ]
        generalize (v1.alloc (.cells #[.int .i64 0, .int .i64 0, .slice none 0 0, .slice none 0 0, .slice none 0 0] 29)) = v2 at hb hN hHeld hzz h_HB h_XA h_ZR h_E8 ⊢
        have HB_2 : Hid (Below w.heap.size w v2) := h_HB
        have XA_2 : Hid (X5 v2 w.heap.size (.int .i64 f) (.int .i64 e) (.slice sa sn sc) (.slice la ln lc) (.slice ta tn tc)) := h_XA
        have ZR_2 : Hid (X5 v2 (w.heap.size + 1) (.int .i64 0) (.int .i64 0) (.slice none 0 0) (.slice none 0 0) (.slice none 0 0)) := h_ZR
        have E8_2 : Hid (Own v2 v0.heap.size (.slice (some ⟨v0.heap.size, 0, none⟩) 0 0) []) := h_E8
        have XX_2 : Hid (X5 v2 v1.heap.size (.int .i64 0) (.int .i64 0) (.slice none 0 0) (.slice none 0 0) (.slice none 0 0)) := hN
        clear hb hN h_HB h_XA h_ZR h_E8 HB_1 XA_1 ZR_1 E8_1
        refine wpAnyH_ready (rs := [4]) (by kernel_rfl) (by simp) ?_
        refine AllReadyH.cons (o := _) rfl (fun K hK => ?cw39) AllReadyH.nil
        case cw39 =>
          go_simp
          have hb : Below v2.heap.size v2 (v2.alloc (.cells #[] 3)) := balloc _ _
          have hN := emptyI v2
          have hzz : v2.heap.size + 1 ≤ (v2.alloc (.cells #[] 3)).heap.size := by simp
          have h_HB := HB_2.out.trans (hb.mono HB_2.out.size)
          have h_XA := XA_2.out.later hb
          have h_ZR := ZR_2.out.later hb
          have h_E8 := E8_2.out.later hb
          have h_XX := XX_2.out.later hb
          refine hK.out _ _ ?_ (fun hHeld => ?_)
          · exact h_XA.1
          clear hK K
          try simp only [Act.put, List.setIfInBounds_toArray, List.set_cons_zero, List.set_cons_succ]
          generalize (v2.alloc (.cells #[] 3)) = v3 at hb hN hHeld hzz h_HB h_XA h_ZR h_E8 h_XX ⊢
          have HB_3 : Hid (Below w.heap.size w v3) := h_HB
          have XA_3 : Hid (X5 v3 w.heap.size (.int .i64 f) (.int .i64 e) (.slice sa sn sc) (.slice la ln lc) (.slice ta tn tc)) := h_XA
          have ZR_3 : Hid (X5 v3 (w.heap.size + 1) (.int .i64 0) (.int .i64 0) (.slice none 0 0) (.slice none 0 0) (.slice none 0 0)) := h_ZR
          have E8_3 : Hid (Own v3 v0.heap.size (.slice (some ⟨v0.heap.size, 0, none⟩) 0 0) []) := h_E8
          have XX_3 : Hid (X5 v3 v1.heap.size (.int .i64 0) (.int .i64 0) (.slice none 0 0) (.slice none 0 0) (.slice none 0 0)) := h_XX
          have E4_3 : Hid (Own v3 v2.heap.size (.slice (some ⟨v2.heap.size, 0, none⟩) 0 0) []) := hN
          clear hb hN h_HB h_XA h_ZR h_E8 h_XX HB_2 XA_2 ZR_2 E8_2 XX_2
          refine wpAnyH_ready (rs := [7]) (by kernel_rfl) (by simp) ?_
          refine AllReadyH.cons (o := _) rfl (fun K hK => ?cw40) AllReadyH.nil
          case cw40 =>
            rw [if_pos (by rfl)]
            obtain ⟨a7, c7, v4, r1, o1, hg, hw⟩ := appendI_at v3 (v2.heap.size) li la ln lc E4_3.out (HRL.out _ HB_3.out) HL.out HLZ.out (by omega) (by omega)
            have hzz : v3.heap.size ≤ v4.heap.size := hg.size
            have HB_4 : Hid (Below w.heap.size w v4) := Below.grown HB_3.out hg (by omega) (fun k e => by have := Option.some.inj e; omega)
            have XA_4 : Hid (X5 v4 w.heap.size (.int .i64 f) (.int .i64 e) (.slice sa sn sc) (.slice la ln lc) (.slice ta tn tc)) := XA_3.out.grown hg (fun e => by have := Option.some.inj e; omega)
            have ZR_4 : Hid (X5 v4 (w.heap.size + 1) (.int .i64 0) (.int .i64 0) (.slice none 0 0) (.slice none 0 0) (.slice none 0 0)) := ZR_3.out.grown hg (fun e => by have := Option.some.inj e; omega)
            have E8_4 : Hid (Own v4 v0.heap.size (.slice (some ⟨v0.heap.size, 0, none⟩) 0 0) []) := E8_3.out.kept hg (sep_ne (fun k h => by simp only [Value.ownBlock, Option.some.injEq] at h; omega))
            have XX_4 : Hid (X5 v4 v1.heap.size (.int .i64 0) (.int .i64 0) (.slice none 0 0) (.slice none 0 0) (.slice none 0 0)) := XX_3.out.grown hg (fun e => by have := Option.some.inj e; omega)
            have LL_4 : Hid (Own v4 (w.heap.size + 2) (.slice a7 ln c7) li) := o1.mono (by omega)
            have I_LL : Hid (∀ k, (Value.slice a7 ln c7).ownBlock = some k → k = v2.heap.size ∨ k = v3.heap.size) := hw
            have K_LL : Hid (∀ k, (Value.slice a7 ln c7).ownBlock = some k → k < v4.heap.size) := fun k h => (World.ownsRow.lt o1 k h).2
            refine Lib.wp_append_run _ _ _ _ _ rfl (.slice (some ⟨v2.heap.size, 0, none⟩) 0 0) (.slice la ln lc) (by rfl) (by rfl) (.slice a7 ln c7) v4 (r1 _) ?_
            refine hK.out _ _ ?_ (fun hHeld => ?_)
            · exact XA_4.out.1
            clear hK K r1 o1 hg hw HB_3 XA_3 ZR_3 E8_3 XX_3 E4_3
            try simp only [Act.put, List.setIfInBounds_toArray, List.set_cons_zero, List.set_cons_succ]
            refine wpAnyH_ready (rs := [11]) (by kernel_rfl) (by simp) ?_
            refine AllReadyH.cons (o := _) rfl (fun K hK => ?cw41) AllReadyH.nil
            case cw41 =>
              rw [if_pos (by rfl)]
              obtain ⟨a11, c11, v5, r1, o1, hg, hw⟩ := appendI_at v4 (v0.heap.size) ls ta tn tc E8_4.out (HRT.out _ HB_4.out) HT.out HTZ.out (by omega) (by omega)
              have hzz : v4.heap.size ≤ v5.heap.size := hg.size
              have HB_5 : Hid (Below w.heap.size w v5) := Below.grown HB_4.out hg (by omega) (fun k e => by have := Option.some.inj e; omega)
              have XA_5 : Hid (X5 v5 w.heap.size (.int .i64 f) (.int .i64 e) (.slice sa sn sc) (.slice la ln lc) (.slice ta tn tc)) := XA_4.out.grown hg (fun e => by have := Option.some.inj e; omega)
              have ZR_5 : Hid (X5 v5 (w.heap.size + 1) (.int .i64 0) (.int .i64 0) (.slice none 0 0) (.slice none 0 0) (.slice none 0 0)) := ZR_4.out.grown hg (fun e => by have := Option.some.inj e; omega)
              have XX_5 : Hid (X5 v5 v1.heap.size (.int .i64 0) (.int .i64 0) (.slice none 0 0) (.slice none 0 0) (.slice none 0 0)) := XX_4.out.grown hg (fun e => by have := Option.some.inj e; omega)
              have LL_5 : Hid (Own v5 (w.heap.size + 2) (.slice a7 ln c7) li) := LL_4.out.kept hg (sep_ne (fun k h => by have := I_LL.out k h; have := K_LL.out k h; omega))
              have TT_5 : Hid (Own v5 (w.heap.size + 2) (.slice a11 tn c11) ls) := o1.mono (by omega)
              have I_TT : Hid (∀ k, (Value.slice a11 tn c11).ownBlock = some k → k = v0.heap.size ∨ k = v4.heap.size) := hw
              have K_TT : Hid (∀ k, (Value.slice a11 tn c11).ownBlock = some k → k < v5.heap.size) := fun k h => (World.ownsRow.lt o1 k h).2
              refine Lib.wp_append_run _ _ _ _ _ rfl (.slice (some ⟨v0.heap.size, 0, none⟩) 0 0) (.slice ta tn tc) (by rfl) (by rfl) (.slice a11 tn c11) v5 (r1 _) ?_
              refine hK.out _ _ ?_ (fun hHeld => ?_)
              · exact XA_5.out.1
              clear hK K r1 o1 hg hw HB_4 XA_4 ZR_4 E8_4 XX_4 LL_4
              try simp only [Act.put, List.setIfInBounds_toArray, List.set_cons_zero, List.set_cons_succ]
              refine takeV13 (i := 12) (oi := _) (v := ?_) (d := some 18) rfl (by kernel_rfl) (by kernel_rfl) (by kernel_rfl) (by kernel_rfl) (fun _ _ _ h => h) (Or.inl ⟨by rfl, ?_⟩) (by assumption) ?_
              rotate_left
              · (intro w hSw; (try dsimp only at hSw); go_simp <;> with_reducible rfl)
              try simp only [Act.put, List.setIfInBounds_toArray, List.set_cons_zero, List.set_cons_succ]
              refine wpAnyH_ready (rs := [14]) (by kernel_rfl) (by simp) ?_
              refine AllReadyH.cons (o := _) rfl (fun K hK => ?_) AllReadyH.nil
              obtain ⟨V, hVV⟩ : ∃ V, (((((v5.setCell ⟨v1.heap.size, 0, none⟩ (.int .i64 f)).setCell ⟨v1.heap.size, 1, none⟩ (.int .i64 e)).setCell ⟨v1.heap.size, 2, none⟩ (.slice none 0 0)).setCell ⟨v1.heap.size, 3, none⟩ (.slice a7 ln c7)).setCell ⟨v1.heap.size, 4, none⟩ (.slice a11 tn c11)) = V := ⟨_, rfl⟩
              have hHC := ownCut_of w v5 V (v1.heap.size) f e sa sn sc la ln lc ta tn tc li ls a7 c7 a11 c11 hVV XX_5.out XA_5.out ZR_5.out LL_5.out TT_5.out HB_5.out (fun k h k2 h2 => by have := I_LL.out k h; have := I_TT.out k2 h2; have := K_LL.out k h; have := K_TT.out k2 h2; omega) (fun k h => by have := I_LL.out k h; have := K_LL.out k h; omega) (fun k h => by have := I_TT.out k h; have := K_TT.out k h; omega) (by omega)
              obtain ⟨⟨u0, u1, u2, u3, u4⟩, uf⟩ := XX_5.out
              have uf0 := uf 0
              have uf1 := uf 1
              have uf2 := uf 2
              have uf3 := uf 3
              have uf4 := uf 4
              have HXF : Hid (X5 V w.heap.size (.int .i64 f) (.int .i64 e) (.slice sa sn sc) (.slice la ln lc) (.slice ta tn tc)) := hHC.1
              have HCT := hHC.2 (.pointer (some ⟨v1.heap.size, 0, none⟩)) rfl
              clear hHC uf
              go_simp
              refine hK.out _ _ ?_ (fun hHeld => ?_)
              · exact HXF.out.1
              clear hK K
              try simp only [Act.put, List.setIfInBounds_toArray, List.set_cons_zero, List.set_cons_succ]
              refine wpAnyH_done (by kernel_rfl) ?_ _
              clear hHeld
              go_wp2_with fail
              go_meet
              exact HCT.out
    case cw3 =>
      go_simp
      have hb : Below v0.heap.size v0 (v0.alloc (.cells #[.int .i64 0, .int .i64 0, .slice none 0 0, .slice none 0 0, .slice none 0 0] 29)) := balloc _ _
      have hN := x5_new v0 (.int .i64 0) (.int .i64 0) (.slice none 0 0) (.slice none 0 0) (.slice none 0 0) 29 v0.heap.size rfl
      have hzz : v0.heap.size + 1 ≤ (v0.alloc (.cells #[.int .i64 0, .int .i64 0, .slice none 0 0, .slice none 0 0, .slice none 0 0] 29)).heap.size := by simp
      have h_HB := HB_0.out.trans (hb.mono HB_0.out.size)
      have h_XA := XA_0.out.later hb
      have h_ZR := ZR_0.out.later hb
      refine hK.out _ _ ?_ (fun hHeld => ?_)
      · exact h_XA.1
      clear hK K
      try simp only [Act.put, List.setIfInBounds_toArray, List.set_cons_zero, List.set_cons_succ]
      generalize (v0.alloc (.cells #[.int .i64 0, .int .i64 0, .slice none 0 0, .slice none 0 0, .slice none 0 0] 29)) = v1 at hb hN hHeld hzz h_HB h_XA h_ZR ⊢
      have HB_1 : Hid (Below w.heap.size w v1) := h_HB
      have XA_1 : Hid (X5 v1 w.heap.size (.int .i64 f) (.int .i64 e) (.slice sa sn sc) (.slice la ln lc) (.slice ta tn tc)) := h_XA
      have ZR_1 : Hid (X5 v1 (w.heap.size + 1) (.int .i64 0) (.int .i64 0) (.slice none 0 0) (.slice none 0 0) (.slice none 0 0)) := h_ZR
      have XX_1 : Hid (X5 v1 v0.heap.size (.int .i64 0) (.int .i64 0) (.slice none 0 0) (.slice none 0 0) (.slice none 0 0)) := hN
      clear hb hN h_HB h_XA h_ZR HB_0 XA_0 ZR_0
      refine wpAnyH_ready (rs := [4, 8]) (by kernel_rfl) (by simp) ?_
      refine AllReadyH.cons (o := _) rfl (fun K hK => ?cw42) (AllReadyH.cons (o := _) rfl (fun K hK => ?cw43) AllReadyH.nil)
      case cw42 =>
        go_simp
        have hb : Below v1.heap.size v1 (v1.alloc (.cells #[] 3)) := balloc _ _
        have hN := emptyI v1
        have hzz : v1.heap.size + 1 ≤ (v1.alloc (.cells #[] 3)).heap.size := by simp
        have h_HB := HB_1.out.trans (hb.mono HB_1.out.size)
        have h_XA := XA_1.out.later hb
        have h_ZR := ZR_1.out.later hb
        have h_XX := XX_1.out.later hb
        refine hK.out _ _ ?_ (fun hHeld => ?_)
        · exact h_XA.1
        clear hK K
        try simp only [Act.put, List.setIfInBounds_toArray, List.set_cons_zero, List.set_cons_succ]
        generalize (v1.alloc (.cells #[] 3)) = v2 at hb hN hHeld hzz h_HB h_XA h_ZR h_XX ⊢
        have HB_2 : Hid (Below w.heap.size w v2) := h_HB
        have XA_2 : Hid (X5 v2 w.heap.size (.int .i64 f) (.int .i64 e) (.slice sa sn sc) (.slice la ln lc) (.slice ta tn tc)) := h_XA
        have ZR_2 : Hid (X5 v2 (w.heap.size + 1) (.int .i64 0) (.int .i64 0) (.slice none 0 0) (.slice none 0 0) (.slice none 0 0)) := h_ZR
        have XX_2 : Hid (X5 v2 v0.heap.size (.int .i64 0) (.int .i64 0) (.slice none 0 0) (.slice none 0 0) (.slice none 0 0)) := h_XX
        have E4_2 : Hid (Own v2 v1.heap.size (.slice (some ⟨v1.heap.size, 0, none⟩) 0 0) []) := hN
        clear hb hN h_HB h_XA h_ZR h_XX HB_1 XA_1 ZR_1 XX_1
        refine wpAnyH_ready (rs := [7, 8]) (by kernel_rfl) (by simp) ?_
        refine AllReadyH.cons (o := _) rfl (fun K hK => ?cw44) (AllReadyH.cons (o := _) rfl (fun K hK => ?cw45) AllReadyH.nil)
        case cw44 =>
          rw [if_pos (by rfl)]
          obtain ⟨a7, c7, v3, r1, o1, hg, hw⟩ := appendI_at v2 (v1.heap.size) li la ln lc E4_2.out (HRL.out _ HB_2.out) HL.out HLZ.out (by omega) (by omega)
          have hzz : v2.heap.size ≤ v3.heap.size := hg.size
          have HB_3 : Hid (Below w.heap.size w v3) := Below.grown HB_2.out hg (by omega) (fun k e => by have := Option.some.inj e; omega)
          have XA_3 : Hid (X5 v3 w.heap.size (.int .i64 f) (.int .i64 e) (.slice sa sn sc) (.slice la ln lc) (.slice ta tn tc)) := XA_2.out.grown hg (fun e => by have := Option.some.inj e; omega)
          have ZR_3 : Hid (X5 v3 (w.heap.size + 1) (.int .i64 0) (.int .i64 0) (.slice none 0 0) (.slice none 0 0) (.slice none 0 0)) := ZR_2.out.grown hg (fun e => by have := Option.some.inj e; omega)
          have XX_3 : Hid (X5 v3 v0.heap.size (.int .i64 0) (.int .i64 0) (.slice none 0 0) (.slice none 0 0) (.slice none 0 0)) := XX_2.out.grown hg (fun e => by have := Option.some.inj e; omega)
          have LL_3 : Hid (Own v3 (w.heap.size + 2) (.slice a7 ln c7) li) := o1.mono (by omega)
          have I_LL : Hid (∀ k, (Value.slice a7 ln c7).ownBlock = some k → k = v1.heap.size ∨ k = v2.heap.size) := hw
          have K_LL : Hid (∀ k, (Value.slice a7 ln c7).ownBlock = some k → k < v3.heap.size) := fun k h => (World.ownsRow.lt o1 k h).2
          refine Lib.wp_append_run _ _ _ _ _ rfl (.slice (some ⟨v1.heap.size, 0, none⟩) 0 0) (.slice la ln lc) (by rfl) (by rfl) (.slice a7 ln c7) v3 (r1 _) ?_
          refine hK.out _ _ ?_ (fun hHeld => ?_)
          · exact XA_3.out.1
          clear hK K r1 o1 hg hw HB_2 XA_2 ZR_2 XX_2 E4_2
          try simp only [Act.put, List.setIfInBounds_toArray, List.set_cons_zero, List.set_cons_succ]
          refine wpAnyH_ready (rs := [8]) (by kernel_rfl) (by simp) ?_
          refine AllReadyH.cons (o := _) rfl (fun K hK => ?cw46) AllReadyH.nil
          case cw46 =>
            go_simp
            have hb : Below v3.heap.size v3 (v3.alloc (.cells #[] 3)) := balloc _ _
            have hN := emptyI v3
            have hzz : v3.heap.size + 1 ≤ (v3.alloc (.cells #[] 3)).heap.size := by simp
            have h_HB := HB_3.out.trans (hb.mono HB_3.out.size)
            have h_XA := XA_3.out.later hb
            have h_ZR := ZR_3.out.later hb
            have h_XX := XX_3.out.later hb
            have h_LL := LL_3.out.later hb
            refine hK.out _ _ ?_ (fun hHeld => ?_)
            · exact h_XA.1
            clear hK K
            try simp only [Act.put, List.setIfInBounds_toArray, List.set_cons_zero, List.set_cons_succ]
            generalize (v3.alloc (.cells #[] 3)) = v4 at hb hN hHeld hzz h_HB h_XA h_ZR h_XX h_LL ⊢
            have HB_4 : Hid (Below w.heap.size w v4) := h_HB
            have XA_4 : Hid (X5 v4 w.heap.size (.int .i64 f) (.int .i64 e) (.slice sa sn sc) (.slice la ln lc) (.slice ta tn tc)) := h_XA
            have ZR_4 : Hid (X5 v4 (w.heap.size + 1) (.int .i64 0) (.int .i64 0) (.slice none 0 0) (.slice none 0 0) (.slice none 0 0)) := h_ZR
            have XX_4 : Hid (X5 v4 v0.heap.size (.int .i64 0) (.int .i64 0) (.slice none 0 0) (.slice none 0 0) (.slice none 0 0)) := h_XX
            have LL_4 : Hid (Own v4 (w.heap.size + 2) (.slice a7 ln c7) li) := h_LL
            have E8_4 : Hid (Own v4 v3.heap.size (.slice (some ⟨v3.heap.size, 0, none⟩) 0 0) []) := hN
            clear hb hN h_HB h_XA h_ZR h_XX h_LL HB_3 XA_3 ZR_3 XX_3 LL_3
            refine wpAnyH_ready (rs := [11]) (by kernel_rfl) (by simp) ?_
            refine AllReadyH.cons (o := _) rfl (fun K hK => ?cw47) AllReadyH.nil
            case cw47 =>
              rw [if_pos (by rfl)]
              obtain ⟨a11, c11, v5, r1, o1, hg, hw⟩ := appendI_at v4 (v3.heap.size) ls ta tn tc E8_4.out (HRT.out _ HB_4.out) HT.out HTZ.out (by omega) (by omega)
              have hzz : v4.heap.size ≤ v5.heap.size := hg.size
              have HB_5 : Hid (Below w.heap.size w v5) := Below.grown HB_4.out hg (by omega) (fun k e => by have := Option.some.inj e; omega)
              have XA_5 : Hid (X5 v5 w.heap.size (.int .i64 f) (.int .i64 e) (.slice sa sn sc) (.slice la ln lc) (.slice ta tn tc)) := XA_4.out.grown hg (fun e => by have := Option.some.inj e; omega)
              have ZR_5 : Hid (X5 v5 (w.heap.size + 1) (.int .i64 0) (.int .i64 0) (.slice none 0 0) (.slice none 0 0) (.slice none 0 0)) := ZR_4.out.grown hg (fun e => by have := Option.some.inj e; omega)
              have XX_5 : Hid (X5 v5 v0.heap.size (.int .i64 0) (.int .i64 0) (.slice none 0 0) (.slice none 0 0) (.slice none 0 0)) := XX_4.out.grown hg (fun e => by have := Option.some.inj e; omega)
              have LL_5 : Hid (Own v5 (w.heap.size + 2) (.slice a7 ln c7) li) := LL_4.out.kept hg (sep_ne (fun k h => by have := I_LL.out k h; have := K_LL.out k h; omega))
              have TT_5 : Hid (Own v5 (w.heap.size + 2) (.slice a11 tn c11) ls) := o1.mono (by omega)
              have I_TT : Hid (∀ k, (Value.slice a11 tn c11).ownBlock = some k → k = v3.heap.size ∨ k = v4.heap.size) := hw
              have K_TT : Hid (∀ k, (Value.slice a11 tn c11).ownBlock = some k → k < v5.heap.size) := fun k h => (World.ownsRow.lt o1 k h).2
              refine Lib.wp_append_run _ _ _ _ _ rfl (.slice (some ⟨v3.heap.size, 0, none⟩) 0 0) (.slice ta tn tc) (by rfl) (by rfl) (.slice a11 tn c11) v5 (r1 _) ?_
              refine hK.out _ _ ?_ (fun hHeld => ?_)
              · exact XA_5.out.1
              clear hK K r1 o1 hg hw HB_4 XA_4 ZR_4 XX_4 LL_4 E8_4
              try simp only [Act.put, List.setIfInBounds_toArray, List.set_cons_zero, List.set_cons_succ]
              refine takeV13 (i := 12) (oi := _) (v := ?_) (d := some 18) rfl (by kernel_rfl) (by kernel_rfl) (by kernel_rfl) (by kernel_rfl) (fun _ _ _ h => h) (Or.inl ⟨by rfl, ?_⟩) (by assumption) ?_
              rotate_left
              · (intro w hSw; (try dsimp only at hSw); go_simp <;> with_reducible rfl)
              try simp only [Act.put, List.setIfInBounds_toArray, List.set_cons_zero, List.set_cons_succ]
              refine wpAnyH_ready (rs := [14]) (by kernel_rfl) (by simp) ?_
              refine AllReadyH.cons (o := _) rfl (fun K hK => ?_) AllReadyH.nil
              obtain ⟨V, hVV⟩ : ∃ V, (((((v5.setCell ⟨v0.heap.size, 0, none⟩ (.int .i64 f)).setCell ⟨v0.heap.size, 1, none⟩ (.int .i64 e)).setCell ⟨v0.heap.size, 2, none⟩ (.slice none 0 0)).setCell ⟨v0.heap.size, 3, none⟩ (.slice a7 ln c7)).setCell ⟨v0.heap.size, 4, none⟩ (.slice a11 tn c11)) = V := ⟨_, rfl⟩
              have hHC := ownCut_of w v5 V (v0.heap.size) f e sa sn sc la ln lc ta tn tc li ls a7 c7 a11 c11 hVV XX_5.out XA_5.out ZR_5.out LL_5.out TT_5.out HB_5.out (fun k h k2 h2 => by have := I_LL.out k h; have := I_TT.out k2 h2; have := K_LL.out k h; have := K_TT.out k2 h2; omega) (fun k h => by have := I_LL.out k h; have := K_LL.out k h; omega) (fun k h => by have := I_TT.out k h; have := K_TT.out k h; omega) (by omega)
              obtain ⟨⟨u0, u1, u2, u3, u4⟩, uf⟩ := XX_5.out
              have uf0 := uf 0
              have uf1 := uf 1
              have uf2 := uf 2
              have uf3 := uf 3
              have uf4 := uf 4
              have HXF : Hid (X5 V w.heap.size (.int .i64 f) (.int .i64 e) (.slice sa sn sc) (.slice la ln lc) (.slice ta tn tc)) := hHC.1
              have HCT := hHC.2 (.pointer (some ⟨v0.heap.size, 0, none⟩)) rfl
              clear hHC uf
              go_simp
              refine hK.out _ _ ?_ (fun hHeld => ?_)
              · exact HXF.out.1
              clear hK K
              try simp only [Act.put, List.setIfInBounds_toArray, List.set_cons_zero, List.set_cons_succ]
              refine wpAnyH_done (by kernel_rfl) ?_ _
              clear hHeld
              go_wp2_with fail
              go_meet
              exact HCT.out
        case cw45 =>
          go_simp
          have hb : Below v2.heap.size v2 (v2.alloc (.cells #[] 3)) := balloc _ _
          have hN := emptyI v2
          have hzz : v2.heap.size + 1 ≤ (v2.alloc (.cells #[] 3)).heap.size := by simp
          have h_HB := HB_2.out.trans (hb.mono HB_2.out.size)
          have h_XA := XA_2.out.later hb
          have h_ZR := ZR_2.out.later hb
          have h_XX := XX_2.out.later hb
          have h_E4 := E4_2.out.later hb
          refine hK.out _ _ ?_ (fun hHeld => ?_)
          · exact h_XA.1
          clear hK K
          try simp only [Act.put, List.setIfInBounds_toArray, List.set_cons_zero, List.set_cons_succ]
          generalize (v2.alloc (.cells #[] 3)) = v3 at hb hN hHeld hzz h_HB h_XA h_ZR h_XX h_E4 ⊢
          have HB_3 : Hid (Below w.heap.size w v3) := h_HB
          have XA_3 : Hid (X5 v3 w.heap.size (.int .i64 f) (.int .i64 e) (.slice sa sn sc) (.slice la ln lc) (.slice ta tn tc)) := h_XA
          have ZR_3 : Hid (X5 v3 (w.heap.size + 1) (.int .i64 0) (.int .i64 0) (.slice none 0 0) (.slice none 0 0) (.slice none 0 0)) := h_ZR
          have XX_3 : Hid (X5 v3 v0.heap.size (.int .i64 0) (.int .i64 0) (.slice none 0 0) (.slice none 0 0) (.slice none 0 0)) := h_XX
          have E4_3 : Hid (Own v3 v1.heap.size (.slice (some ⟨v1.heap.size, 0, none⟩) 0 0) []) := h_E4
          have E8_3 : Hid (Own v3 v2.heap.size (.slice (some ⟨v2.heap.size, 0, none⟩) 0 0) []) := hN
          clear hb hN h_HB h_XA h_ZR h_XX h_E4 HB_2 XA_2 ZR_2 XX_2 E4_2
          refine wpAnyH_ready (rs := [7]) (by kernel_rfl) (by simp) ?_
          refine AllReadyH.cons (o := _) rfl (fun K hK => ?cw48) AllReadyH.nil
          case cw48 =>
            rw [if_pos (by rfl)]
            obtain ⟨a7, c7, v4, r1, o1, hg, hw⟩ := appendI_at v3 (v1.heap.size) li la ln lc E4_3.out (HRL.out _ HB_3.out) HL.out HLZ.out (by omega) (by omega)
            have hzz : v3.heap.size ≤ v4.heap.size := hg.size
            have HB_4 : Hid (Below w.heap.size w v4) := Below.grown HB_3.out hg (by omega) (fun k e => by have := Option.some.inj e; omega)
            have XA_4 : Hid (X5 v4 w.heap.size (.int .i64 f) (.int .i64 e) (.slice sa sn sc) (.slice la ln lc) (.slice ta tn tc)) := XA_3.out.grown hg (fun e => by have := Option.some.inj e; omega)
            have ZR_4 : Hid (X5 v4 (w.heap.size + 1) (.int .i64 0) (.int .i64 0) (.slice none 0 0) (.slice none 0 0) (.slice none 0 0)) := ZR_3.out.grown hg (fun e => by have := Option.some.inj e; omega)
            have XX_4 : Hid (X5 v4 v0.heap.size (.int .i64 0) (.int .i64 0) (.slice none 0 0) (.slice none 0 0) (.slice none 0 0)) := XX_3.out.grown hg (fun e => by have := Option.some.inj e; omega)
            have E8_4 : Hid (Own v4 v2.heap.size (.slice (some ⟨v2.heap.size, 0, none⟩) 0 0) []) := E8_3.out.kept hg (sep_ne (fun k h => by simp only [Value.ownBlock, Option.some.injEq] at h; omega))
            have LL_4 : Hid (Own v4 (w.heap.size + 2) (.slice a7 ln c7) li) := o1.mono (by omega)
            have I_LL : Hid (∀ k, (Value.slice a7 ln c7).ownBlock = some k → k = v1.heap.size ∨ k = v3.heap.size) := hw
            have K_LL : Hid (∀ k, (Value.slice a7 ln c7).ownBlock = some k → k < v4.heap.size) := fun k h => (World.ownsRow.lt o1 k h).2
            refine Lib.wp_append_run _ _ _ _ _ rfl (.slice (some ⟨v1.heap.size, 0, none⟩) 0 0) (.slice la ln lc) (by rfl) (by rfl) (.slice a7 ln c7) v4 (r1 _) ?_
            refine hK.out _ _ ?_ (fun hHeld => ?_)
            · exact XA_4.out.1
            clear hK K r1 o1 hg hw HB_3 XA_3 ZR_3 XX_3 E4_3 E8_3
            try simp only [Act.put, List.setIfInBounds_toArray, List.set_cons_zero, List.set_cons_succ]
            refine wpAnyH_ready (rs := [11]) (by kernel_rfl) (by simp) ?_
            refine AllReadyH.cons (o := _) rfl (fun K hK => ?cw49) AllReadyH.nil
            case cw49 =>
              rw [if_pos (by rfl)]
              obtain ⟨a11, c11, v5, r1, o1, hg, hw⟩ := appendI_at v4 (v2.heap.size) ls ta tn tc E8_4.out (HRT.out _ HB_4.out) HT.out HTZ.out (by omega) (by omega)
              have hzz : v4.heap.size ≤ v5.heap.size := hg.size
              have HB_5 : Hid (Below w.heap.size w v5) := Below.grown HB_4.out hg (by omega) (fun k e => by have := Option.some.inj e; omega)
              have XA_5 : Hid (X5 v5 w.heap.size (.int .i64 f) (.int .i64 e) (.slice sa sn sc) (.slice la ln lc) (.slice ta tn tc)) := XA_4.out.grown hg (fun e => by have := Option.some.inj e; omega)
              have ZR_5 : Hid (X5 v5 (w.heap.size + 1) (.int .i64 0) (.int .i64 0) (.slice none 0 0) (.slice none 0 0) (.slice none 0 0)) := ZR_4.out.grown hg (fun e => by have := Option.some.inj e; omega)
              have XX_5 : Hid (X5 v5 v0.heap.size (.int .i64 0) (.int .i64 0) (.slice none 0 0) (.slice none 0 0) (.slice none 0 0)) := XX_4.out.grown hg (fun e => by have := Option.some.inj e; omega)
              have LL_5 : Hid (Own v5 (w.heap.size + 2) (.slice a7 ln c7) li) := LL_4.out.kept hg (sep_ne (fun k h => by have := I_LL.out k h; have := K_LL.out k h; omega))
              have TT_5 : Hid (Own v5 (w.heap.size + 2) (.slice a11 tn c11) ls) := o1.mono (by omega)
              have I_TT : Hid (∀ k, (Value.slice a11 tn c11).ownBlock = some k → k = v2.heap.size ∨ k = v4.heap.size) := hw
              have K_TT : Hid (∀ k, (Value.slice a11 tn c11).ownBlock = some k → k < v5.heap.size) := fun k h => (World.ownsRow.lt o1 k h).2
              refine Lib.wp_append_run _ _ _ _ _ rfl (.slice (some ⟨v2.heap.size, 0, none⟩) 0 0) (.slice ta tn tc) (by rfl) (by rfl) (.slice a11 tn c11) v5 (r1 _) ?_
              refine hK.out _ _ ?_ (fun hHeld => ?_)
              · exact XA_5.out.1
              clear hK K r1 o1 hg hw HB_4 XA_4 ZR_4 XX_4 E8_4 LL_4
              try simp only [Act.put, List.setIfInBounds_toArray, List.set_cons_zero, List.set_cons_succ]
              refine takeV13 (i := 12) (oi := _) (v := ?_) (d := some 18) rfl (by kernel_rfl) (by kernel_rfl) (by kernel_rfl) (by kernel_rfl) (fun _ _ _ h => h) (Or.inl ⟨by rfl, ?_⟩) (by assumption) ?_
              rotate_left
              · (intro w hSw; (try dsimp only at hSw); go_simp <;> with_reducible rfl)
              try simp only [Act.put, List.setIfInBounds_toArray, List.set_cons_zero, List.set_cons_succ]
              refine wpAnyH_ready (rs := [14]) (by kernel_rfl) (by simp) ?_
              refine AllReadyH.cons (o := _) rfl (fun K hK => ?_) AllReadyH.nil
              obtain ⟨V, hVV⟩ : ∃ V, (((((v5.setCell ⟨v0.heap.size, 0, none⟩ (.int .i64 f)).setCell ⟨v0.heap.size, 1, none⟩ (.int .i64 e)).setCell ⟨v0.heap.size, 2, none⟩ (.slice none 0 0)).setCell ⟨v0.heap.size, 3, none⟩ (.slice a7 ln c7)).setCell ⟨v0.heap.size, 4, none⟩ (.slice a11 tn c11)) = V := ⟨_, rfl⟩
              have hHC := ownCut_of w v5 V (v0.heap.size) f e sa sn sc la ln lc ta tn tc li ls a7 c7 a11 c11 hVV XX_5.out XA_5.out ZR_5.out LL_5.out TT_5.out HB_5.out (fun k h k2 h2 => by have := I_LL.out k h; have := I_TT.out k2 h2; have := K_LL.out k h; have := K_TT.out k2 h2; omega) (fun k h => by have := I_LL.out k h; have := K_LL.out k h; omega) (fun k h => by have := I_TT.out k h; have := K_TT.out k h; omega) (by omega)
              obtain ⟨⟨u0, u1, u2, u3, u4⟩, uf⟩ := XX_5.out
              have uf0 := uf 0
              have uf1 := uf 1
              have uf2 := uf 2
              have uf3 := uf 3
              have uf4 := uf 4
              have HXF : Hid (X5 V w.heap.size (.int .i64 f) (.int .i64 e) (.slice sa sn sc) (.slice la ln lc) (.slice ta tn tc)) := hHC.1
              have HCT := hHC.2 (.pointer (some ⟨v0.heap.size, 0, none⟩)) rfl
              clear hHC uf
              go_simp
              refine hK.out _ _ ?_ (fun hHeld => ?_)
              · exact HXF.out.1
              clear hK K
              try simp only [Act.put, List.setIfInBounds_toArray, List.set_cons_zero, List.set_cons_succ]
              refine wpAnyH_done (by kernel_rfl) ?_ _
              clear hHeld
              go_wp2_with fail
              go_meet
              exact HCT.out
      case cw43 =>
        go_simp
        have hb : Below v1.heap.size v1 (v1.alloc (.cells #[] 3)) := balloc _ _
        have hN := emptyI v1
        have hzz : v1.heap.size + 1 ≤ (v1.alloc (.cells #[] 3)).heap.size := by simp
        have h_HB := HB_1.out.trans (hb.mono HB_1.out.size)
        have h_XA := XA_1.out.later hb
        have h_ZR := ZR_1.out.later hb
        have h_XX := XX_1.out.later hb
        refine hK.out _ _ ?_ (fun hHeld => ?_)
        · exact h_XA.1
        clear hK K
        try simp only [Act.put, List.setIfInBounds_toArray, List.set_cons_zero, List.set_cons_succ]
        generalize (v1.alloc (.cells #[] 3)) = v2 at hb hN hHeld hzz h_HB h_XA h_ZR h_XX ⊢
        have HB_2 : Hid (Below w.heap.size w v2) := h_HB
        have XA_2 : Hid (X5 v2 w.heap.size (.int .i64 f) (.int .i64 e) (.slice sa sn sc) (.slice la ln lc) (.slice ta tn tc)) := h_XA
        have ZR_2 : Hid (X5 v2 (w.heap.size + 1) (.int .i64 0) (.int .i64 0) (.slice none 0 0) (.slice none 0 0) (.slice none 0 0)) := h_ZR
        have XX_2 : Hid (X5 v2 v0.heap.size (.int .i64 0) (.int .i64 0) (.slice none 0 0) (.slice none 0 0) (.slice none 0 0)) := h_XX
        have E8_2 : Hid (Own v2 v1.heap.size (.slice (some ⟨v1.heap.size, 0, none⟩) 0 0) []) := hN
        clear hb hN h_HB h_XA h_ZR h_XX HB_1 XA_1 ZR_1 XX_1
        refine wpAnyH_ready (rs := [4]) (by kernel_rfl) (by simp) ?_
        refine AllReadyH.cons (o := _) rfl (fun K hK => ?cw50) AllReadyH.nil
        case cw50 =>
          go_simp
          have hb : Below v2.heap.size v2 (v2.alloc (.cells #[] 3)) := balloc _ _
          have hN := emptyI v2
          have hzz : v2.heap.size + 1 ≤ (v2.alloc (.cells #[] 3)).heap.size := by simp
          have h_HB := HB_2.out.trans (hb.mono HB_2.out.size)
          have h_XA := XA_2.out.later hb
          have h_ZR := ZR_2.out.later hb
          have h_XX := XX_2.out.later hb
          have h_E8 := E8_2.out.later hb
          refine hK.out _ _ ?_ (fun hHeld => ?_)
          · exact h_XA.1
          clear hK K
          try simp only [Act.put, List.setIfInBounds_toArray, List.set_cons_zero, List.set_cons_succ]
          generalize (v2.alloc (.cells #[] 3)) = v3 at hb hN hHeld hzz h_HB h_XA h_ZR h_XX h_E8 ⊢
          have HB_3 : Hid (Below w.heap.size w v3) := h_HB
          have XA_3 : Hid (X5 v3 w.heap.size (.int .i64 f) (.int .i64 e) (.slice sa sn sc) (.slice la ln lc) (.slice ta tn tc)) := h_XA
          have ZR_3 : Hid (X5 v3 (w.heap.size + 1) (.int .i64 0) (.int .i64 0) (.slice none 0 0) (.slice none 0 0) (.slice none 0 0)) := h_ZR
          have XX_3 : Hid (X5 v3 v0.heap.size (.int .i64 0) (.int .i64 0) (.slice none 0 0) (.slice none 0 0) (.slice none 0 0)) := h_XX
          have E8_3 : Hid (Own v3 v1.heap.size (.slice (some ⟨v1.heap.size, 0, none⟩) 0 0) []) := h_E8
          have E4_3 : Hid (Own v3 v2.heap.size (.slice (some ⟨v2.heap.size, 0, none⟩) 0 0) []) := hN
          clear hb hN h_HB h_XA h_ZR h_XX h_E8 HB_2 XA_2 ZR_2 XX_2 E8_2
          refine wpAnyH_ready (rs := [7]) (by kernel_rfl) (by simp) ?_
          refine AllReadyH.cons (o := _) rfl (fun K hK => ?cw51) AllReadyH.nil
          case cw51 =>
            rw [if_pos (by rfl)]
            obtain ⟨a7, c7, v4, r1, o1, hg, hw⟩ := appendI_at v3 (v2.heap.size) li la ln lc E4_3.out (HRL.out _ HB_3.out) HL.out HLZ.out (by omega) (by omega)
            have hzz : v3.heap.size ≤ v4.heap.size := hg.size
            have HB_4 : Hid (Below w.heap.size w v4) := Below.grown HB_3.out hg (by omega) (fun k e => by have := Option.some.inj e; omega)
            have XA_4 : Hid (X5 v4 w.heap.size (.int .i64 f) (.int .i64 e) (.slice sa sn sc) (.slice la ln lc) (.slice ta tn tc)) := XA_3.out.grown hg (fun e => by have := Option.some.inj e; omega)
            have ZR_4 : Hid (X5 v4 (w.heap.size + 1) (.int .i64 0) (.int .i64 0) (.slice none 0 0) (.slice none 0 0) (.slice none 0 0)) := ZR_3.out.grown hg (fun e => by have := Option.some.inj e; omega)
            have XX_4 : Hid (X5 v4 v0.heap.size (.int .i64 0) (.int .i64 0) (.slice none 0 0) (.slice none 0 0) (.slice none 0 0)) := XX_3.out.grown hg (fun e => by have := Option.some.inj e; omega)
            have E8_4 : Hid (Own v4 v1.heap.size (.slice (some ⟨v1.heap.size, 0, none⟩) 0 0) []) := E8_3.out.kept hg (sep_ne (fun k h => by simp only [Value.ownBlock, Option.some.injEq] at h; omega))
            have LL_4 : Hid (Own v4 (w.heap.size + 2) (.slice a7 ln c7) li) := o1.mono (by omega)
            have I_LL : Hid (∀ k, (Value.slice a7 ln c7).ownBlock = some k → k = v2.heap.size ∨ k = v3.heap.size) := hw
            have K_LL : Hid (∀ k, (Value.slice a7 ln c7).ownBlock = some k → k < v4.heap.size) := fun k h => (World.ownsRow.lt o1 k h).2
            refine Lib.wp_append_run _ _ _ _ _ rfl (.slice (some ⟨v2.heap.size, 0, none⟩) 0 0) (.slice la ln lc) (by rfl) (by rfl) (.slice a7 ln c7) v4 (r1 _) ?_
            refine hK.out _ _ ?_ (fun hHeld => ?_)
            · exact XA_4.out.1
            clear hK K r1 o1 hg hw HB_3 XA_3 ZR_3 XX_3 E8_3 E4_3
            try simp only [Act.put, List.setIfInBounds_toArray, List.set_cons_zero, List.set_cons_succ]
            refine wpAnyH_ready (rs := [11]) (by kernel_rfl) (by simp) ?_
            refine AllReadyH.cons (o := _) rfl (fun K hK => ?cw52) AllReadyH.nil
            case cw52 =>
              rw [if_pos (by rfl)]
              obtain ⟨a11, c11, v5, r1, o1, hg, hw⟩ := appendI_at v4 (v1.heap.size) ls ta tn tc E8_4.out (HRT.out _ HB_4.out) HT.out HTZ.out (by omega) (by omega)
              have hzz : v4.heap.size ≤ v5.heap.size := hg.size
              have HB_5 : Hid (Below w.heap.size w v5) := Below.grown HB_4.out hg (by omega) (fun k e => by have := Option.some.inj e; omega)
              have XA_5 : Hid (X5 v5 w.heap.size (.int .i64 f) (.int .i64 e) (.slice sa sn sc) (.slice la ln lc) (.slice ta tn tc)) := XA_4.out.grown hg (fun e => by have := Option.some.inj e; omega)
              have ZR_5 : Hid (X5 v5 (w.heap.size + 1) (.int .i64 0) (.int .i64 0) (.slice none 0 0) (.slice none 0 0) (.slice none 0 0)) := ZR_4.out.grown hg (fun e => by have := Option.some.inj e; omega)
              have XX_5 : Hid (X5 v5 v0.heap.size (.int .i64 0) (.int .i64 0) (.slice none 0 0) (.slice none 0 0) (.slice none 0 0)) := XX_4.out.grown hg (fun e => by have := Option.some.inj e; omega)
              have LL_5 : Hid (Own v5 (w.heap.size + 2) (.slice a7 ln c7) li) := LL_4.out.kept hg (sep_ne (fun k h => by have := I_LL.out k h; have := K_LL.out k h; omega))
              have TT_5 : Hid (Own v5 (w.heap.size + 2) (.slice a11 tn c11) ls) := o1.mono (by omega)
              have I_TT : Hid (∀ k, (Value.slice a11 tn c11).ownBlock = some k → k = v1.heap.size ∨ k = v4.heap.size) := hw
              have K_TT : Hid (∀ k, (Value.slice a11 tn c11).ownBlock = some k → k < v5.heap.size) := fun k h => (World.ownsRow.lt o1 k h).2
              refine Lib.wp_append_run _ _ _ _ _ rfl (.slice (some ⟨v1.heap.size, 0, none⟩) 0 0) (.slice ta tn tc) (by rfl) (by rfl) (.slice a11 tn c11) v5 (r1 _) ?_
              refine hK.out _ _ ?_ (fun hHeld => ?_)
              · exact XA_5.out.1
              clear hK K r1 o1 hg hw HB_4 XA_4 ZR_4 XX_4 E8_4 LL_4
              try simp only [Act.put, List.setIfInBounds_toArray, List.set_cons_zero, List.set_cons_succ]
              refine takeV13 (i := 12) (oi := _) (v := ?_) (d := some 18) rfl (by kernel_rfl) (by kernel_rfl) (by kernel_rfl) (by kernel_rfl) (fun _ _ _ h => h) (Or.inl ⟨by rfl, ?_⟩) (by assumption) ?_
              rotate_left
              · (intro w hSw; (try dsimp only at hSw); go_simp <;> with_reducible rfl)
              try simp only [Act.put, List.setIfInBounds_toArray, List.set_cons_zero, List.set_cons_succ]
              refine wpAnyH_ready (rs := [14]) (by kernel_rfl) (by simp) ?_
              refine AllReadyH.cons (o := _) rfl (fun K hK => ?_) AllReadyH.nil
              obtain ⟨V, hVV⟩ : ∃ V, (((((v5.setCell ⟨v0.heap.size, 0, none⟩ (.int .i64 f)).setCell ⟨v0.heap.size, 1, none⟩ (.int .i64 e)).setCell ⟨v0.heap.size, 2, none⟩ (.slice none 0 0)).setCell ⟨v0.heap.size, 3, none⟩ (.slice a7 ln c7)).setCell ⟨v0.heap.size, 4, none⟩ (.slice a11 tn c11)) = V := ⟨_, rfl⟩
              have hHC := ownCut_of w v5 V (v0.heap.size) f e sa sn sc la ln lc ta tn tc li ls a7 c7 a11 c11 hVV XX_5.out XA_5.out ZR_5.out LL_5.out TT_5.out HB_5.out (fun k h k2 h2 => by have := I_LL.out k h; have := I_TT.out k2 h2; have := K_LL.out k h; have := K_TT.out k2 h2; omega) (fun k h => by have := I_LL.out k h; have := K_LL.out k h; omega) (fun k h => by have := I_TT.out k h; have := K_TT.out k h; omega) (by omega)
              obtain ⟨⟨u0, u1, u2, u3, u4⟩, uf⟩ := XX_5.out
              have uf0 := uf 0
              have uf1 := uf 1
              have uf2 := uf 2
              have uf3 := uf 3
              have uf4 := uf 4
              have HXF : Hid (X5 V w.heap.size (.int .i64 f) (.int .i64 e) (.slice sa sn sc) (.slice la ln lc) (.slice ta tn tc)) := hHC.1
              have HCT := hHC.2 (.pointer (some ⟨v0.heap.size, 0, none⟩)) rfl
              clear hHC uf
              go_simp
              refine hK.out _ _ ?_ (fun hHeld => ?_)
              · exact HXF.out.1
              clear hK K
              try simp only [Act.put, List.setIfInBounds_toArray, List.set_cons_zero, List.set_cons_succ]
              refine wpAnyH_done (by kernel_rfl) ?_ _
              clear hHeld
              go_wp2_with fail
              go_meet
              exact HCT.out
  case rest =>
    obtain ⟨gX, a7, c7, a11, c11, rfl, hXA, hZR, hOX, hLL, hTT, hsep, hgl, hgt, hgx, hBB⟩ := hcut
    obtain ⟨V, rfl⟩ : ∃ V : World, V = wc := ⟨_, rfl⟩
    have HXA : Hid (X5 V w.heap.size (.int .i64 f) (.int .i64 e) (.slice sa sn sc) (.slice la ln lc) (.slice ta tn tc)) := hXA
    have HZR : Hid (X5 V (w.heap.size + 1) (.int .i64 0) (.int .i64 0) (.slice none 0 0) (.slice none 0 0) (.slice none 0 0)) := hZR
    have HOX : Hid (X5 V gX (.int .i64 f) (.int .i64 e) (.slice none 0 0) (.slice a7 ln c7) (.slice a11 tn c11)) := hOX
    have HLL : Hid (Own V (w.heap.size + 2) (.slice a7 ln c7) li) := hLL
    have HTT : Hid (Own V (w.heap.size + 2) (.slice a11 tn c11) ls) := hTT
    have HSEP : Hid ((Value.slice a7 ln c7).ownBlock = none ∨ (Value.slice a7 ln c7).ownBlock ≠ (Value.slice a11 tn c11).ownBlock) := hsep
    have HGL : Hid (∀ k, (Value.slice a7 ln c7).ownBlock = some k → k ≠ gX ∧ k < V.heap.size) := fun k h => ⟨hgl k h, (World.ownsRow.lt hLL k h).2⟩
    have HGT : Hid (∀ k, (Value.slice a11 tn c11).ownBlock = some k → k ≠ gX ∧ k < V.heap.size) := fun k h => ⟨hgt k h, (World.ownsRow.lt hTT k h).2⟩
    have HBV : Hid (Below w.heap.size w V) := hBB
    have hgV : gX < V.heap.size := hOX.lt
    obtain ⟨⟨p0, p1, p2, p3, p4⟩, _⟩ := hXA
    clear hZR hOX hLL hTT hsep hgl hgt hBB HX0 HZ0 HB0 HN0
    go_wp2
    clear p0 p1 p2 p3 p4
    go_loopw [22] (fun iv wr => ∃ (k : Nat) (sa' : Option Addr) (sc' : Nat), k ≤ sn ∧ iv = .int .i64 k ∧ Hid (OwnIP wr V.heap.size (fun q => V.heap.size ≤ q ∧ q < wr.heap.size) (.slice sa' k sc') (sg.take k)) ∧ Hid (X5 wr gX (.int .i64 f) (.int .i64 e) (.slice sa' k sc') (.slice a7 ln c7) (.slice a11 tn c11)) ∧ Hid (X5 wr w.heap.size (.int .i64 f) (.int .i64 e) (.slice sa sn sc) (.slice la ln lc) (.slice ta tn tc)) ∧ Hid (X5 wr (w.heap.size + 1) (.int .i64 0) (.int .i64 0) (.slice none 0 0) (.slice none 0 0) (.slice none 0 0)) ∧ Hid (Own wr (w.heap.size + 2) (.slice a7 ln c7) li) ∧ Hid (Own wr (w.heap.size + 2) (.slice a11 tn c11) ls) ∧ Hid (Below w.heap.size w wr) ∧ Hid (V.heap.size ≤ wr.heap.size)) (fun iv _ => sn - (intOf iv).toNat)
    case atStart => exact ⟨0, none, 0, Nat.zero_le _, rfl, by show OwnIP _ _ _ _ _; rw [List.take_zero]; exact nilIP _ _ _, HOX, HXA, HZR, HLL, HTT, HBV, Nat.le_refl _⟩
    case round =>
      clear HOX HXA HZR HLL HTT
      obtain ⟨k, sa', sc', hk, rfl, IP, OX, XA, ZR, LL, TT, BB, SZ⟩ := hrel
      have hwV : w.heap.size + 2 ≤ V.heap.size := by omega
      by_cases hlt : k < sn
      case neg =>
        obtain rfl : k = sn := by omega
        have IP2 : OwnIP wr V.heap.size (fun q => V.heap.size ≤ q ∧ q < wr.heap.size) (.slice sa' k sc') sg := by have := IP.out; rw [List.take_of_length_le (by rw [HS.out]; exact Nat.le_refl _)] at this; exact this
        have hZF := (((((ZR.out.set0 (.int .i64 f)).set1 (.int .i64 e)).set2 (.slice sa' k sc')).set3 (.slice a7 ln c7)).set4 (.slice a11 tn c11))
        have hBF : Below w.heap.size w (((((wr.setCell ⟨w.heap.size + 1, 0, none⟩ (.int .i64 f)).setCell ⟨w.heap.size + 1, 1, none⟩ (.int .i64 e)).setCell ⟨w.heap.size + 1, 2, none⟩ (.slice sa' k sc')).setCell ⟨w.heap.size + 1, 3, none⟩ (.slice a7 ln c7)).setCell ⟨w.heap.size + 1, 4, none⟩ (.slice a11 tn c11)) := (((((BB.out.setCell (by show w.heap.size ≤ w.heap.size + 1; omega) _).setCell (by show w.heap.size ≤ w.heap.size + 1; omega) _).setCell (by show w.heap.size ≤ w.heap.size + 1; omega) _).setCell (by show w.heap.size ≤ w.heap.size + 1; omega) _).setCell (by show w.heap.size ≤ w.heap.size + 1; omega) _)
        have hSF := (((((IP2.setBox (r := w.heap.size + 1) (j := 0) (by omega) (.int .i64 f)).setBox (r := w.heap.size + 1) (j := 1) (by omega) (.int .i64 e)).setBox (r := w.heap.size + 1) (j := 2) (by omega) (.slice sa' k sc')).setBox (r := w.heap.size + 1) (j := 3) (by omega) (.slice a7 ln c7)).setBox (r := w.heap.size + 1) (j := 4) (by omega) (.slice a11 tn c11))
        have hLF := (((((LL.out.setBox (r := w.heap.size + 1) (j := 0) (by omega) (.int .i64 f)).setBox (r := w.heap.size + 1) (j := 1) (by omega) (.int .i64 e)).setBox (r := w.heap.size + 1) (j := 2) (by omega) (.slice sa' k sc')).setBox (r := w.heap.size + 1) (j := 3) (by omega) (.slice a7 ln c7)).setBox (r := w.heap.size + 1) (j := 4) (by omega) (.slice a11 tn c11))
        have hTF := (((((TT.out.setBox (r := w.heap.size + 1) (j := 0) (by omega) (.int .i64 f)).setBox (r := w.heap.size + 1) (j := 1) (by omega) (.int .i64 e)).setBox (r := w.heap.size + 1) (j := 2) (by omega) (.slice sa' k sc')).setBox (r := w.heap.size + 1) (j := 3) (by omega) (.slice a7 ln c7)).setBox (r := w.heap.size + 1) (j := 4) (by omega) (.slice a11 tn c11))
        have hsz : (((((wr.setCell ⟨w.heap.size + 1, 0, none⟩ (.int .i64 f)).setCell ⟨w.heap.size + 1, 1, none⟩ (.int .i64 e)).setCell ⟨w.heap.size + 1, 2, none⟩ (.slice sa' k sc')).setCell ⟨w.heap.size + 1, 3, none⟩ (.slice a7 ln c7)).setCell ⟨w.heap.size + 1, 4, none⟩ (.slice a11 tn c11)).heap.size = wr.heap.size := by simp
        obtain ⟨⟨u0, u1, u2, u3, u4⟩, uf⟩ := ZR.out
        have uf0 := uf 0
        have uf1 := uf 1
        have uf2 := uf 2
        have uf3 := uf 3
        have uf4 := uf 4
        obtain ⟨FW, hFW⟩ : ∃ F, (((((wr.setCell ⟨w.heap.size + 1, 0, none⟩ (.int .i64 f)).setCell ⟨w.heap.size + 1, 1, none⟩ (.int .i64 e)).setCell ⟨w.heap.size + 1, 2, none⟩ (.slice sa' k sc')).setCell ⟨w.heap.size + 1, 3, none⟩ (.slice a7 ln c7)).setCell ⟨w.heap.size + 1, 4, none⟩ (.slice a11 tn c11)) = F := ⟨_, rfl⟩
        rw [hFW] at hZF hBF hSF hLF hTF hsz
        obtain ⟨⟨t0, t1, t2, t3, t4⟩, _⟩ := hZF
        obtain ⟨⟨o0, o1, o2, o3, o4⟩, _⟩ := OX.out
        have HBF : Hid (Below w.heap.size w FW) := hBF
        have hsV := SZ.out
        have HOB : Hid (OwnBd FW w.heap.size FW.heap.size (.slice sa' k sc') (.slice a7 ln c7) (.slice a11 tn c11) ⟨f, e, sg, li, ls⟩) := ⟨⟨_, hSF.mono (by omega) (fun _ h => h), fun q hq => by omega, fun q h => by have := HGL.out q h; omega, fun q h => by have := HGT.out q h; omega⟩, hLF.mono (by omega), hTF.mono (by omega), HSEP.out⟩
        have HSZ2 : Hid (FW.heap.size = wr.heap.size) := hsz
        clear hBF hSF hLF hTF uf hsz IP2
        go_wp2
        refine bodyPost_ret (v := .agg #[.int .i64 f, .int .i64 e, .slice sa' k sc', .slice a7 ln c7, .slice a11 tn c11]) (by simp [results, Try.results55, go_sem, t0, t1, t2, t3, t4]; try rfl) rfl ?_
        exact ⟨_, _, _, _, _, _, rfl, HOB.out, HBF.out⟩
      have hkl : k < sg.length := by rw [HS.out]; exact hlt
      obtain ⟨b, o, ro, rc, rfl, g1, hro, hnil⟩ := (HRS.out _ BB.out).get hkl
      have hlk := HSL.out _ (mem_getD [] hkl)
      have k0 : (0 : Int) ≤ (k : Int) := by omega
      have k1 : (k : Int) < (sn : Int) := by omega
      have htk : sg.take (k + 1) = sg.take k ++ [sg.getD k []] := take_snoc [] hkl
      have htl : (sg.take k).length = k := by rw [List.length_take]; omega
      generalize sg.getD k [] = row at g1 hro hlk hnil htk
      obtain ⟨rn, hrn⟩ : ∃ rn, row.length = rn := ⟨_, rfl⟩
      rw [hrn] at g1 hlk hnil
      have hb0 : Below wr.heap.size wr wr.drew := (Below.refl _ _).drew
      have hs0 : wr.heap.size ≤ wr.drew.heap.size := hb0.size
      obtain ⟨D0, hD0⟩ : ∃ D, wr.drew = D := ⟨_, rfl⟩
      have hb0D : Below wr.heap.size wr D0 := by rw [← hD0]; exact hb0
      have hsV := SZ.out
      have hbE := balloc D0 (.cells #[] 3)
      have hE := emptyI D0
      have hs1 : D0.heap.size + 1 ≤ (D0.alloc (.cells #[] 3)).heap.size := by simp
      obtain ⟨D1, hD1⟩ : ∃ D, D0.alloc (.cells #[] 3) = D := ⟨_, rfl⟩
      rw [hD1] at hbE hE hs1
      have hb1D : Below wr.heap.size wr D1 := hb0D.trans (hbE.mono hb0D.size)
      obtain ⟨ua, uc, D2, r4, o4, hg4, hw4⟩ := appendI_at D1 D0.heap.size row ro rn rc hE (hro.later hb1D) hrn hnil (by omega) (by omega)
      have hs2 : D1.heap.size ≤ D2.heap.size := hg4.size
      have hk4 := World.ownsRow.lt o4
      have hsD0 : wr.heap.size ≤ D0.heap.size := hb0D.size
      have hg4V : Below V.heap.size wr D2 := (hb1D.mono (by omega)).trans ⟨hg4.os, hg4.tape, hg4.output, hg4.size, fun q hq => hg4.block q (by omega) (fun e => by have := Option.some.inj e; omega)⟩
      have hIP2 : OwnIP D2 V.heap.size (fun q => V.heap.size ≤ q ∧ q < wr.heap.size) (.slice sa' k sc') (sg.take k) := (IP.out.later hb1D).rng (qq := fun q => q = D0.heap.size) (RngP.ofGrown hg4 (fun q e => (Option.some.inj e).symm)) (fun q h e => by omega)
      obtain ⟨gq, cap, D3, r6, o6, rg6⟩ := pushIP_run D2 V.heap.size (fun q => V.heap.size ≤ q ∧ q < wr.heap.size) (.slice sa' k sc') (sg.take k) ua rn uc row hIP2 (o4.mono (by omega)) (fun q h h2 => by have := hw4 q h; omega) (by rw [htl]; omega) (by omega) (fun q h => by omega)
      rw [htl] at r6 o6
      rw [← htk] at o6
      have hOX0 := OX.out.later hb0D
      have hOX1 := OX.out.later hb1D
      have hOX2 := hOX1.grown hg4 (fun e => by have := Option.some.inj e; omega)
      have hOXP := hOX2.later (balloc D2 (.cells #[.slice ua rn uc] 23))
      have hOX3 := hOX2.rngP rg6 (by omega)
      have fOX := hOX3.set2 (.slice (some ⟨gq, 0, none⟩) (k + 1) cap)
      have fXA := (((XA.out.later hb1D).grown hg4 (fun e => by have := Option.some.inj e; omega)).rngP rg6 (by omega)).other (r' := gX) (j' := 2) (u := (.slice (some ⟨gq, 0, none⟩) (k + 1) cap)) (by omega)
      have fZR := (((ZR.out.later hb1D).grown hg4 (fun e => by have := Option.some.inj e; omega)).rngP rg6 (by omega)).other (r' := gX) (j' := 2) (u := (.slice (some ⟨gq, 0, none⟩) (k + 1) cap)) (by omega)
      have fLL : Own (D3.setCell ⟨gX, 2, none⟩ (.slice (some ⟨gq, 0, none⟩) (k + 1) cap)) (w.heap.size + 2) (.slice a7 ln c7) li := (((LL.out.later hb1D).kept hg4 (sep_ne (fun q h => by have := HGL.out q h; omega))).rngP rg6 (fun q h h2 => by have := HGL.out q h; omega)).rngP (RngP.ofGrown (pp := fun q => q = gX) (grown_setCell D3 gX 2 (.slice (some ⟨gq, 0, none⟩) (k + 1) cap)) (fun q e => by simpa using e.symm)) (fun q h h2 => by have := HGL.out q h; omega)
      have fTT : Own (D3.setCell ⟨gX, 2, none⟩ (.slice (some ⟨gq, 0, none⟩) (k + 1) cap)) (w.heap.size + 2) (.slice a11 tn c11) ls := (((TT.out.later hb1D).kept hg4 (sep_ne (fun q h => by have := HGT.out q h; omega))).rngP rg6 (fun q h h2 => by have := HGT.out q h; omega)).rngP (RngP.ofGrown (pp := fun q => q = gX) (grown_setCell D3 gX 2 (.slice (some ⟨gq, 0, none⟩) (k + 1) cap)) (fun q e => by simpa using e.symm)) (fun q h h2 => by have := HGT.out q h; omega)
      have fBB : Below w.heap.size w (D3.setCell ⟨gX, 2, none⟩ (.slice (some ⟨gq, 0, none⟩) (k + 1) cap)) := ((BB.out.trans (hg4V.mono (by omega))).trans (rg6.below (fun q h => by omega) (by omega))).setCell (by show w.heap.size ≤ gX; omega) _
      have hs3 : D2.heap.size ≤ D3.heap.size := rg6.size
      have hs4 : (D3.setCell ⟨gX, 2, none⟩ (.slice (some ⟨gq, 0, none⟩) (k + 1) cap)).heap.size = D3.heap.size := by simp
      have fIP : OwnIP (D3.setCell ⟨gX, 2, none⟩ (.slice (some ⟨gq, 0, none⟩) (k + 1) cap)) V.heap.size (fun q => V.heap.size ≤ q ∧ q < D3.heap.size) (.slice (some ⟨gq, 0, none⟩) (k + 1) cap) (sg.take (k + 1)) := by
        refine OwnIP.setBox ?_ (by omega) _
        obtain ⟨vs, b1, b2, b3, b4, b5, b6⟩ := o6
        exact ⟨vs, b1, b2, b3, b4, fun q h => World.ownsRow.lt b2 q h, fun j hj q h => World.ownsRow.lt (b3 j hj) q h⟩
      obtain ⟨FN, hFN⟩ : ∃ F, (D3.setCell ⟨gX, 2, none⟩ (.slice (some ⟨gq, 0, none⟩) (k + 1) cap)) = F := ⟨_, rfl⟩
      rw [hFN] at fOX fXA fZR fLL fTT fBB fIP hs4
      rw [← hs4] at fIP
      have NIP : Hid (OwnIP FN V.heap.size (fun q => V.heap.size ≤ q ∧ q < FN.heap.size) (.slice (some ⟨gq, 0, none⟩) (k + 1) cap) (sg.take (k + 1))) := fIP
      have NOX : Hid (X5 FN gX (.int .i64 f) (.int .i64 e) (.slice (some ⟨gq, 0, none⟩) (k + 1) cap) (.slice a7 ln c7) (.slice a11 tn c11)) := fOX
      have NXA : Hid (X5 FN w.heap.size (.int .i64 f) (.int .i64 e) (.slice (some ⟨b, o, none⟩) sn sc) (.slice la ln lc) (.slice ta tn tc)) := fXA
      have NZR : Hid (X5 FN (w.heap.size + 1) (.int .i64 0) (.int .i64 0) (.slice none 0 0) (.slice none 0 0) (.slice none 0 0)) := fZR
      have NLL : Hid (Own FN (w.heap.size + 2) (.slice a7 ln c7) li) := fLL
      have NTT : Hid (Own FN (w.heap.size + 2) (.slice a11 tn c11) ls) := fTT
      have NBB : Hid (Below w.heap.size w FN) := fBB
      have NSZ : Hid (V.heap.size ≤ FN.heap.size) := by show _ ≤ _; omega
      obtain ⟨⟨_, _, x0, _, _⟩, _⟩ := hOX0
      obtain ⟨⟨_, _, x1, _, _⟩, _⟩ := hOX1
      obtain ⟨⟨_, _, x2, _, _⟩, _⟩ := hOX2
      obtain ⟨⟨_, _, xP, _, _⟩, _⟩ := hOXP
      obtain ⟨⟨_, _, x3, _, _⟩, xf⟩ := hOX3
      have xf2 := xf 2
      obtain ⟨⟨q0, q1, q2, q3, q4⟩, _⟩ := XA.out
      clear fOX fXA fZR fLL fTT fBB fIP hs4 xf hbE hE hIP2 o6 rg6 o4 hg4 hw4 hk4 hg4V hro hnil htk htl hrn hkl hb0 hs0 IP OX XA ZR LL TT BB SZ
      go_wp2_with fail
      clear q0 q1 q2 q3 q4 g1
      refine wp_region_held_drew (S := (fun _ => True)) (by kernel_rfl) ?_ (fun hHeld => ?_)
      · trivial
      rw [hD0]
      clear hD0
      refine takeV13 (i := 0) (oi := _) (v := ?_) (d := some 26) rfl (by kernel_rfl) (by kernel_rfl) (by kernel_rfl) (by kernel_rfl) (fun _ _ _ h => h) (Or.inl ⟨by rfl, ?_⟩) (by assumption) ?_
      rotate_left
      · (intro w hSw; (try dsimp only at hSw); go_simp <;> with_reducible rfl)
      try simp only [Act.put, List.setIfInBounds_toArray, List.set_cons_zero, List.set_cons_succ]
      refine takeV13 (i := 3) (oi := _) (v := ?_) (d := some 29) rfl (by kernel_rfl) (by kernel_rfl) (by kernel_rfl) (by kernel_rfl) (fun _ _ _ h => h) (Or.inl ⟨by rfl, ?_⟩) (by assumption) ?_
      rotate_left
      · (intro w hSw; (try dsimp only at hSw); go_simp <;> with_reducible rfl)
      try simp only [Act.put, List.setIfInBounds_toArray, List.set_cons_zero, List.set_cons_succ]
      refine wpAnyH_ready (rs := [1, 2]) (by kernel_rfl) (by simp) ?_
      refine AllReadyH.cons (o := _) rfl (fun K hK => ?cr1) (AllReadyH.cons (o := _) rfl (fun K hK => ?cr2) AllReadyH.nil)
      case cr1 =>
        go_simp
        refine hK.out _ _ ?_ (fun hHeld => ?_)
        · trivial
        clear hK K
        try simp only [Act.put, List.setIfInBounds_toArray, List.set_cons_zero, List.set_cons_succ]
        refine wpAnyH_ready (rs := [2]) (by kernel_rfl) (by simp) ?_
        refine AllReadyH.cons (o := _) rfl (fun K hK => ?_) AllReadyH.nil
        go_simp
        refine hK.out _ _ ?_ (fun hHeld => ?_)
        · trivial
        clear hK K
        try simp only [Act.put, List.setIfInBounds_toArray, List.set_cons_zero, List.set_cons_succ]
        refine wpAnyH_ready (rs := [4]) (by kernel_rfl) (by simp) ?_
        refine AllReadyH.cons (o := _) rfl (fun K hK => ?_) AllReadyH.nil
        rw [if_pos (by rfl)]
        refine Lib.wp_append_run _ _ _ _ _ rfl (.slice (some ⟨D0.heap.size, 0, none⟩) 0 0) (.slice ro rn rc) (by rfl) (by rfl) (.slice ua rn uc) D2 (r4 _) ?_
        refine hK.out _ _ ?_ (fun hHeld => ?_)
        · trivial
        clear hK K
        try simp only [Act.put, List.setIfInBounds_toArray, List.set_cons_zero, List.set_cons_succ]
        refine wpAnyH_ready (rs := [5]) (by kernel_rfl) (by simp) ?_
        refine AllReadyH.cons (o := _) rfl (fun K hK => ?_) AllReadyH.nil
        go_simp
        refine hK.out _ _ ?_ (fun hHeld => ?_)
        · trivial
        clear hK K
        try simp only [Act.put, List.setIfInBounds_toArray, List.set_cons_zero, List.set_cons_succ]
        refine wpAnyH_ready (rs := [6]) (by kernel_rfl) (by simp) ?_
        refine AllReadyH.cons (o := _) rfl (fun K hK => ?_) AllReadyH.nil
        rw [if_pos (by rfl)]
        refine Lib.wp_append_run _ _ _ _ _ rfl (.slice sa' k sc') (.slice (some ⟨D2.heap.size, 0, none⟩) 1 1) (by rfl) (by rfl) (.slice (some ⟨gq, 0, none⟩) (k + 1) cap) D3 (r6 _) ?_
        refine hK.out _ _ ?_ (fun hHeld => ?_)
        · trivial
        clear hK K
        try simp only [Act.put, List.setIfInBounds_toArray, List.set_cons_zero, List.set_cons_succ]
        refine takeV13 (i := 7) (oi := _) (v := ?_) (d := some 33) rfl (by kernel_rfl) (by kernel_rfl) (by kernel_rfl) (by kernel_rfl) (fun _ _ _ h => h) (Or.inl ⟨by rfl, ?_⟩) (by assumption) ?_
        rotate_left
        · (intro w hSw; (try dsimp only at hSw); go_simp <;> with_reducible rfl)
        try simp only [Act.put, List.setIfInBounds_toArray, List.set_cons_zero, List.set_cons_succ]
        refine wpAnyH_ready (rs := [8]) (by kernel_rfl) (by simp) ?_
        refine AllReadyH.cons (o := _) rfl (fun K hK => ?_) AllReadyH.nil
        go_simp
        refine hK.out _ _ ?_ (fun hHeld => ?_)
        · trivial
        clear hK K
        try simp only [Act.put, List.setIfInBounds_toArray, List.set_cons_zero, List.set_cons_succ]
        refine wpAnyH_done (by kernel_rfl) ?_ _
        clear hHeld
        go_wp2
        exact ⟨⟨k + 1, _, cap, by omega, by go_num, NIP, NOX, NXA, NZR, NLL, NTT, NBB, NSZ⟩, by simp [intOf]; omega⟩
      case cr2 =>
        go_simp
        refine hK.out _ _ ?_ (fun hHeld => ?_)
        · trivial
        clear hK K
        try simp only [Act.put, List.setIfInBounds_toArray, List.set_cons_zero, List.set_cons_succ]
        refine wpAnyH_ready (rs := [1, 4]) (by kernel_rfl) (by simp) ?_
        refine AllReadyH.cons (o := _) rfl (fun K hK => ?cr3) (AllReadyH.cons (o := _) rfl (fun K hK => ?cr4) AllReadyH.nil)
        case cr3 =>
          go_simp
          refine hK.out _ _ ?_ (fun hHeld => ?_)
          · trivial
          clear hK K
          try simp only [Act.put, List.setIfInBounds_toArray, List.set_cons_zero, List.set_cons_succ]
          refine wpAnyH_ready (rs := [4]) (by kernel_rfl) (by simp) ?_
          refine AllReadyH.cons (o := _) rfl (fun K hK => ?_) AllReadyH.nil
          rw [if_pos (by rfl)]
          refine Lib.wp_append_run _ _ _ _ _ rfl (.slice (some ⟨D0.heap.size, 0, none⟩) 0 0) (.slice ro rn rc) (by rfl) (by rfl) (.slice ua rn uc) D2 (r4 _) ?_
          refine hK.out _ _ ?_ (fun hHeld => ?_)
          · trivial
          clear hK K
          try simp only [Act.put, List.setIfInBounds_toArray, List.set_cons_zero, List.set_cons_succ]
          refine wpAnyH_ready (rs := [5]) (by kernel_rfl) (by simp) ?_
          refine AllReadyH.cons (o := _) rfl (fun K hK => ?_) AllReadyH.nil
          go_simp
          refine hK.out _ _ ?_ (fun hHeld => ?_)
          · trivial
          clear hK K
          try simp only [Act.put, List.setIfInBounds_toArray, List.set_cons_zero, List.set_cons_succ]
          refine wpAnyH_ready (rs := [6]) (by kernel_rfl) (by simp) ?_
          refine AllReadyH.cons (o := _) rfl (fun K hK => ?_) AllReadyH.nil
          rw [if_pos (by rfl)]
          refine Lib.wp_append_run _ _ _ _ _ rfl (.slice sa' k sc') (.slice (some ⟨D2.heap.size, 0, none⟩) 1 1) (by rfl) (by rfl) (.slice (some ⟨gq, 0, none⟩) (k + 1) cap) D3 (r6 _) ?_
          refine hK.out _ _ ?_ (fun hHeld => ?_)
          · trivial
          clear hK K
          try simp only [Act.put, List.setIfInBounds_toArray, List.set_cons_zero, List.set_cons_succ]
          refine takeV13 (i := 7) (oi := _) (v := ?_) (d := some 33) rfl (by kernel_rfl) (by kernel_rfl) (by kernel_rfl) (by kernel_rfl) (fun _ _ _ h => h) (Or.inl ⟨by rfl, ?_⟩) (by assumption) ?_
          rotate_left
          · (intro w hSw; (try dsimp only at hSw); go_simp <;> with_reducible rfl)
          try simp only [Act.put, List.setIfInBounds_toArray, List.set_cons_zero, List.set_cons_succ]
          refine wpAnyH_ready (rs := [8]) (by kernel_rfl) (by simp) ?_
          refine AllReadyH.cons (o := _) rfl (fun K hK => ?_) AllReadyH.nil
          go_simp
          refine hK.out _ _ ?_ (fun hHeld => ?_)
          · trivial
          clear hK K
          try simp only [Act.put, List.setIfInBounds_toArray, List.set_cons_zero, List.set_cons_succ]
          refine wpAnyH_done (by kernel_rfl) ?_ _
          clear hHeld
          go_wp2
          exact ⟨⟨k + 1, _, cap, by omega, by go_num, NIP, NOX, NXA, NZR, NLL, NTT, NBB, NSZ⟩, by simp [intOf]; omega⟩
        case cr4 =>
          rw [if_pos (by rfl)]
          refine Lib.wp_append_run _ _ _ _ _ rfl (.slice (some ⟨D0.heap.size, 0, none⟩) 0 0) (.slice ro rn rc) (by rfl) (by rfl) (.slice ua rn uc) D2 (r4 _) ?_
          refine hK.out _ _ ?_ (fun hHeld => ?_)
          · trivial
          clear hK K
          try simp only [Act.put, List.setIfInBounds_toArray, List.set_cons_zero, List.set_cons_succ]
          refine wpAnyH_ready (rs := [1, 5]) (by kernel_rfl) (by simp) ?_
          refine AllReadyH.cons (o := _) rfl (fun K hK => ?cr5) (AllReadyH.cons (o := _) rfl (fun K hK => ?cr6) AllReadyH.nil)
          case cr5 =>
            go_simp
            refine hK.out _ _ ?_ (fun hHeld => ?_)
            · trivial
            clear hK K
            try simp only [Act.put, List.setIfInBounds_toArray, List.set_cons_zero, List.set_cons_succ]
            refine wpAnyH_ready (rs := [5]) (by kernel_rfl) (by simp) ?_
            refine AllReadyH.cons (o := _) rfl (fun K hK => ?_) AllReadyH.nil
            go_simp
            refine hK.out _ _ ?_ (fun hHeld => ?_)
            · trivial
            clear hK K
            try simp only [Act.put, List.setIfInBounds_toArray, List.set_cons_zero, List.set_cons_succ]
            refine wpAnyH_ready (rs := [6]) (by kernel_rfl) (by simp) ?_
            refine AllReadyH.cons (o := _) rfl (fun K hK => ?_) AllReadyH.nil
            rw [if_pos (by rfl)]
            refine Lib.wp_append_run _ _ _ _ _ rfl (.slice sa' k sc') (.slice (some ⟨D2.heap.size, 0, none⟩) 1 1) (by rfl) (by rfl) (.slice (some ⟨gq, 0, none⟩) (k + 1) cap) D3 (r6 _) ?_
            refine hK.out _ _ ?_ (fun hHeld => ?_)
            · trivial
            clear hK K
            try simp only [Act.put, List.setIfInBounds_toArray, List.set_cons_zero, List.set_cons_succ]
            refine takeV13 (i := 7) (oi := _) (v := ?_) (d := some 33) rfl (by kernel_rfl) (by kernel_rfl) (by kernel_rfl) (by kernel_rfl) (fun _ _ _ h => h) (Or.inl ⟨by rfl, ?_⟩) (by assumption) ?_
            rotate_left
            · (intro w hSw; (try dsimp only at hSw); go_simp <;> with_reducible rfl)
            try simp only [Act.put, List.setIfInBounds_toArray, List.set_cons_zero, List.set_cons_succ]
            refine wpAnyH_ready (rs := [8]) (by kernel_rfl) (by simp) ?_
            refine AllReadyH.cons (o := _) rfl (fun K hK => ?_) AllReadyH.nil
            go_simp
            refine hK.out _ _ ?_ (fun hHeld => ?_)
            · trivial
            clear hK K
            try simp only [Act.put, List.setIfInBounds_toArray, List.set_cons_zero, List.set_cons_succ]
            refine wpAnyH_done (by kernel_rfl) ?_ _
            clear hHeld
            go_wp2
            exact ⟨⟨k + 1, _, cap, by omega, by go_num, NIP, NOX, NXA, NZR, NLL, NTT, NBB, NSZ⟩, by simp [intOf]; omega⟩
          case cr6 =>
            go_simp
            refine hK.out _ _ ?_ (fun hHeld => ?_)
            · trivial
            clear hK K
            try simp only [Act.put, List.setIfInBounds_toArray, List.set_cons_zero, List.set_cons_succ]
            refine wpAnyH_ready (rs := [1]) (by kernel_rfl) (by simp) ?_
            refine AllReadyH.cons (o := _) rfl (fun K hK => ?_) AllReadyH.nil
            go_simp
            refine hK.out _ _ ?_ (fun hHeld => ?_)
            · trivial
            clear hK K
            try simp only [Act.put, List.setIfInBounds_toArray, List.set_cons_zero, List.set_cons_succ]
            refine wpAnyH_ready (rs := [6]) (by kernel_rfl) (by simp) ?_
            refine AllReadyH.cons (o := _) rfl (fun K hK => ?_) AllReadyH.nil
            rw [if_pos (by rfl)]
            refine Lib.wp_append_run _ _ _ _ _ rfl (.slice sa' k sc') (.slice (some ⟨D2.heap.size, 0, none⟩) 1 1) (by rfl) (by rfl) (.slice (some ⟨gq, 0, none⟩) (k + 1) cap) D3 (r6 _) ?_
            refine hK.out _ _ ?_ (fun hHeld => ?_)
            · trivial
            clear hK K
            try simp only [Act.put, List.setIfInBounds_toArray, List.set_cons_zero, List.set_cons_succ]
            refine takeV13 (i := 7) (oi := _) (v := ?_) (d := some 33) rfl (by kernel_rfl) (by kernel_rfl) (by kernel_rfl) (by kernel_rfl) (fun _ _ _ h => h) (Or.inl ⟨by rfl, ?_⟩) (by assumption) ?_
            rotate_left
            · (intro w hSw; (try dsimp only at hSw); go_simp <;> with_reducible rfl)
            try simp only [Act.put, List.setIfInBounds_toArray, List.set_cons_zero, List.set_cons_succ]
            refine wpAnyH_ready (rs := [8]) (by kernel_rfl) (by simp) ?_
            refine AllReadyH.cons (o := _) rfl (fun K hK => ?_) AllReadyH.nil
            go_simp
            refine hK.out _ _ ?_ (fun hHeld => ?_)
            · trivial
            clear hK K
            try simp only [Act.put, List.setIfInBounds_toArray, List.set_cons_zero, List.set_cons_succ]
            refine wpAnyH_done (by kernel_rfl) ?_ _
            clear hHeld
            go_wp2
            exact ⟨⟨k + 1, _, cap, by omega, by go_num, NIP, NOX, NXA, NZR, NLL, NTT, NBB, NSZ⟩, by simp [intOf]; omega⟩


end Go.Proofs.Ytaokmjbhgkfnfaa
