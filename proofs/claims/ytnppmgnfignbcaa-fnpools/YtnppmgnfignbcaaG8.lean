/- Chapter 8, the program: whether a mix is good. -/
import Derived.Test.YtnppmgnfignbcaaT8
import Derived.Test.YtnppmgnfignbcaaN8
namespace Go.Proofs.Ytnppmgnfignbcaa
set_option linter.unusedVariables false
set_option maxRecDepth 1000000
set_option linter.unusedSimpArgs false
open Go.RowKit

theorem box_same (w : World) (p : Value) (a b o : Int) (s : Value) (t : TypeId) : (w.alloc (.cells #[p, .int .i64 a, .int .i64 b, .int .i64 o, s] t)).setCell ⟨w.heap.size, 0, none⟩ p = w.alloc (.cells #[p, .int .i64 a, .int .i64 b, .int .i64 o, s] t) ∧ (w.alloc (.cells #[p, .int .i64 a, .int .i64 b, .int .i64 o, s] t)).setCell ⟨w.heap.size, 1, none⟩ (.int .i64 a) = w.alloc (.cells #[p, .int .i64 a, .int .i64 b, .int .i64 o, s] t) ∧ (w.alloc (.cells #[p, .int .i64 a, .int .i64 b, .int .i64 o, s] t)).setCell ⟨w.heap.size, 2, none⟩ (.int .i64 b) = w.alloc (.cells #[p, .int .i64 a, .int .i64 b, .int .i64 o, s] t) ∧ (w.alloc (.cells #[p, .int .i64 a, .int .i64 b, .int .i64 o, s] t)).setCell ⟨w.heap.size, 3, none⟩ (.int .i64 o) = w.alloc (.cells #[p, .int .i64 a, .int .i64 b, .int .i64 o, s] t) ∧ (w.alloc (.cells #[p, .int .i64 a, .int .i64 b, .int .i64 o, s] t)).setCell ⟨w.heap.size, 4, none⟩ s = w.alloc (.cells #[p, .int .i64 a, .int .i64 b, .int .i64 o, s] t) := by
  refine ⟨?_, ?_, ?_, ?_, ?_⟩ <;> (rw [World.setCell_alloc_new]; rfl)

set_option maxHeartbeats 8000000 in
theorem implGood_c (po so : Option Addr) (n c m d : Nat) (a b t : Int) (xs : List ByteArray) (ys : List Int) (w : World) (hx : xs.length = n) (hy : ys.length = m) (hn : n ≤ 17592186044416) (hm : m ≤ 17592186044416) (hr : RdS w po xs) (hs : Rd w so ys) (hz : ∀ s ∈ xs, s.size ≤ 9223372036854775807) :
    Calls Try.prog 28 #[.agg #[.slice po n c, .int .i64 a, .int .i64 b, .int .i64 t, .slice so m d]] w fun e w' => e = .returned (.bool (goodB ⟨xs, a, b, t, ys⟩)) ∧ Below w.heap.size w w' := by
  have HG : Hid (goodB ⟨xs, a, b, t, ys⟩ = ((newB a b && ageB t n) && ((poolB xs && tagsB ys) && (risB ltS xs && (risB ltI ys && taggedB ys [] xs))))) := by show _ = _; unfold goodB; rw [hx]
  generalize goodB ⟨xs, a, b, t, ys⟩ = zb at HG ⊢
  have hC0 := c5_new w (.slice po n c) a b t (.slice so m d) 41 w.heap.size rfl
  have hB0 : Below w.heap.size w (w.alloc (.cells #[.slice po n c, .int .i64 a, .int .i64 b, .int .i64 t, .slice so m d] 41)) := balloc w _
  have HR : Hid (∀ wx, Below w.heap.size w wx → RdS wx po xs) := fun wx h => hr.later h
  have HS : Hid (∀ wx, Below w.heap.size w wx → Rd wx so ys) := fun wx h => hs.later h
  have HX : Hid (xs.length = n) := hx
  have HY : Hid (ys.length = m) := hy
  have HZ : Hid (∀ s ∈ xs, s.size ≤ 9223372036854775807) := hz
  obtain ⟨W0, hW0⟩ : ∃ W0, w.alloc (.cells #[.slice po n c, .int .i64 a, .int .i64 b, .int .i64 t, .slice so m d] 41) = W0 := ⟨_, rfl⟩
  rw [hW0] at hC0 hB0
  have HC0 : Hid (C5 W0 w.heap.size (.slice po n c) a b t (.slice so m d)) := hC0
  have HB0 : Hid (Below w.heap.size w W0) := hB0
  obtain ⟨⟨c0, c1, c2, c3, c4⟩, f⟩ := hC0
  clear hr hs hx hy hz hB0 f
  have q0 := implNew_c a b W0
  generalize (newM a b).least = la at q0
  generalize (newM a b).wait = lw at q0
  have q1 := fun wx => isAge_c t n wx hn
  cases e0 : newB a b with
  | false =>
    have HN : Hid (zb = false) := by show _ = _; rw [HG.out]; simp [e0]
    rw [e0] at q0
    go_enter Try.func28, Try.ntmps28
    go_wp2_with fail
    refine q0.mono ?_
    clear q0
    rintro e w1 ⟨rfl, hb⟩
    have hC := (HC0.out.later hb).later (balloc w1 (.cells #[.slice none 0 0, .int .i64 la, .int .i64 lw, .int .i64 0, .slice none 0 0] 41))
    have hB := (HB0.out.trans (hb.mono HB0.out.size)).alloc (Nat.le_trans HB0.out.size hb.size) (.cells #[.slice none 0 0, .int .i64 la, .int .i64 lw, .int .i64 0, .slice none 0 0] 41)
    have hN := c5_new w1 (.slice none 0 0) la lw 0 (.slice none 0 0) 41 w1.heap.size rfl
    obtain ⟨_, _, _, hS3, hS4⟩ := box_same w1 (.slice none 0 0) la lw 0 (.slice none 0 0) 41
    obtain ⟨V, hV⟩ : ∃ V, w1.alloc (.cells #[.slice none 0 0, .int .i64 la, .int .i64 lw, .int .i64 0, .slice none 0 0] 41) = V := ⟨_, rfl⟩
    rw [hV] at hC hB hN hS3 hS4
    obtain ⟨⟨_, _, _, n3, n4⟩, nf⟩ := hN
    have nf3 := nf 3
    have nf4 := nf 4
    clear nf
    have HC1 : Hid (C5 V w.heap.size (.slice po n c) a b t (.slice so m d)) := hC
    have HB1 : Hid (Below w.heap.size w V) := hB
    clear c0 c1 c2 c3 c4 hb hB hW0
    obtain ⟨⟨c0, c1, c2, c3, c4⟩, f⟩ := hC
    clear f
    go_wp2
    go_ret
    exact ⟨ret_bool HN.out.symm, HB1.out⟩
  | true =>
    cases e1 : ageB t n with
    | false =>
      have HN : Hid (zb = false) := by show _ = _; rw [HG.out]; simp [e0, e1]
      rw [e0] at q0
      rw [e1] at q1
      go_enter Try.func28, Try.ntmps28
      go_wp2_with fail
      refine q0.mono ?_
      clear q0
      rintro e w1 ⟨rfl, hb⟩
      have hC := (HC0.out.later hb).later (balloc w1 (.cells #[.slice none 0 0, .int .i64 la, .int .i64 lw, .int .i64 0, .slice none 0 0] 41))
      have hB := (HB0.out.trans (hb.mono HB0.out.size)).alloc (Nat.le_trans HB0.out.size hb.size) (.cells #[.slice none 0 0, .int .i64 la, .int .i64 lw, .int .i64 0, .slice none 0 0] 41)
      have hN := c5_new w1 (.slice none 0 0) la lw 0 (.slice none 0 0) 41 w1.heap.size rfl
      obtain ⟨_, _, _, hS3, hS4⟩ := box_same w1 (.slice none 0 0) la lw 0 (.slice none 0 0) 41
      obtain ⟨V, hV⟩ : ∃ V, w1.alloc (.cells #[.slice none 0 0, .int .i64 la, .int .i64 lw, .int .i64 0, .slice none 0 0] 41) = V := ⟨_, rfl⟩
      rw [hV] at hC hB hN hS3 hS4
      obtain ⟨⟨_, _, _, n3, n4⟩, nf⟩ := hN
      have nf3 := nf 3
      have nf4 := nf 4
      clear nf
      have HC1 : Hid (C5 V w.heap.size (.slice po n c) a b t (.slice so m d)) := hC
      have HB1 : Hid (Below w.heap.size w V) := hB
      clear c0 c1 c2 c3 c4 hb hB hW0
      obtain ⟨⟨c0, c1, c2, c3, c4⟩, f⟩ := hC
      clear f
      go_wp2_with fail
      refine (q1 _).mono ?_
      rintro e w' ⟨rfl, hw⟩
      subst w'
      clear hV q1 hS3 hS4 n3 n4 nf3 nf4
      go_wp2
      go_ret
      exact ⟨ret_bool HN.out.symm, HB1.out⟩
    | true =>
      cases e2 : poolB xs with
      | false =>
        have HN : Hid (zb = false) := by show _ = _; rw [HG.out]; simp [e0, e1, e2]
        rw [e0] at q0
        rw [e1] at q1
        go_enter Try.func28, Try.ntmps28
        go_wp2_with fail
        refine q0.mono ?_
        clear q0
        rintro e w1 ⟨rfl, hb⟩
        have hC := (HC0.out.later hb).later (balloc w1 (.cells #[.slice none 0 0, .int .i64 la, .int .i64 lw, .int .i64 0, .slice none 0 0] 41))
        have hB := (HB0.out.trans (hb.mono HB0.out.size)).alloc (Nat.le_trans HB0.out.size hb.size) (.cells #[.slice none 0 0, .int .i64 la, .int .i64 lw, .int .i64 0, .slice none 0 0] 41)
        have hN := c5_new w1 (.slice none 0 0) la lw 0 (.slice none 0 0) 41 w1.heap.size rfl
        obtain ⟨_, _, _, hS3, hS4⟩ := box_same w1 (.slice none 0 0) la lw 0 (.slice none 0 0) 41
        obtain ⟨V, hV⟩ : ∃ V, w1.alloc (.cells #[.slice none 0 0, .int .i64 la, .int .i64 lw, .int .i64 0, .slice none 0 0] 41) = V := ⟨_, rfl⟩
        rw [hV] at hC hB hN hS3 hS4
        obtain ⟨⟨_, _, _, n3, n4⟩, nf⟩ := hN
        have nf3 := nf 3
        have nf4 := nf 4
        clear nf
        have HC1 : Hid (C5 V w.heap.size (.slice po n c) a b t (.slice so m d)) := hC
        have HB1 : Hid (Below w.heap.size w V) := hB
        clear c0 c1 c2 c3 c4 hb hB hW0
        obtain ⟨⟨c0, c1, c2, c3, c4⟩, f⟩ := hC
        clear f
        go_wp2_with fail
        refine (q1 _).mono ?_
        rintro e w' ⟨rfl, hw⟩
        subst w'
        clear hV q1 hS3 hS4 n3 n4 nf3 nf4
        have q2 := fewS_c po n c xs V HX.out hn (HR.out V HB1.out) HZ.out
        rw [e2] at q2
        go_wp2_with fail
        refine (q2).mono ?_
        rintro e w' ⟨rfl, hw⟩
        subst w'
        clear q2
        go_wp2
        go_ret
        exact ⟨ret_bool HN.out.symm, HB1.out⟩
      | true =>
        cases e3 : tagsB ys with
        | false =>
          have HN : Hid (zb = false) := by show _ = _; rw [HG.out]; simp [e0, e1, e2, e3]
          rw [e0] at q0
          rw [e1] at q1
          go_enter Try.func28, Try.ntmps28
          go_wp2_with fail
          refine q0.mono ?_
          clear q0
          rintro e w1 ⟨rfl, hb⟩
          have hC := (HC0.out.later hb).later (balloc w1 (.cells #[.slice none 0 0, .int .i64 la, .int .i64 lw, .int .i64 0, .slice none 0 0] 41))
          have hB := (HB0.out.trans (hb.mono HB0.out.size)).alloc (Nat.le_trans HB0.out.size hb.size) (.cells #[.slice none 0 0, .int .i64 la, .int .i64 lw, .int .i64 0, .slice none 0 0] 41)
          have hN := c5_new w1 (.slice none 0 0) la lw 0 (.slice none 0 0) 41 w1.heap.size rfl
          obtain ⟨_, _, _, hS3, hS4⟩ := box_same w1 (.slice none 0 0) la lw 0 (.slice none 0 0) 41
          obtain ⟨V, hV⟩ : ∃ V, w1.alloc (.cells #[.slice none 0 0, .int .i64 la, .int .i64 lw, .int .i64 0, .slice none 0 0] 41) = V := ⟨_, rfl⟩
          rw [hV] at hC hB hN hS3 hS4
          obtain ⟨⟨_, _, _, n3, n4⟩, nf⟩ := hN
          have nf3 := nf 3
          have nf4 := nf 4
          clear nf
          have HC1 : Hid (C5 V w.heap.size (.slice po n c) a b t (.slice so m d)) := hC
          have HB1 : Hid (Below w.heap.size w V) := hB
          clear c0 c1 c2 c3 c4 hb hB hW0
          obtain ⟨⟨c0, c1, c2, c3, c4⟩, f⟩ := hC
          clear f
          go_wp2_with fail
          refine (q1 _).mono ?_
          rintro e w' ⟨rfl, hw⟩
          subst w'
          clear hV q1 hS3 hS4 n3 n4 nf3 nf4
          have q2 := fewS_c po n c xs V HX.out hn (HR.out V HB1.out) HZ.out
          rw [e2] at q2
          go_wp2_with fail
          refine (q2).mono ?_
          rintro e w' ⟨rfl, hw⟩
          subst w'
          clear q2
          have q3 := fewI_c so m d ys V HY.out hm (HS.out V HB1.out)
          rw [e3] at q3
          go_wp2_with fail
          refine (q3).mono ?_
          rintro e w' ⟨rfl, hw⟩
          subst w'
          clear q3
          go_wp2
          go_ret
          exact ⟨ret_bool HN.out.symm, HB1.out⟩
        | true =>
          cases e4 : risB ltS xs with
          | false =>
            have HN : Hid (zb = false) := by show _ = _; rw [HG.out]; simp [e0, e1, e2, e3, e4]
            rw [e0] at q0
            rw [e1] at q1
            go_enter Try.func28, Try.ntmps28
            go_wp2_with fail
            refine q0.mono ?_
            clear q0
            rintro e w1 ⟨rfl, hb⟩
            have hC := (HC0.out.later hb).later (balloc w1 (.cells #[.slice none 0 0, .int .i64 la, .int .i64 lw, .int .i64 0, .slice none 0 0] 41))
            have hB := (HB0.out.trans (hb.mono HB0.out.size)).alloc (Nat.le_trans HB0.out.size hb.size) (.cells #[.slice none 0 0, .int .i64 la, .int .i64 lw, .int .i64 0, .slice none 0 0] 41)
            have hN := c5_new w1 (.slice none 0 0) la lw 0 (.slice none 0 0) 41 w1.heap.size rfl
            obtain ⟨_, _, _, hS3, hS4⟩ := box_same w1 (.slice none 0 0) la lw 0 (.slice none 0 0) 41
            obtain ⟨V, hV⟩ : ∃ V, w1.alloc (.cells #[.slice none 0 0, .int .i64 la, .int .i64 lw, .int .i64 0, .slice none 0 0] 41) = V := ⟨_, rfl⟩
            rw [hV] at hC hB hN hS3 hS4
            obtain ⟨⟨_, _, _, n3, n4⟩, nf⟩ := hN
            have nf3 := nf 3
            have nf4 := nf 4
            clear nf
            have HC1 : Hid (C5 V w.heap.size (.slice po n c) a b t (.slice so m d)) := hC
            have HB1 : Hid (Below w.heap.size w V) := hB
            clear c0 c1 c2 c3 c4 hb hB hW0
            obtain ⟨⟨c0, c1, c2, c3, c4⟩, f⟩ := hC
            clear f
            go_wp2_with fail
            refine (q1 _).mono ?_
            rintro e w' ⟨rfl, hw⟩
            subst w'
            clear hV q1 hS3 hS4 n3 n4 nf3 nf4
            have q2 := fewS_c po n c xs V HX.out hn (HR.out V HB1.out) HZ.out
            rw [e2] at q2
            go_wp2_with fail
            refine (q2).mono ?_
            rintro e w' ⟨rfl, hw⟩
            subst w'
            clear q2
            have q3 := fewI_c so m d ys V HY.out hm (HS.out V HB1.out)
            rw [e3] at q3
            go_wp2_with fail
            refine (q3).mono ?_
            rintro e w' ⟨rfl, hw⟩
            subst w'
            clear q3
            have q4 := risingS_c po n c xs V HX.out hn (HR.out V HB1.out)
            rw [e4] at q4
            go_wp2_with fail
            refine q4.mono ?_
            clear q4
            rintro e V4 ⟨rfl, hb⟩
            have HC2 : Hid (C5 V4 w.heap.size (.slice po n c) a b t (.slice so m d)) := HC1.out.later hb
            have HB2 : Hid (Below w.heap.size w V4) := HB1.out.trans (hb.mono HB1.out.size)
            clear c0 c1 c2 c3 c4 hb HC1 HB1
            have HC1 : Hid (C5 V4 w.heap.size (.slice po n c) a b t (.slice so m d)) := HC2.out
            have HB1 : Hid (Below w.heap.size w V4) := HB2.out
            clear HC2 HB2
            obtain ⟨⟨c0, c1, c2, c3, c4⟩, f⟩ := HC1.out
            clear f
            go_wp2
            go_ret
            exact ⟨ret_bool HN.out.symm, HB1.out⟩
          | true =>
            cases e5 : risB ltI ys with
            | false =>
              have HN : Hid (zb = false) := by show _ = _; rw [HG.out]; simp [e0, e1, e2, e3, e4, e5]
              rw [e0] at q0
              rw [e1] at q1
              go_enter Try.func28, Try.ntmps28
              go_wp2_with fail
              refine q0.mono ?_
              clear q0
              rintro e w1 ⟨rfl, hb⟩
              have hC := (HC0.out.later hb).later (balloc w1 (.cells #[.slice none 0 0, .int .i64 la, .int .i64 lw, .int .i64 0, .slice none 0 0] 41))
              have hB := (HB0.out.trans (hb.mono HB0.out.size)).alloc (Nat.le_trans HB0.out.size hb.size) (.cells #[.slice none 0 0, .int .i64 la, .int .i64 lw, .int .i64 0, .slice none 0 0] 41)
              have hN := c5_new w1 (.slice none 0 0) la lw 0 (.slice none 0 0) 41 w1.heap.size rfl
              obtain ⟨_, _, _, hS3, hS4⟩ := box_same w1 (.slice none 0 0) la lw 0 (.slice none 0 0) 41
              obtain ⟨V, hV⟩ : ∃ V, w1.alloc (.cells #[.slice none 0 0, .int .i64 la, .int .i64 lw, .int .i64 0, .slice none 0 0] 41) = V := ⟨_, rfl⟩
              rw [hV] at hC hB hN hS3 hS4
              obtain ⟨⟨_, _, _, n3, n4⟩, nf⟩ := hN
              have nf3 := nf 3
              have nf4 := nf 4
              clear nf
              have HC1 : Hid (C5 V w.heap.size (.slice po n c) a b t (.slice so m d)) := hC
              have HB1 : Hid (Below w.heap.size w V) := hB
              clear c0 c1 c2 c3 c4 hb hB hW0
              obtain ⟨⟨c0, c1, c2, c3, c4⟩, f⟩ := hC
              clear f
              go_wp2_with fail
              refine (q1 _).mono ?_
              rintro e w' ⟨rfl, hw⟩
              subst w'
              clear hV q1 hS3 hS4 n3 n4 nf3 nf4
              have q2 := fewS_c po n c xs V HX.out hn (HR.out V HB1.out) HZ.out
              rw [e2] at q2
              go_wp2_with fail
              refine (q2).mono ?_
              rintro e w' ⟨rfl, hw⟩
              subst w'
              clear q2
              have q3 := fewI_c so m d ys V HY.out hm (HS.out V HB1.out)
              rw [e3] at q3
              go_wp2_with fail
              refine (q3).mono ?_
              rintro e w' ⟨rfl, hw⟩
              subst w'
              clear q3
              have q4 := risingS_c po n c xs V HX.out hn (HR.out V HB1.out)
              rw [e4] at q4
              go_wp2_with fail
              refine q4.mono ?_
              clear q4
              rintro e V4 ⟨rfl, hb⟩
              have HC2 : Hid (C5 V4 w.heap.size (.slice po n c) a b t (.slice so m d)) := HC1.out.later hb
              have HB2 : Hid (Below w.heap.size w V4) := HB1.out.trans (hb.mono HB1.out.size)
              clear c0 c1 c2 c3 c4 hb HC1 HB1
              have HC1 : Hid (C5 V4 w.heap.size (.slice po n c) a b t (.slice so m d)) := HC2.out
              have HB1 : Hid (Below w.heap.size w V4) := HB2.out
              clear HC2 HB2
              obtain ⟨⟨c0, c1, c2, c3, c4⟩, f⟩ := HC1.out
              clear f
              have q5 := risingI_c so m d ys V4 HY.out hm (HS.out V4 HB1.out)
              rw [e5] at q5
              go_wp2_with fail
              refine q5.mono ?_
              clear q5
              rintro e V5 ⟨rfl, hb⟩
              have HC2 : Hid (C5 V5 w.heap.size (.slice po n c) a b t (.slice so m d)) := HC1.out.later hb
              have HB2 : Hid (Below w.heap.size w V5) := HB1.out.trans (hb.mono HB1.out.size)
              clear c0 c1 c2 c3 c4 hb HC1 HB1
              have HC1 : Hid (C5 V5 w.heap.size (.slice po n c) a b t (.slice so m d)) := HC2.out
              have HB1 : Hid (Below w.heap.size w V5) := HB2.out
              clear HC2 HB2
              obtain ⟨⟨c0, c1, c2, c3, c4⟩, f⟩ := HC1.out
              clear f
              go_wp2
              go_ret
              exact ⟨ret_bool HN.out.symm, HB1.out⟩
            | true =>
              have HN : Hid (zb = taggedB ys [] xs) := by show _ = _; rw [HG.out]; simp [e0, e1, e2, e3, e4, e5]
              have hn12 : n ≤ 12 := by have h := e2; unfold poolB at h; simp only [Bool.and_eq_true, decide_eq_true_eq] at h; rw [← HX.out]; exact h.1
              have hm100 : m ≤ 1000 := by have h := e3; unfold tagsB at h; simp only [Bool.and_eq_true, decide_eq_true_eq] at h; have := HY.out; omega
              have E5 : Hid (risB ltI ys = true) := e5
              rw [e0] at q0
              rw [e1] at q1
              go_enter Try.func28, Try.ntmps28
              go_wp2_with fail
              refine q0.mono ?_
              clear q0
              rintro e w1 ⟨rfl, hb⟩
              have hC := (HC0.out.later hb).later (balloc w1 (.cells #[.slice none 0 0, .int .i64 la, .int .i64 lw, .int .i64 0, .slice none 0 0] 41))
              have hB := (HB0.out.trans (hb.mono HB0.out.size)).alloc (Nat.le_trans HB0.out.size hb.size) (.cells #[.slice none 0 0, .int .i64 la, .int .i64 lw, .int .i64 0, .slice none 0 0] 41)
              have hN := c5_new w1 (.slice none 0 0) la lw 0 (.slice none 0 0) 41 w1.heap.size rfl
              obtain ⟨_, _, _, hS3, hS4⟩ := box_same w1 (.slice none 0 0) la lw 0 (.slice none 0 0) 41
              obtain ⟨V, hV⟩ : ∃ V, w1.alloc (.cells #[.slice none 0 0, .int .i64 la, .int .i64 lw, .int .i64 0, .slice none 0 0] 41) = V := ⟨_, rfl⟩
              rw [hV] at hC hB hN hS3 hS4
              obtain ⟨⟨_, _, _, n3, n4⟩, nf⟩ := hN
              have nf3 := nf 3
              have nf4 := nf 4
              clear nf
              have HC1 : Hid (C5 V w.heap.size (.slice po n c) a b t (.slice so m d)) := hC
              have HB1 : Hid (Below w.heap.size w V) := hB
              clear c0 c1 c2 c3 c4 hb hB hW0
              obtain ⟨⟨c0, c1, c2, c3, c4⟩, f⟩ := hC
              clear f
              go_wp2_with fail
              refine (q1 _).mono ?_
              rintro e w' ⟨rfl, hw⟩
              subst w'
              clear hV q1 hS3 hS4 n3 n4 nf3 nf4
              have q2 := fewS_c po n c xs V HX.out hn (HR.out V HB1.out) HZ.out
              rw [e2] at q2
              go_wp2_with fail
              refine (q2).mono ?_
              rintro e w' ⟨rfl, hw⟩
              subst w'
              clear q2
              have q3 := fewI_c so m d ys V HY.out hm (HS.out V HB1.out)
              rw [e3] at q3
              go_wp2_with fail
              refine (q3).mono ?_
              rintro e w' ⟨rfl, hw⟩
              subst w'
              clear q3
              have q4 := risingS_c po n c xs V HX.out hn (HR.out V HB1.out)
              rw [e4] at q4
              go_wp2_with fail
              refine q4.mono ?_
              clear q4
              rintro e V4 ⟨rfl, hb⟩
              have HC2 : Hid (C5 V4 w.heap.size (.slice po n c) a b t (.slice so m d)) := HC1.out.later hb
              have HB2 : Hid (Below w.heap.size w V4) := HB1.out.trans (hb.mono HB1.out.size)
              clear c0 c1 c2 c3 c4 hb HC1 HB1
              have HC1 : Hid (C5 V4 w.heap.size (.slice po n c) a b t (.slice so m d)) := HC2.out
              have HB1 : Hid (Below w.heap.size w V4) := HB2.out
              clear HC2 HB2
              obtain ⟨⟨c0, c1, c2, c3, c4⟩, f⟩ := HC1.out
              clear f
              have q5 := risingI_c so m d ys V4 HY.out hm (HS.out V4 HB1.out)
              rw [e5] at q5
              go_wp2_with fail
              refine q5.mono ?_
              clear q5
              rintro e V5 ⟨rfl, hb⟩
              have HC2 : Hid (C5 V5 w.heap.size (.slice po n c) a b t (.slice so m d)) := HC1.out.later hb
              have HB2 : Hid (Below w.heap.size w V5) := HB1.out.trans (hb.mono HB1.out.size)
              clear c0 c1 c2 c3 c4 hb HC1 HB1
              have HC1 : Hid (C5 V5 w.heap.size (.slice po n c) a b t (.slice so m d)) := HC2.out
              have HB1 : Hid (Below w.heap.size w V5) := HB2.out
              clear HC2 HB2
              obtain ⟨⟨c0, c1, c2, c3, c4⟩, f⟩ := HC1.out
              clear f
              have q6 := isTagged_c po so n c m d xs ys V5 HX.out HY.out hn12 hm100 (HR.out V5 HB1.out) (HS.out V5 HB1.out) HZ.out ((risB_ris ordI).1 E5.out)
              generalize taggedB ys [] xs = z6 at q6 HN
              go_wp2_with fail
              refine q6.mono ?_
              clear q6
              rintro e V6 ⟨rfl, hb⟩
              have HC2 : Hid (C5 V6 w.heap.size (.slice po n c) a b t (.slice so m d)) := HC1.out.later hb
              have HB2 : Hid (Below w.heap.size w V6) := HB1.out.trans (hb.mono HB1.out.size)
              clear c0 c1 c2 c3 c4 hb HC1 HB1
              have HC1 : Hid (C5 V6 w.heap.size (.slice po n c) a b t (.slice so m d)) := HC2.out
              have HB1 : Hid (Below w.heap.size w V6) := HB2.out
              clear HC2 HB2
              obtain ⟨⟨c0, c1, c2, c3, c4⟩, f⟩ := HC1.out
              clear f
              go_wp2
              go_ret
              exact ⟨ret_bool HN.out.symm, HB1.out⟩

end Go.Proofs.Ytnppmgnfignbcaa
