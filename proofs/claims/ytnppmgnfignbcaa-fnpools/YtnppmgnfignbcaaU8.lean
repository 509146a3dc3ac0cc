/- Chapter 8, the program: a text put into a mix. -/
import Derived.Test.YtnppmgnfignbcaaM8
import Derived.BigRegion
namespace Go.Proofs.Ytnppmgnfignbcaa
set_option linter.unusedVariables false
set_option maxRecDepth 1000000
set_option linter.unusedSimpArgs false
open Go.RowKit

/-- What the program's PutMix tells. -/
def putI (m : MixV) (s : ByteArray) : MixV × Int × Bool :=
  if shortB s = true then
    if goodB m = true then
      if tagN s ∈ m.seen then (m, 1, true)
      else if m.pool.length = 12 ∨ m.seen.length = 100 then (MixV.zero, 2, true)
      else ((putM m s).1, 0, true)
    else (MixV.zero, 0, false)
  else (MixV.zero, 0, false)

/-- A mix that is handed back: a value whose lists are the call's own. -/
def MixOut (w w' : World) (v : Value) (z : MixV) : Prop := ∃ p' c' s' d', v = .agg #[.slice p' z.pool.length c', .int .i64 z.least, .int .i64 z.wait, .int .i64 z.old, .slice s' z.seen.length d'] ∧ OwnS w' w.heap.size (.slice p' z.pool.length c') z.pool ∧ Own w' w.heap.size (.slice s' z.seen.length d') z.seen
theorem mixOut_zero (w w' : World) : MixOut w w' (.agg #[.slice none 0 0, .int .i64 0, .int .i64 0, .int .i64 0, .slice none 0 0]) MixV.zero := ⟨none, 0, none, 0, rfl, World.ownsRow_nil _ _ _ _, World.ownsRow_nil _ _ _ _⟩

set_option maxHeartbeats 16000000 in
theorem implPut_c (po so : Option Addr) (n c m d : Nat) (a b t : Int) (s : ByteArray) (xs : List ByteArray) (ys : List Int) (w : World) (hx : xs.length = n) (hy : ys.length = m) (hn : n ≤ 17592186044416) (hm : m ≤ 17592186044416) (hr : RdS w po xs) (hs : Rd w so ys) (hz : ∀ s ∈ xs, s.size ≤ 9223372036854775807) (hsz : s.size ≤ 9223372036854775807) (hnil : so = none → m = 0 ∧ d = 0) :
    Calls Try.prog 25 #[.agg #[.slice po n c, .int .i64 a, .int .i64 b, .int .i64 t, .slice so m d], .string s] w fun e w' => ∃ v, e = .returned (.tuple #[v, .int .i64 (putI ⟨xs, a, b, t, ys⟩ s).2.1, .bool (putI ⟨xs, a, b, t, ys⟩ s).2.2]) ∧ MixOut w w' v (putI ⟨xs, a, b, t, ys⟩ s).1 ∧ Below w.heap.size w w' := by
  obtain ⟨W0, hW0, hC0, hD0, hB0, hS0⟩ := two_boxes w (.slice po n c) a b t (.slice so m d) 41
  have HC0 : Hid (C5 W0 w.heap.size (.slice po n c) a b t (.slice so m d)) := hC0
  have HD0 : Hid (C5 W0 (w.heap.size + 1) (.slice none 0 0) 0 0 0 (.slice none 0 0)) := hD0
  have HB0 : Hid (Below w.heap.size w W0) := hB0
  have HS0 : Hid (W0.heap.size = w.heap.size + 2) := hS0
  have HX : Hid (xs.length = n) := hx
  have HY : Hid (ys.length = m) := hy
  have HR : Hid (∀ wx, Below w.heap.size w wx → RdS wx po xs) := fun wx h => hr.later h
  have HS : Hid (∀ wx, Below w.heap.size w wx → Rd wx so ys) := fun wx h => hs.later h
  have q2 := implGood_c po so n c m d a b t xs ys W0 hx hy hn hm (hr.later hB0) (hs.later hB0) hz
  obtain ⟨⟨c0, c1, c2, c3, c4⟩, f⟩ := hC0
  obtain ⟨⟨e0, e1, e2, e3, e4⟩, ef⟩ := hD0
  have ef0 := ef 0; have ef1 := ef 1; have ef2 := ef 2; have ef3 := ef 3; have ef4 := ef 4
  have HNIL : Hid (so = none → m = 0 ∧ d = 0) := hnil
  clear hr hs hz hB0 hS0 f ef hx hy hnil
  cases hb : shortB s with
  | false =>
    have hF : putI ⟨xs, a, b, t, ys⟩ s = (MixV.zero, 0, false) := by unfold putI; rw [if_neg (by rw [hb]; simp)]
    rw [hF]
    have q1 := fun wx => implTag_c s wx hsz 0 false (by unfold tagF; rw [if_neg (by rw [hb]; simp)])
    clear hb q2 hF
    go_enter Try.func25, Try.ntmps25
    go_wp2_with (go_at_call 17; refine (q1 _).mono ?_; clear q1; rintro e w' ⟨rfl, hw⟩; subst w')
    refine bodyPost_ret (v := .tuple #[.agg #[.slice none 0 0, .int .i64 0, .int .i64 0, .int .i64 0, .slice none 0 0], .int .i64 0, .bool false]) (by simp [results, Try.results25, go_sem, e0, e1, e2, e3, e4]; try rfl) rfl ?_
    exact ⟨_, rfl, mixOut_zero _ _, HB0.out.trans (below_grown (put5_grown _ _ _ _ _ _ _) (by omega) HB0.out.size)⟩
  | true =>
    have q1 := fun wx => implTag_c s wx hsz (tagN s) true (by unfold tagF; rw [if_pos hb])
    have hs24 : s.size ≤ 24 := by simpa [shortB] using hb
    cases hg : goodB ⟨xs, a, b, t, ys⟩ with
    | false =>
      have hF : putI ⟨xs, a, b, t, ys⟩ s = (MixV.zero, 0, false) := by unfold putI; rw [if_pos hb, if_neg (by rw [hg]; simp)]
      rw [hF]
      rw [hg] at q2
      generalize tagN s = g at q1
      clear hb hg hF
      go_enter Try.func25, Try.ntmps25
      go_wp2_with (go_at_call 17; refine (q1 _).mono ?_; clear q1; rintro e w' ⟨rfl, hw⟩; subst w')
      refine q2.mono ?_
      clear q2
      rintro e w1 ⟨rfl, hb1⟩
      have HB1 : Hid (Below w.heap.size w w1) := HB0.out.trans (hb1.mono HB0.out.size)
      clear e0 e1 e2 e3 e4 ef0 ef1 ef2 ef3 ef4 hW0
      obtain ⟨⟨e0, e1, e2, e3, e4⟩, ef⟩ := HD0.out.later hb1
      have ef0 := ef 0; have ef1 := ef 1; have ef2 := ef 2; have ef3 := ef 3; have ef4 := ef 4
      clear hb1 ef c0 c1 c2 c3 c4
      go_wp2
      refine bodyPost_ret (v := .tuple #[.agg #[.slice none 0 0, .int .i64 0, .int .i64 0, .int .i64 0, .slice none 0 0], .int .i64 0, .bool false]) (by simp [results, Try.results25, go_sem, e0, e1, e2, e3, e4]; try rfl) rfl ?_
      exact ⟨_, rfl, mixOut_zero _ _, HB1.out.trans (below_grown (put5_grown _ _ _ _ _ _ _) (by omega) HB1.out.size)⟩
    | true =>
      have G := (goodB_iff _).1 hg
      have hn12 : n ≤ 12 := by have := G.many; rw [← HX.out]; exact this
      have hm100 : m ≤ 100 := by have := G.seens; rw [← HY.out]; exact this
      have HRX : Hid (Ris ltS xs) := G.rising
      have HRY : Hid (Ris ltI ys) := G.risen
      have HZX : Hid (∀ s ∈ xs, s.size ≤ 1000) := fun s hs => by have h24 : s.size ≤ 24 := G.short s hs; omega
      have HCP : Hid (∀ wx, Below w.heap.size w wx → Calls Try.prog 71 #[.agg #[.slice po n c, .int .i64 a, .int .i64 b, .int .i64 t, .slice so m d]] wx fun e w' => ∃ p' c' s' d', e = .returned (.agg #[.slice p' n c', .int .i64 a, .int .i64 b, .int .i64 t, .slice s' m d']) ∧ OwnS w' wx.heap.size (.slice p' n c') xs ∧ Own w' wx.heap.size (.slice s' m d') ys ∧ Below wx.heap.size wx w') := fun wx h => copyOfMix_c po so n c m d a b t xs ys wx HX.out HY.out (by omega) (by omega) (HR.out _ h) (HS.out _ h) HZX.out HNIL.out
      have HHS : Hid (∀ wx, Below w.heap.size w wx → Calls Try.prog 70 #[.slice so m d, .int .i64 (tagN s)] wx fun e w' => e = .returned (.bool (decide (tagN s ∈ ys))) ∧ Below wx.heap.size wx w') := fun wx h => has_c so m d ys (tagN s) wx HY.out (by omega) (HS.out _ h) HRY.out
      rw [hg] at q2
      clear G
      by_cases h1 : tagN s ∈ ys
      · have hF : putI ⟨xs, a, b, t, ys⟩ s = (⟨xs, a, b, t, ys⟩, 1, true) := by unfold putI; rw [if_pos hb, if_pos hg, if_pos h1]
        rw [hF]
        rw [decide_eq_true h1] at HHS
        generalize tagN s = g at q1 HHS
        clear hb hg hF h1
        go_enter Try.func25, Try.ntmps25
        go_wp2_with (go_at_call 17; refine (q1 _).mono ?_; clear q1; rintro e w' ⟨rfl, hw⟩; subst w')
        refine q2.mono ?_
        clear q2
        rintro e w1 ⟨rfl, hb1⟩
        have HB1 : Hid (Below w.heap.size w w1) := HB0.out.trans (hb1.mono HB0.out.size)
        have HC1 : Hid (C5 w1 w.heap.size (.slice po n c) a b t (.slice so m d)) := HC0.out.later hb1
        have HD1 : Hid (C5 w1 (w.heap.size + 1) (.slice none 0 0) 0 0 0 (.slice none 0 0)) := HD0.out.later hb1
        have HZ1 : Hid (w.heap.size + 2 ≤ w1.heap.size) := by show _ ≤ _; have := HS0.out; have := hb1.size; omega
        clear e0 e1 e2 e3 e4 ef0 ef1 ef2 ef3 ef4 hW0 c0 c1 c2 c3 c4 hb1 HC0 HD0 HB0
        obtain ⟨⟨c0, c1, c2, c3, c4⟩, f⟩ := HC1.out
        clear f
        go_wp2_with fail
        refine (HHS.out _ HB1.out).mono ?_
        rintro e w2 ⟨rfl, hb2⟩
        have HB2 : Hid (Below w.heap.size w w2) := HB1.out.trans (hb2.mono HB1.out.size)
        have HC2 : Hid (C5 w2 w.heap.size (.slice po n c) a b t (.slice so m d)) := HC1.out.later hb2
        have HD2 : Hid (C5 w2 (w.heap.size + 1) (.slice none 0 0) 0 0 0 (.slice none 0 0)) := HD1.out.later hb2
        have HZ2 : Hid (w.heap.size + 2 ≤ w2.heap.size) := Nat.le_trans HZ1.out hb2.size
        clear c0 c1 c2 c3 c4 hb2 HC1 HD1 HB1 HZ1 HHS
        obtain ⟨⟨c0, c1, c2, c3, c4⟩, f⟩ := HC2.out
        clear f
        go_wp2_with fail
        refine (HCP.out _ HB2.out).mono ?_
        rintro e w3 ⟨p3, k3, s3, d3, rfl, ho3, hp3, hb3⟩
        have HB3 : Hid (Below w.heap.size w w3) := HB2.out.trans (hb3.mono HB2.out.size)
        have HD3 : Hid (C5 w3 (w.heap.size + 1) (.slice none 0 0) 0 0 0 (.slice none 0 0)) := HD2.out.later hb3
        have HO3 : Hid (OwnS w3 (w.heap.size + 2) (.slice p3 n k3) xs) := ho3.mono HZ2.out
        have HP3 : Hid (Own w3 (w.heap.size + 2) (.slice s3 m d3) ys) := hp3.mono HZ2.out
        have HZ3 : Hid (w.heap.size + 2 ≤ w3.heap.size) := Nat.le_trans HZ2.out hb3.size
        clear c0 c1 c2 c3 c4 hb3 ho3 hp3 HC2 HD2 HB2 HZ2 HCP
        obtain ⟨⟨e0, e1, e2, e3, e4⟩, ef⟩ := HD3.out
        have ef0 := ef 0; have ef1 := ef 1; have ef2 := ef 2; have ef3 := ef 3; have ef4 := ef 4
        clear ef
        go_wp2
        refine bodyPost_ret (v := .tuple #[.agg #[.slice p3 n k3, .int .i64 a, .int .i64 b, .int .i64 t, .slice s3 m d3], .int .i64 1, .bool true]) (by simp [results, Try.results25, go_sem, e0, e1, e2, e3, e4]; try rfl) rfl ?_
        refine ⟨_, rfl, ⟨p3, k3, s3, d3, ?_, ?_, ?_⟩, HB3.out.trans (below_grown (put5_grown _ _ _ _ _ _ _) (by omega) HB3.out.size)⟩
        · show _ = Value.agg #[.slice p3 xs.length k3, .int .i64 a, .int .i64 b, .int .i64 t, .slice s3 ys.length d3]
          rw [HX.out, HY.out]
        · show OwnS _ _ (.slice p3 xs.length k3) xs
          rw [HX.out]; exact (HO3.out.putBox (r := w.heap.size + 1) (by omega) _ _ _ _ _).mono (by omega)
        · show Own _ _ (.slice s3 ys.length d3) ys
          rw [HY.out]; exact (HP3.out.putBox (r := w.heap.size + 1) (by omega) _ _ _ _ _).mono (by omega)
      · rw [decide_eq_false h1] at HHS
        by_cases h2 : n = 12 ∨ m = 100
        · have hF : putI ⟨xs, a, b, t, ys⟩ s = (MixV.zero, 2, true) := by unfold putI; rw [if_pos hb, if_pos hg, if_neg h1, if_pos (by show xs.length = 12 ∨ ys.length = 100; rw [HX.out, HY.out]; exact h2)]
          rw [hF]
          generalize tagN s = g at q1 HHS
          clear hb hg hF h1 HCP
          by_cases h12 : n = 12
          · have hi1 : ((n : Int) == 12) = true := by rw [beq_iff_eq]; omega
            have hi2 : (n : Int) = 12 := by omega
            clear h12 h2
            go_enter Try.func25, Try.ntmps25
            go_wp2_with (go_at_call 17; refine (q1 _).mono ?_; clear q1; rintro e w' ⟨rfl, hw⟩; subst w')
            refine q2.mono ?_
            clear q2
            rintro e w1 ⟨rfl, hb1⟩
            have HB1 : Hid (Below w.heap.size w w1) := HB0.out.trans (hb1.mono HB0.out.size)
            have HC1 : Hid (C5 w1 w.heap.size (.slice po n c) a b t (.slice so m d)) := HC0.out.later hb1
            have HD1 : Hid (C5 w1 (w.heap.size + 1) (.slice none 0 0) 0 0 0 (.slice none 0 0)) := HD0.out.later hb1
            have HZ1 : Hid (w.heap.size + 2 ≤ w1.heap.size) := by show _ ≤ _; have := HS0.out; have := hb1.size; omega
            clear e0 e1 e2 e3 e4 ef0 ef1 ef2 ef3 ef4 hW0 c0 c1 c2 c3 c4 hb1 HC0 HD0 HB0
            obtain ⟨⟨c0, c1, c2, c3, c4⟩, f⟩ := HC1.out
            clear f
            go_wp2_with fail
            refine (HHS.out _ HB1.out).mono ?_
            rintro e w2 ⟨rfl, hb2⟩
            have HB2 : Hid (Below w.heap.size w w2) := HB1.out.trans (hb2.mono HB1.out.size)
            have HC2 : Hid (C5 w2 w.heap.size (.slice po n c) a b t (.slice so m d)) := HC1.out.later hb2
            have HD2 : Hid (C5 w2 (w.heap.size + 1) (.slice none 0 0) 0 0 0 (.slice none 0 0)) := HD1.out.later hb2
            have HZ2 : Hid (w.heap.size + 2 ≤ w2.heap.size) := Nat.le_trans HZ1.out hb2.size
            clear c0 c1 c2 c3 c4 hb2 HC1 HD1 HB1 HZ1 HHS
            obtain ⟨⟨c0, c1, c2, c3, c4⟩, f⟩ := HC2.out
            clear f
            obtain ⟨⟨e0, e1, e2, e3, e4⟩, ef⟩ := HD2.out
            have ef0 := ef 0; have ef1 := ef 1; have ef2 := ef 2; have ef3 := ef 3; have ef4 := ef 4
            clear ef
            go_wp2
            refine bodyPost_ret (v := .tuple #[.agg #[.slice none 0 0, .int .i64 0, .int .i64 0, .int .i64 0, .slice none 0 0], .int .i64 2, .bool true]) (by simp [results, Try.results25, go_sem, e0, e1, e2, e3, e4]; try rfl) rfl ?_
            exact ⟨_, rfl, mixOut_zero _ _, HB2.out.trans (below_grown (put5_grown _ _ _ _ _ _ _) (by omega) HB2.out.size)⟩
          · have hi1 : ((n : Int) == 12) = false := by rw [beq_eq_false_iff_ne]; omega
            have hi2 : ¬ (n : Int) = 12 := by omega
            have hi3 : ((m : Int) == 100) = true := by rw [beq_iff_eq]; omega
            have hi4 : (m : Int) = 100 := by omega
            clear h12 h2
            go_enter Try.func25, Try.ntmps25
            go_wp2_with (go_at_call 17; refine (q1 _).mono ?_; clear q1; rintro e w' ⟨rfl, hw⟩; subst w')
            refine q2.mono ?_
            clear q2
            rintro e w1 ⟨rfl, hb1⟩
            have HB1 : Hid (Below w.heap.size w w1) := HB0.out.trans (hb1.mono HB0.out.size)
            have HC1 : Hid (C5 w1 w.heap.size (.slice po n c) a b t (.slice so m d)) := HC0.out.later hb1
            have HD1 : Hid (C5 w1 (w.heap.size + 1) (.slice none 0 0) 0 0 0 (.slice none 0 0)) := HD0.out.later hb1
            have HZ1 : Hid (w.heap.size + 2 ≤ w1.heap.size) := by show _ ≤ _; have := HS0.out; have := hb1.size; omega
            clear e0 e1 e2 e3 e4 ef0 ef1 ef2 ef3 ef4 hW0 c0 c1 c2 c3 c4 hb1 HC0 HD0 HB0
            obtain ⟨⟨c0, c1, c2, c3, c4⟩, f⟩ := HC1.out
            clear f
            go_wp2_with fail
            refine (HHS.out _ HB1.out).mono ?_
            rintro e w2 ⟨rfl, hb2⟩
            have HB2 : Hid (Below w.heap.size w w2) := HB1.out.trans (hb2.mono HB1.out.size)
            have HC2 : Hid (C5 w2 w.heap.size (.slice po n c) a b t (.slice so m d)) := HC1.out.later hb2
            have HD2 : Hid (C5 w2 (w.heap.size + 1) (.slice none 0 0) 0 0 0 (.slice none 0 0)) := HD1.out.later hb2
            have HZ2 : Hid (w.heap.size + 2 ≤ w2.heap.size) := Nat.le_trans HZ1.out hb2.size
            clear c0 c1 c2 c3 c4 hb2 HC1 HD1 HB1 HZ1 HHS
            obtain ⟨⟨c0, c1, c2, c3, c4⟩, f⟩ := HC2.out
            clear f
            obtain ⟨⟨e0, e1, e2, e3, e4⟩, ef⟩ := HD2.out
            have ef0 := ef 0; have ef1 := ef 1; have ef2 := ef 2; have ef3 := ef 3; have ef4 := ef 4
            clear ef
            go_wp2
            refine bodyPost_ret (v := .tuple #[.agg #[.slice none 0 0, .int .i64 0, .int .i64 0, .int .i64 0, .slice none 0 0], .int .i64 2, .bool true]) (by simp [results, Try.results25, go_sem, e0, e1, e2, e3, e4]; try rfl) rfl ?_
            exact ⟨_, rfl, mixOut_zero _ _, HB2.out.trans (below_grown (put5_grown _ _ _ _ _ _ _) (by omega) HB2.out.size)⟩
        · have hF : putI ⟨xs, a, b, t, ys⟩ s = (⟨insL ltS s xs, a, b, t, insL ltI (tagN s) ys⟩, 0, true) := by
            have h2' : ¬ (xs.length = 12 ∨ ys.length = 100) := by rw [HX.out, HY.out]; exact h2
            unfold putI
            rw [if_pos hb, if_pos hg, if_neg h1, if_neg h2']
            unfold putM
            rw [if_neg h1, if_neg h2']
          rw [hF]
          have hi1 : ((n : Int) == 12) = false := by rw [beq_eq_false_iff_ne]; omega
          have hi2 : ¬ (n : Int) = 12 := by omega
          have hi3 : ((m : Int) == 100) = false := by rw [beq_eq_false_iff_ne]; omega
          have hi4 : ¬ (m : Int) = 100 := by omega
          have HCL : Hid (∀ wx, Calls Try.prog 65 #[.string s] wx fun e w' => e = .returned (.string s) ∧ Below wx.heap.size wx w') := fun wx => strClone_c s wx (by omega)
          have HL1 : Hid ((insL ltS s xs).length = n + 1) := by show _ = _; rw [insL_length, HX.out]
          have HL2 : Hid ((insL ltI (tagN s) ys).length = m + 1) := by show _ = _; rw [insL_length, HY.out]
          generalize tagN s = g at q1 HHS HL2
          clear hb hg hF h1 h2
          go_enter Try.func25, Try.ntmps25
          go_wp2_with (go_at_call 17; refine (q1 _).mono ?_; clear q1; rintro e w' ⟨rfl, hw⟩; subst w')
          refine q2.mono ?_
          clear q2
          rintro e w1 ⟨rfl, hb1⟩
          have HB1 : Hid (Below w.heap.size w w1) := HB0.out.trans (hb1.mono HB0.out.size)
          have HC1 : Hid (C5 w1 w.heap.size (.slice po n c) a b t (.slice so m d)) := HC0.out.later hb1
          have HD1 : Hid (C5 w1 (w.heap.size + 1) (.slice none 0 0) 0 0 0 (.slice none 0 0)) := HD0.out.later hb1
          have HZ1 : Hid (w.heap.size + 2 ≤ w1.heap.size) := by show _ ≤ _; have := HS0.out; have := hb1.size; omega
          clear e0 e1 e2 e3 e4 ef0 ef1 ef2 ef3 ef4 hW0 c0 c1 c2 c3 c4 hb1 HC0 HD0 HB0
          obtain ⟨⟨c0, c1, c2, c3, c4⟩, f⟩ := HC1.out
          clear f
          go_wp2_with fail
          refine (HHS.out _ HB1.out).mono ?_
          rintro e w2 ⟨rfl, hb2⟩
          have HB2 : Hid (Below w.heap.size w w2) := HB1.out.trans (hb2.mono HB1.out.size)
          have HC2 : Hid (C5 w2 w.heap.size (.slice po n c) a b t (.slice so m d)) := HC1.out.later hb2
          have HD2 : Hid (C5 w2 (w.heap.size + 1) (.slice none 0 0) 0 0 0 (.slice none 0 0)) := HD1.out.later hb2
          have HZ2 : Hid (w.heap.size + 2 ≤ w2.heap.size) := Nat.le_trans HZ1.out hb2.size
          clear c0 c1 c2 c3 c4 hb2 HC1 HD1 HB1 HZ1 HHS
          obtain ⟨⟨c0, c1, c2, c3, c4⟩, f⟩ := HC2.out
          clear f
          go_wp2_with fail
          refine (HCP.out _ HB2.out).mono ?_
          rintro e w3 ⟨p3, k3, s3, d3, rfl, ho3, hp3, hb3⟩
          have HB3 : Hid (Below w.heap.size w w3) := HB2.out.trans (hb3.mono HB2.out.size)
          have HD3 : Hid (C5 w3 (w.heap.size + 1) (.slice none 0 0) 0 0 0 (.slice none 0 0)) := HD2.out.later hb3
          have HO3 : Hid (OwnS w3 (w.heap.size + 2) (.slice p3 n k3) xs) := ho3.mono HZ2.out
          have HP3 : Hid (Own w3 (w.heap.size + 2) (.slice s3 m d3) ys) := hp3.mono HZ2.out
          have HZ3 : Hid (w.heap.size + 2 ≤ w3.heap.size) := Nat.le_trans HZ2.out hb3.size
          clear c0 c1 c2 c3 c4 hb3 ho3 hp3 HC2 HD2 HB2 HZ2 HCP
          have hN := c5_new w3 (.slice p3 n k3) a b t (.slice s3 m d3) 41 w3.heap.size rfl
          have hD4 := HD3.out.later (balloc w3 (.cells #[.slice p3 n k3, .int .i64 a, .int .i64 b, .int .i64 t, .slice s3 m d3] 41))
          have hO4 := HO3.out.later (balloc w3 (.cells #[.slice p3 n k3, .int .i64 a, .int .i64 b, .int .i64 t, .slice s3 m d3] 41))
          have hP4 := HP3.out.later (balloc w3 (.cells #[.slice p3 n k3, .int .i64 a, .int .i64 b, .int .i64 t, .slice s3 m d3] 41))
          have hB4 := HB3.out.alloc HB3.out.size (.cells #[.slice p3 n k3, .int .i64 a, .int .i64 b, .int .i64 t, .slice s3 m d3] 41)
          have hZ4 : (w3.alloc (.cells #[.slice p3 n k3, .int .i64 a, .int .i64 b, .int .i64 t, .slice s3 m d3] 41)).heap.size = w3.heap.size + 1 := by simp
          have HOlt : Hid (∀ k, (Value.slice p3 n k3).ownBlock = some k → k < w3.heap.size) := fun k e => (World.ownsRow.lt HO3.out k e).2
          have HPlt : Hid (∀ k, (Value.slice s3 m d3).ownBlock = some k → k < w3.heap.size) := fun k e => (World.ownsRow.lt HP3.out k e).2
          obtain ⟨V, hV⟩ : ∃ V, w3.alloc (.cells #[.slice p3 n k3, .int .i64 a, .int .i64 b, .int .i64 t, .slice s3 m d3] 41) = V := ⟨_, rfl⟩
          rw [hV] at hN hD4 hO4 hP4 hB4 hZ4
          have HN4 : Hid (C5 V w3.heap.size (.slice p3 n k3) a b t (.slice s3 m d3)) := hN
          have HD4 : Hid (C5 V (w.heap.size + 1) (.slice none 0 0) 0 0 0 (.slice none 0 0)) := hD4
          have HO4 : Hid (OwnS V (w.heap.size + 2) (.slice p3 n k3) xs) := hO4
          have HP4 : Hid (Own V (w.heap.size + 2) (.slice s3 m d3) ys) := hP4
          have HB4 : Hid (Below w.heap.size w V) := hB4
          have HZ4 : Hid (V.heap.size = w3.heap.size + 1) := hZ4
          clear hD4 hO4 hP4 hB4 HD3 HO3 HP3 HB3 hZ4
          obtain ⟨⟨c0, c1, c2, c3, c4⟩, f⟩ := hN
          clear f
          go_wp2
          go_region_with (first
            | (go_at_call 65; refine (HCL.out _).mono ?_; rintro e w4 ⟨rfl, hb4⟩; have hbV : Below V.heap.size V w4 := (by first | exact hb4 | exact ((Below.refl V.heap.size V).drew).trans hb4); have HN5 : Hid (C5 w4 w3.heap.size (.slice p3 n k3) a b t (.slice s3 m d3)) := HN4.out.later hbV; have HD5 : Hid (C5 w4 (w.heap.size + 1) (.slice none 0 0) 0 0 0 (.slice none 0 0)) := HD4.out.later hbV; have HO5 : Hid (OwnS w4 (w.heap.size + 2) (.slice p3 n k3) xs) := HO4.out.later hbV; have HP5 : Hid (Own w4 (w.heap.size + 2) (.slice s3 m d3) ys) := HP4.out.later hbV; have HB5 : Hid (Below w.heap.size w w4) := HB4.out.trans (hbV.mono HB4.out.size); have HZ5 : Hid (w3.heap.size + 1 ≤ w4.heap.size) := (by show _ ≤ _; have := HZ4.out; have := hbV.size; omega); have d0 : w4.cell? ⟨w3.heap.size, 0, none⟩ = some (.slice p3 n k3) := HN5.out.1.1; clear hb4 hbV)
            | (go_at_call 72; refine (withS_c p3 n k3 xs s w4 HX.out (by omega) HO5.out.rd'.2 HO5.out.nil HRX.out).mono ?_; rintro e w5 ⟨p5, k5, rfl, ho5, hb5⟩; have HN6 : Hid (C5 w5 w3.heap.size (.slice p3 n k3) a b t (.slice s3 m d3)) := HN5.out.later hb5; have HD6 : Hid (C5 w5 (w.heap.size + 1) (.slice none 0 0) 0 0 0 (.slice none 0 0)) := HD5.out.later hb5; have HO6 : Hid (OwnS w5 (w3.heap.size + 1) (.slice p5 (n + 1) k5) (insL ltS s xs)) := ho5.mono HZ5.out; have HP6 : Hid (Own w5 (w.heap.size + 2) (.slice s3 m d3) ys) := HP5.out.later hb5; have HB6 : Hid (Below w.heap.size w w5) := HB5.out.trans (hb5.mono HB5.out.size); have HZ6 : Hid (w3.heap.size + 1 ≤ w5.heap.size) := Nat.le_trans HZ5.out hb5.size; have d0' : w5.cell? ⟨w3.heap.size, 0, none⟩ = some (.slice p3 n k3) := HN6.out.1.1; have df : w5.frozen? ⟨w3.heap.size, 0, none⟩ = false := HN6.out.2 0; clear ho5 hb5))
          all_goals (
            clear hV c0 c1 c2 c3 c4
            clear HCL
            have HN7 : Hid (C5 (w5.setCell ⟨w3.heap.size, 0, none⟩ (.slice p5 (n + 1) k5)) w3.heap.size (.slice p5 (n + 1) k5) a b t (.slice s3 m d3)) := HN6.out.set0 _
            have HD7 : Hid (C5 (w5.setCell ⟨w3.heap.size, 0, none⟩ (.slice p5 (n + 1) k5)) (w.heap.size + 1) (.slice none 0 0) 0 0 0 (.slice none 0 0)) := HD6.out.setOther (by have := HZ3.out; omega) _
            have HO7 : Hid (OwnS (w5.setCell ⟨w3.heap.size, 0, none⟩ (.slice p5 (n + 1) k5)) (w3.heap.size + 1) (.slice p5 (n + 1) k5) (insL ltS s xs)) := HO6.out.setBox (by omega) _
            have HP7 : Hid (Own (w5.setCell ⟨w3.heap.size, 0, none⟩ (.slice p5 (n + 1) k5)) (w.heap.size + 2) (.slice s3 m d3) ys) := HP6.out.kept (grown_setCell _ _ _ _) (Or.inr fun e => by have := HPlt.out _ e; omega)
            have HB7 : Hid (Below w.heap.size w (w5.setCell ⟨w3.heap.size, 0, none⟩ (.slice p5 (n + 1) k5))) := HB6.out.setCell (p := ⟨w3.heap.size, 0, none⟩) (by show w.heap.size ≤ w3.heap.size; have := HZ3.out; omega) _
            have hZ7 : (w5.setCell ⟨w3.heap.size, 0, none⟩ (.slice p5 (n + 1) k5)).heap.size = w5.heap.size := by simp
            have HZ7 : Hid ((w5.setCell ⟨w3.heap.size, 0, none⟩ (.slice p5 (n + 1) k5)).heap.size = w5.heap.size) := hZ7
            have q9 := withI_c s3 m d3 ys g (w5.setCell ⟨w3.heap.size, 0, none⟩ (.slice p5 (n + 1) k5)) HY.out (by omega) HP7.out.rd'.2 HP7.out.nil HRY.out
            clear hZ7
            obtain ⟨⟨c0, c1, c2, c3, c4⟩, f⟩ := HN7.out
            clear f d0 d0' df
            obtain ⟨U, hU⟩ : ∃ U, w5.setCell ⟨w3.heap.size, 0, none⟩ (.slice p5 (n + 1) k5) = U := ⟨_, rfl⟩
            rw [hU] at HN7 HD7 HO7 HP7 HB7 HZ7 q9 c0 c1 c2 c3 c4
            go_wp2_with fail
            refine q9.mono ?_
            clear q9
            rintro e w6 ⟨s6, d6, rfl, ho6, hb6⟩
            have HN8 : Hid (C5 w6 w3.heap.size (.slice p5 (n + 1) k5) a b t (.slice s3 m d3)) := HN7.out.later hb6
            have HD8 : Hid (C5 w6 (w.heap.size + 1) (.slice none 0 0) 0 0 0 (.slice none 0 0)) := HD7.out.later hb6
            have HO8 : Hid (OwnS w6 (w3.heap.size + 1) (.slice p5 (n + 1) k5) (insL ltS s xs)) := HO7.out.later hb6
            have HP8 : Hid (Own w6 (w3.heap.size + 1) (.slice s6 (m + 1) d6) (insL ltI g ys)) := ho6.mono (by rw [HZ7.out]; exact HZ6.out)
            have HB8 : Hid (Below w.heap.size w w6) := HB7.out.trans (hb6.mono HB7.out.size)
            clear ho6 hb6 hU c0 c1 c2 c3 c4
            have HD9 : Hid (C5 (w6.setCell ⟨w3.heap.size, 4, none⟩ (.slice s6 (m + 1) d6)) (w.heap.size + 1) (.slice none 0 0) 0 0 0 (.slice none 0 0)) := HD8.out.setOther (by have := HZ3.out; omega) _
            have HO9 : Hid (OwnS (w6.setCell ⟨w3.heap.size, 4, none⟩ (.slice s6 (m + 1) d6)) (w3.heap.size + 1) (.slice p5 (n + 1) k5) (insL ltS s xs)) := HO8.out.setBox (by omega) _
            have HP9 : Hid (Own (w6.setCell ⟨w3.heap.size, 4, none⟩ (.slice s6 (m + 1) d6)) (w3.heap.size + 1) (.slice s6 (m + 1) d6) (insL ltI g ys)) := HP8.out.setBox (by omega) _
            have HB9 : Hid (Below w.heap.size w (w6.setCell ⟨w3.heap.size, 4, none⟩ (.slice s6 (m + 1) d6))) := HB8.out.setCell (p := ⟨w3.heap.size, 4, none⟩) (by show w.heap.size ≤ w3.heap.size; have := HZ3.out; omega) _
            have HN9 : Hid (C5 (w6.setCell ⟨w3.heap.size, 4, none⟩ (.slice s6 (m + 1) d6)) w3.heap.size (.slice p5 (n + 1) k5) a b t (.slice s6 (m + 1) d6)) := HN8.out.set4 _
            obtain ⟨⟨_, _, _, _, c4⟩, f⟩ := HN8.out
            have f4 := f 4
            clear f
            obtain ⟨⟨c0, c1, c2, c3, c4'⟩, f⟩ := HN9.out
            clear f
            obtain ⟨⟨e0, e1, e2, e3, e4⟩, ef⟩ := HD9.out
            have ef0 := ef 0; have ef1 := ef 1; have ef2 := ef 2; have ef3 := ef 3; have ef4 := ef 4
            clear ef
            obtain ⟨U, hU⟩ : ∃ U, w6.setCell ⟨w3.heap.size, 4, none⟩ (.slice s6 (m + 1) d6) = U := ⟨_, rfl⟩
            rw [hU] at HO9 HP9 HB9 c0 c1 c2 c3 c4' e0 e1 e2 e3 e4 ef0 ef1 ef2 ef3 ef4
            go_wp2
            refine bodyPost_ret (v := .tuple #[.agg #[.slice p5 (n + 1) k5, .int .i64 a, .int .i64 b, .int .i64 t, .slice s6 (m + 1) d6], .int .i64 0, .bool true]) (by simp [results, Try.results25, go_sem, e0, e1, e2, e3, e4]; try rfl) rfl ?_
            refine ⟨_, rfl, ⟨p5, k5, s6, d6, ?_, ?_, ?_⟩, HB9.out.trans (below_grown (put5_grown _ _ _ _ _ _ _) (by omega) HB9.out.size)⟩
            · show _ = Value.agg #[.slice p5 (insL ltS s xs).length k5, .int .i64 a, .int .i64 b, .int .i64 t, .slice s6 (insL ltI g ys).length d6]
              rw [HL1.out, HL2.out]
            · show OwnS _ _ (.slice p5 (insL ltS s xs).length k5) (insL ltS s xs)
              rw [HL1.out]; exact (HO9.out.putBox (r := w.heap.size + 1) (by have := HZ3.out; omega) _ _ _ _ _).mono (by have := HZ3.out; omega)
            · show Own _ _ (.slice s6 (insL ltI g ys).length d6) (insL ltI g ys)
              rw [HL2.out]; exact (HP9.out.putBox (r := w.heap.size + 1) (by have := HZ3.out; omega) _ _ _ _ _).mono (by have := HZ3.out; omega))

end Go.Proofs.Ytnppmgnfignbcaa
