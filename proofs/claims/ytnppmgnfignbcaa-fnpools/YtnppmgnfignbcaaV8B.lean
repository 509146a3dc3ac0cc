/- Chapter 8, the program: a tick of a mix (implTick_old). -/
import Derived.Test.YtnppmgnfignbcaaV8
namespace Go.Proofs.Ytnppmgnfignbcaa
set_option linter.unusedVariables false
set_option maxRecDepth 1000000
set_option linter.unusedSimpArgs false
open Go.RowKit

set_option maxHeartbeats 2000000 in
theorem implTick_old (po so : Option Addr) (n c m d : Nat) (a b t : Int) (xs : List ByteArray) (ys : List Int) (w : World) (hx : xs.length = n) (hy : ys.length = m) (hn : n ≤ 17592186044416) (hm : m ≤ 17592186044416) (hr : RdS w po xs) (hs : Rd w so ys) (hz : ∀ s ∈ xs, s.size ≤ 9223372036854775807) (hnil : so = none → m = 0 ∧ d = 0) (hg : goodB ⟨xs, a, b, t, ys⟩ = true) (h0 : ¬ n = 0) (h1 : ¬ a ≤ (n : Int)) (h2 : b ≤ min (t + 1) 10) :
    Calls Try.prog 31 #[.agg #[.slice po n c, .int .i64 a, .int .i64 b, .int .i64 t, .slice so m d]] w fun e w' => TickOut w w' e (tickF ⟨xs, a, b, t, ys⟩).1 (tickF ⟨xs, a, b, t, ys⟩).2.1 (tickF ⟨xs, a, b, t, ys⟩).2.2 ∧ Below w.heap.size w w' := by
  obtain ⟨W0, hW0, hC0, hD0, hB0, hS0⟩ := two_boxes w (.slice po n c) a b t (.slice so m d) 41
  have HC0 : Hid (C5 W0 w.heap.size (.slice po n c) a b t (.slice so m d)) := hC0
  have HD0 : Hid (C5 W0 (w.heap.size + 1) (.slice none 0 0) 0 0 0 (.slice none 0 0)) := hD0
  have HB0 : Hid (Below w.heap.size w W0) := hB0
  have HS0 : Hid (W0.heap.size = w.heap.size + 2) := hS0
  have HX : Hid (xs.length = n) := hx
  have HY : Hid (ys.length = m) := hy
  have HR : Hid (∀ wx, Below w.heap.size w wx → RdS wx po xs) := fun wx h => hr.later h
  have HS : Hid (∀ wx, Below w.heap.size w wx → Rd wx so ys) := fun wx h => hs.later h
  have q2 := implGood_c po so n c m d a b t xs ys W0 hx hy hn hm (hr.later hB0) (hs.later hB0) hz
  obtain ⟨⟨c0, c1, c2, c3, c4⟩, f⟩ := hC0
  have HNIL : Hid (so = none → m = 0 ∧ d = 0) := hnil
  clear hr hs hz hB0 hS0 f hx hy hnil hD0
  have G := (goodB_iff _).1 hg
  have hn12 : n ≤ 12 := by have := G.many; rw [← HX.out]; exact this
  have hm100 : m ≤ 100 := by have := G.seens; rw [← HY.out]; exact this
  have HZX : Hid (∀ s ∈ xs, s.size ≤ 1000) := fun s hs => by have h24 : s.size ≤ 24 := G.short s hs; omega
  have gl : 1 ≤ a ∧ a ≤ 12 := G.least
  have go : 0 ≤ t ∧ t ≤ 10 := G.old
  have gn : n = 0 → t = 0 := fun h => G.none (List.length_eq_zero_iff.1 (HX.out.trans h))
  have HCP : Hid (∀ wx, Below w.heap.size w wx → Calls Try.prog 71 #[.agg #[.slice po n c, .int .i64 a, .int .i64 b, .int .i64 t, .slice so m d]] wx fun e w' => ∃ p' c' s' d', e = .returned (.agg #[.slice p' n c', .int .i64 a, .int .i64 b, .int .i64 t, .slice s' m d']) ∧ OwnS w' wx.heap.size (.slice p' n c') xs ∧ Own w' wx.heap.size (.slice s' m d') ys ∧ Below wx.heap.size wx w') := fun wx h => copyOfMix_c po so n c m d a b t xs ys wx HX.out HY.out (by omega) (by omega) (HR.out _ h) (HS.out _ h) HZX.out HNIL.out
  have hF0 : tickF ⟨xs, a, b, t, ys⟩ = ((tickM ⟨xs, a, b, t, ys⟩).1, (tickM ⟨xs, a, b, t, ys⟩).2, true) := by unfold tickF; rw [if_pos hg]
  rw [hF0]
  rw [hg] at q2
  have hnp : xs = [] ↔ n = 0 := by rw [← HX.out]; exact List.length_eq_zero_iff.symm
  obtain ⟨ol, hol⟩ : ∃ ol, min (t + 1) 10 = ol := ⟨_, rfl⟩
  have hol2 : min 10 (t + 1) = ol := by rw [← hol]; omega
  clear G hg hF0
  have hxe : ¬ xs = [] := fun h => h0 (hnp.1 h)
  have hi2 : (0 : Int) < (n : Int) := by omega
  have hi3 : ((n : Int) == 0) = false := by rw [beq_eq_false_iff_ne]; omega
  have h2 : b ≤ ol := by omega
  have hF : tickM ⟨xs, a, b, t, ys⟩ = (⟨[], a, b, 0, ys⟩, xs) := by unfold tickM; rw [if_neg hxe, if_neg (by show ¬ ((xs.length : Int) < a ∧ min 10 (t + 1) < b); rw [HX.out, hol2]; omega)]
  rw [hF]
  clear hF hxe h0 gn
  clear hnp hol2
  go_enter Try.func31, Try.ntmps31
  go_wp2_with fail
  refine q2.mono ?_
  clear q2
  rintro e w1 ⟨rfl, hb1⟩
  have HB1 : Hid (Below w.heap.size w w1) := HB0.out.trans (hb1.mono HB0.out.size)
  have HC1 : Hid (C5 w1 w.heap.size (.slice po n c) a b t (.slice so m d)) := HC0.out.later hb1
  have HD1 : Hid (C5 w1 (w.heap.size + 1) (.slice none 0 0) 0 0 0 (.slice none 0 0)) := HD0.out.later hb1
  have HZ1 : Hid (w.heap.size + 2 ≤ w1.heap.size) := by show _ ≤ _; have := HS0.out; have := hb1.size; omega
  clear hW0 c0 c1 c2 c3 c4 hb1 HC0 HD0 HB0
  obtain ⟨⟨c0, c1, c2, c3, c4⟩, f⟩ := HC1.out
  clear f
  go_wp2_with fail
  refine (HCP.out _ HB1.out).mono ?_
  rintro e w3 ⟨p3, k3, s3, d3, rfl, ho3, hp3, hb3⟩
  have HB3 : Hid (Below w.heap.size w w3) := HB1.out.trans (hb3.mono HB1.out.size)
  have HC3 : Hid (C5 w3 w.heap.size (.slice po n c) a b t (.slice so m d)) := HC1.out.later hb3
  have HD3 : Hid (C5 w3 (w.heap.size + 1) (.slice none 0 0) 0 0 0 (.slice none 0 0)) := HD1.out.later hb3
  have HO3 : Hid (OwnS w3 (w.heap.size + 2) (.slice p3 n k3) xs) := ho3.mono HZ1.out
  have HP3 : Hid (Own w3 (w.heap.size + 2) (.slice s3 m d3) ys) := hp3.mono HZ1.out
  have HZ3 : Hid (w.heap.size + 2 ≤ w3.heap.size) := Nat.le_trans HZ1.out hb3.size
  clear c0 c1 c2 c3 c4 hb3 ho3 hp3 HC1 HD1 HB1 HZ1 HCP
  have hN := c5_new w3 (.slice p3 n k3) a b t (.slice s3 m d3) 41 w3.heap.size rfl
  have hC4 := HC3.out.later (balloc w3 (.cells #[.slice p3 n k3, .int .i64 a, .int .i64 b, .int .i64 t, .slice s3 m d3] 41))
  have hD4 := HD3.out.later (balloc w3 (.cells #[.slice p3 n k3, .int .i64 a, .int .i64 b, .int .i64 t, .slice s3 m d3] 41))
  have hO4 := HO3.out.later (balloc w3 (.cells #[.slice p3 n k3, .int .i64 a, .int .i64 b, .int .i64 t, .slice s3 m d3] 41))
  have hP4 := HP3.out.later (balloc w3 (.cells #[.slice p3 n k3, .int .i64 a, .int .i64 b, .int .i64 t, .slice s3 m d3] 41))
  have hB4 := HB3.out.alloc HB3.out.size (.cells #[.slice p3 n k3, .int .i64 a, .int .i64 b, .int .i64 t, .slice s3 m d3] 41)
  have HOlt : Hid (∀ k, (Value.slice p3 n k3).ownBlock = some k → k < w3.heap.size) := fun k e => (World.ownsRow.lt HO3.out k e).2
  have HPlt : Hid (∀ k, (Value.slice s3 m d3).ownBlock = some k → k < w3.heap.size) := fun k e => (World.ownsRow.lt HP3.out k e).2
  obtain ⟨V, hV⟩ : ∃ V, w3.alloc (.cells #[.slice p3 n k3, .int .i64 a, .int .i64 b, .int .i64 t, .slice s3 m d3] 41) = V := ⟨_, rfl⟩
  rw [hV] at hN hC4 hD4 hO4 hP4 hB4
  have HN4 : Hid (C5 V w3.heap.size (.slice p3 n k3) a b t (.slice s3 m d3)) := hN
  have HD4 : Hid (C5 V (w.heap.size + 1) (.slice none 0 0) 0 0 0 (.slice none 0 0)) := hD4
  have HO4 : Hid (OwnS V (w.heap.size + 2) (.slice p3 n k3) xs) := hO4
  have HP4 : Hid (Own V (w.heap.size + 2) (.slice s3 m d3) ys) := hP4
  have HB4 : Hid (Below w.heap.size w V) := hB4
  clear hO4 hP4 hB4 HD3 HO3 HP3 HB3 HC3
  obtain ⟨⟨c0, c1, c2, c3, c4⟩, f⟩ := hC4
  clear f
  obtain ⟨⟨n0, n1, n2, n3, n4⟩, f⟩ := hN
  have nf0 := f 0; have nf3 := f 3
  clear f
  obtain ⟨⟨e0, e1, e2, e3, e4⟩, ef⟩ := hD4
  have ef0 := ef 0; have ef1 := ef 1; have ef2 := ef 2; have ef3 := ef 3; have ef4 := ef 4
  clear ef
  have hne1 : ¬ (w.heap.size + 1 = w3.heap.size) := by have := HZ3.out; omega
  have hne2 : ¬ (w3.heap.size = w.heap.size + 1) := by have := HZ3.out; omega
  have hne3 : ¬ (w.heap.size = w3.heap.size) := by have := HZ3.out; omega
  have hne4 : ¬ (w3.heap.size = w.heap.size) := by have := HZ3.out; omega
  go_wp2
  refine bodyPost_ret (v := .tuple #[.agg #[.slice none 0 0, .int .i64 a, .int .i64 b, .int .i64 0, .slice s3 m d3], .slice p3 n k3, .bool true]) (by simp [results, Try.results31, go_sem, e0, e1, e2, e3, e4, n0, n1, n2, n3, n4, hne1, hne2]; try rfl) rfl ?_
  have hg3 := grown_trans (grown_setCell V w3.heap.size 0 (.slice none 0 0)) (grown_setCell _ w3.heap.size 3 (.int .i64 0))
  have hO5 := (HO4.out.kept hg3 (Or.inr fun e => by have := HOlt.out _ e; omega)).putBox (r := w.heap.size + 1) (by omega) (.slice none 0 0) a b 0 (.slice s3 m d3)
  have hP5 := (HP4.out.kept hg3 (Or.inr fun e => by have := HPlt.out _ e; omega)).putBox (r := w.heap.size + 1) (by omega) (.slice none 0 0) a b 0 (.slice s3 m d3)
  have hB5 := (HB4.out.trans (below_grown hg3 (by have := HZ3.out; omega) HB4.out.size)).trans (below_grown (put5_grown _ (w.heap.size + 1) (.slice none 0 0) a b 0 (.slice s3 m d3)) (by omega) (Nat.le_trans HB4.out.size hg3.size))
  refine ⟨⟨none, 0, s3, d3, p3, k3, ?_, World.ownsRow_nil _ _ _ _, ?_, ?_, Or.inl rfl⟩, hB5⟩
  · show _ = Ending.returned (.tuple #[.agg #[.slice none 0 0, .int .i64 a, .int .i64 b, .int .i64 0, .slice s3 ys.length d3], .slice p3 xs.length k3, .bool true])
    rw [HX.out, HY.out]
  · show Own _ _ (.slice s3 ys.length d3) ys
    rw [HY.out]; exact hP5.mono (by omega)
  · show OwnS _ _ (.slice p3 xs.length k3) xs
    rw [HX.out]; exact hO5.mono (by omega)

end Go.Proofs.Ytnppmgnfignbcaa
