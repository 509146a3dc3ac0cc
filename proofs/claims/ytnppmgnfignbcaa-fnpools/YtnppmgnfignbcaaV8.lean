/- Chapter 8, the program: a tick of a mix. -/
import Derived.Test.YtnppmgnfignbcaaU8
namespace Go.Proofs.Ytnppmgnfignbcaa
set_option linter.unusedVariables false
set_option maxRecDepth 1000000
set_option linter.unusedSimpArgs false
open Go.RowKit

/-- What TickMix tells. -/
def tickF (m : MixV) : MixV × List ByteArray × Bool := if goodB m = true then ((tickM m).1, (tickM m).2, true) else (MixV.zero, [], false)
/-- A mix and a list that are handed back. -/
def TickOut (w w' : World) (e : Ending) (z : MixV) (l : List ByteArray) (fb : Bool) : Prop := ∃ p' c' s' d' a' k', e = .returned (.tuple #[.agg #[.slice p' z.pool.length c', .int .i64 z.least, .int .i64 z.wait, .int .i64 z.old, .slice s' z.seen.length d'], .slice a' l.length k', .bool fb]) ∧ OwnS w' w.heap.size (.slice p' z.pool.length c') z.pool ∧ Own w' w.heap.size (.slice s' z.seen.length d') z.seen ∧ OwnS w' w.heap.size (.slice a' l.length k') l ∧ ((Value.slice p' z.pool.length c').ownBlock = none ∨ (Value.slice p' z.pool.length c').ownBlock ≠ (Value.slice a' l.length k').ownBlock)
theorem tickOut_zero (w w' : World) : TickOut w w' (.returned (.tuple #[.agg #[.slice none 0 0, .int .i64 0, .int .i64 0, .int .i64 0, .slice none 0 0], .slice none 0 0, .bool false])) MixV.zero [] false := ⟨none, 0, none, 0, none, 0, rfl, World.ownsRow_nil _ _ _ _, World.ownsRow_nil _ _ _ _, World.ownsRow_nil _ _ _ _, Or.inl rfl⟩

set_option maxHeartbeats 2000000 in
theorem implTick_bad (po so : Option Addr) (n c m d : Nat) (a b t : Int) (xs : List ByteArray) (ys : List Int) (w : World) (hx : xs.length = n) (hy : ys.length = m) (hn : n ≤ 17592186044416) (hm : m ≤ 17592186044416) (hr : RdS w po xs) (hs : Rd w so ys) (hz : ∀ s ∈ xs, s.size ≤ 9223372036854775807) (hnil : so = none → m = 0 ∧ d = 0) (hg : goodB ⟨xs, a, b, t, ys⟩ = false) :
    Calls Try.prog 31 #[.agg #[.slice po n c, .int .i64 a, .int .i64 b, .int .i64 t, .slice so m d]] w fun e w' => TickOut w w' e (tickF ⟨xs, a, b, t, ys⟩).1 (tickF ⟨xs, a, b, t, ys⟩).2.1 (tickF ⟨xs, a, b, t, ys⟩).2.2 ∧ Below w.heap.size w w' := by
  obtain ⟨W0, hW0, hC0, hD0, hB0, hS0⟩ := two_boxes w (.slice po n c) a b t (.slice so m d) 41
  have HC0 : Hid (C5 W0 w.heap.size (.slice po n c) a b t (.slice so m d)) := hC0
  have HD0 : Hid (C5 W0 (w.heap.size + 1) (.slice none 0 0) 0 0 0 (.slice none 0 0)) := hD0
  have HB0 : Hid (Below w.heap.size w W0) := hB0
  have HS0 : Hid (W0.heap.size = w.heap.size + 2) := hS0
  have HX : Hid (xs.length = n) := hx
  have HY : Hid (ys.length = m) := hy
  have HR : Hid (∀ wx, Below w.heap.size w wx → RdS wx po xs) := fun wx h => hr.later h
  have HS : Hid (∀ wx, Below w.heap.size w wx → Rd wx so ys) := fun wx h => hs.later h
  have q2 := implGood_c po so n c m d a b t xs ys W0 hx hy hn hm (hr.later hB0) (hs.later hB0) hz
  obtain ⟨⟨c0, c1, c2, c3, c4⟩, f⟩ := hC0
  have HNIL : Hid (so = none → m = 0 ∧ d = 0) := hnil
  clear hr hs hz hB0 hS0 f hx hy hnil hD0
  have hF : tickF ⟨xs, a, b, t, ys⟩ = (MixV.zero, [], false) := by unfold tickF; rw [if_neg (by rw [hg]; simp)]
  rw [hF]
  rw [hg] at q2
  clear hg hF
  go_enter Try.func31, Try.ntmps31
  go_wp2_with fail
  refine q2.mono ?_
  clear q2
  rintro e w1 ⟨rfl, hb1⟩
  have HB1 : Hid (Below w.heap.size w w1) := HB0.out.trans (hb1.mono HB0.out.size)
  clear hW0
  obtain ⟨⟨e0, e1, e2, e3, e4⟩, ef⟩ := HD0.out.later hb1
  have ef0 := ef 0; have ef1 := ef 1; have ef2 := ef 2; have ef3 := ef 3; have ef4 := ef 4
  clear hb1 ef c0 c1 c2 c3 c4
  go_wp2
  refine bodyPost_ret (v := .tuple #[.agg #[.slice none 0 0, .int .i64 0, .int .i64 0, .int .i64 0, .slice none 0 0], .slice none 0 0, .bool false]) (by simp [results, Try.results31, go_sem, e0, e1, e2, e3, e4]; try rfl) rfl ?_
  exact ⟨tickOut_zero _ _, HB1.out.trans (below_grown (put5_grown _ _ _ _ _ _ _) (by omega) HB1.out.size)⟩

end Go.Proofs.Ytnppmgnfignbcaa
