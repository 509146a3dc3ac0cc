/- The contract of the program's CompareBig. -/
import Derived.Test.YtcklmgifboceaaaDoorCmp
import Derived.Deep.RegionHeld3
import Derived.Deep.DrawnRows
namespace Go.Proofs.YtcklmgifboceaaaDoor
set_option linter.unusedVariables false
set_option maxRecDepth 1000000
set_option linter.unusedSimpArgs false
open Go.RowKit
attribute [local go_sem ↓] Go.wp_at_zero Go.wp_at_succ

def cmpF (xs ys : List Int) : Int × Bool := if goodB xs && goodB ys then (cmpI (val xs) (val ys), true) else (0, false)

theorem goodB_digs {xs : List Int} (h : goodB xs = true) : xs.length ≤ 6 ∧ Digs xs ∧ trim xs = xs := by
  obtain ⟨h1, h2, h3⟩ := (goodB_iff xs).1 h
  exact ⟨h1, h2, (trim_last xs).2 h3⟩

theorem ret_intbool {a b : Int} {c d : Bool} (h : a = b) (k : c = d) : Ending.returned (.tuple #[.int .i64 a, .bool c]) = .returned (.tuple #[.int .i64 b, .bool d]) := by rw [h, k]

theorem take_snoc_getD (xs : List Int) (q : Nat) (h : q < xs.length) : xs.take (q + 1) = xs.take q ++ [xs.getD q 0] := by
  rw [List.take_succ_eq_append_getElem h]; simp only [List.getD, List.getElem?_eq_getElem h, Option.getD_some]

theorem cell_keep {S : Nat} {w1 w2 : World} (hb : Below w1.heap.size w1 w2) {g o : Nat} {v : Value} (h : w1.cell? ⟨g, o, none⟩ = some v) : w2.cell? ⟨g, o, none⟩ = some v := by
  rw [hb.cell (p := ⟨g, o, none⟩) (World.block_lt_of_cell? w1 _ h)]; exact h

set_option maxHeartbeats 2000000 in
theorem implCompare_c (ao bo : Option Addr) (n m c d : Nat) (xs ys : List Int) (w : World) (hx : xs.length = n) (hy : ys.length = m) (hn : n ≤ 17592186044416) (hm : m ≤ 17592186044416) (hr : Rd w ao xs) (hs : Rd w bo ys) :
    Calls Tryd.prog 15 #[.agg #[.slice ao n c], .agg #[.slice bo m d]] w fun e w' => e = .returned (.tuple #[.int .i64 (cmpF xs ys).1, .bool (cmpF xs ys).2]) ∧ Below w.heap.size w w' := by
  have hb0 := below_two w (Obj.cells #[Value.slice ao n c] 25) (Obj.cells #[Value.slice bo m d] 25)
  have HX : Hid (xs.length = n) := hx
  have HY : Hid (ys.length = m) := hy
  have HR : Hid (Rd w ao xs) := hr
  have HS : Hid (Rd w bo ys) := hs
  have HB0 : Hid (Below w.heap.size w ((w.alloc (Obj.cells #[Value.slice ao n c] 25)).alloc (Obj.cells #[Value.slice bo m d] 25))) := hb0
  clear hx hy hr hs hb0
  cases hgx : goodB xs
  · have HF : Hid (cmpF xs ys = (0, false)) := by simp [Hid, cmpF, hgx]
    go_enter Tryd.func15, Tryd.ntmps15
    go_wp2_with fail
    refine (implGood_c ao n c xs _ HX.out hn (HR.out.later HB0.out)).mono ?_
    rw [hgx]
    rintro e w1 ⟨rfl, hb⟩
    have HB1 : Hid (Below w.heap.size w w1) := HB0.out.trans (hb.mono (by simp; omega))
    clear hb hgx
    go_wp2
    go_ret2
    exact ⟨ret_intbool (by rw [HF.out]) (by rw [HF.out]), HB1.out⟩
  · cases hgy : goodB ys
    · have HF : Hid (cmpF xs ys = (0, false)) := by simp [Hid, cmpF, hgy]
      go_enter Tryd.func15, Tryd.ntmps15
      go_wp2_with fail
      refine (implGood_c ao n c xs _ HX.out hn (HR.out.later HB0.out)).mono ?_
      rw [hgx]
      rintro e w1 ⟨rfl, hb⟩
      have HB1 : Hid (Below w.heap.size w w1) := HB0.out.trans (hb.mono (by simp; omega))
      have y1 : w1.cell? ⟨w.heap.size + 1, 0, none⟩ = some (.slice bo m d) := cell_keep (S := 0) hb (by simp)
      clear hb hgx
      go_wp2_with fail
      refine (implGood_c bo m d ys _ HY.out hm (HS.out.later HB1.out)).mono ?_
      rw [hgy]
      rintro e w2 ⟨rfl, hb⟩
      have HB2 : Hid (Below w.heap.size w w2) := HB1.out.trans (hb.mono (HB1.out.size))
      clear hb hgy
      go_wp2
      go_ret2
      exact ⟨ret_intbool (by rw [HF.out]) (by rw [HF.out]), HB2.out⟩
    · have HF : Hid (cmpF xs ys = (cmpI (val xs) (val ys), true)) := by simp [Hid, cmpF, hgx, hgy]
      have HGX : Hid (goodB xs = true) := hgx
      have HGY : Hid (goodB ys = true) := hgy
      go_enter Tryd.func15, Tryd.ntmps15
      go_wp2_with fail
      refine (implGood_c ao n c xs _ HX.out hn (HR.out.later HB0.out)).mono ?_
      rw [hgx]
      rintro e w1 ⟨rfl, hb⟩
      have HB1 : Hid (Below w.heap.size w w1) := HB0.out.trans (hb.mono (by simp; omega))
      have x1 : w1.cell? ⟨w.heap.size, 0, none⟩ = some (.slice ao n c) := cell_keep (S := 0) hb (by simp)
      have y1 : w1.cell? ⟨w.heap.size + 1, 0, none⟩ = some (.slice bo m d) := cell_keep (S := 0) hb (by simp)
      clear hb hgx
      go_wp2_with fail
      refine (implGood_c bo m d ys _ HY.out hm (HS.out.later HB1.out)).mono ?_
      rw [hgy]
      rintro e w2 ⟨rfl, hb⟩
      have HB2 : Hid (Below w.heap.size w w2) := HB1.out.trans (hb.mono (HB1.out.size))
      have x2 : w2.cell? ⟨w.heap.size, 0, none⟩ = some (.slice ao n c) := cell_keep (S := 0) hb x1
      have y2 : w2.cell? ⟨w.heap.size + 1, 0, none⟩ = some (.slice bo m d) := cell_keep (S := 0) hb y1
      clear hb hgy x1 y1
      go_wp2_with fail
      have tok1 : True := trivial
      have HBd : Hid (Below w.heap.size w w2.drew) := HB2.out.drew
      go_region_held3 (fun w' => w'.cell? ⟨w.heap.size, 0, none⟩ = some (.slice ao n c) ∧ w'.cell? ⟨w.heap.size + 1, 0, none⟩ = some (.slice bo m d)) (first | go_keep) (first
        | (go_at_call 33; have _t := tok1; refine (rowOf_c ao n c xs _ HX.out (by have := (goodB_digs HGX.out).1; rw [HX.out] at this; exact this) (HR.out.later HBd.out)).mono ?_; rintro e w3 ⟨a0, a1, a2, a3, a4, a5, rfl, HA, hb3⟩; clear tok1 _t; have x3 : w3.cell? ⟨w.heap.size, 0, none⟩ = some (.slice ao n c) := cell_keep (S := 0) hb3 x2; have y3 : w3.cell? ⟨w.heap.size + 1, 0, none⟩ = some (.slice bo m d) := cell_keep (S := 0) hb3 y2; have HB3 : Hid (Below w.heap.size w w3) := HBd.out.trans (hb3.mono HBd.out.size); clear hb3)
        | (go_at_call 33; refine (rowOf_c bo m d ys _ HY.out (by have := (goodB_digs HGY.out).1; rw [HY.out] at this; exact this) (HS.out.later HB3.out)).mono ?_; rintro e w4 ⟨b0, b1, b2, b3, b4, b5, rfl, HA2, hb4⟩; have x4 : w4.cell? ⟨w.heap.size, 0, none⟩ = some (.slice ao n c) := cell_keep (S := 0) hb4 x3; have y4 : w4.cell? ⟨w.heap.size + 1, 0, none⟩ = some (.slice bo m d) := cell_keep (S := 0) hb4 y3; have HB4 : Hid (Below w.heap.size w w4) := HB3.out.trans (hb4.mono HB3.out.size); clear hb4)
        | (go_at_call 42; refine (compareRows_c a0 a1 a2 a3 a4 a5 b0 b1 b2 b3 b4 b5 _ (by rw [← HA.out]; exact pad6_digs (goodB_digs HGX.out).2.1) (by rw [← HA2.out]; exact pad6_digs (goodB_digs HGY.out).2.1)).mono ?_; rintro e w5 ⟨rfl, hb5⟩; have x5 : w5.cell? ⟨w.heap.size, 0, none⟩ = some (.slice ao n c) := cell_keep (S := 0) hb5 x4; have y5 : w5.cell? ⟨w.heap.size + 1, 0, none⟩ = some (.slice bo m d) := cell_keep (S := 0) hb5 y4; have HB5 : Hid (Below w.heap.size w w5) := HB4.out.trans (hb5.mono HB4.out.size); clear hb5))
      all_goals go_wp2
      all_goals go_ret2
      all_goals exact ⟨ret_intbool (by rw [HF.out, ← HA.out, ← HA2.out, pad6_val, pad6_val]) (by rw [HF.out]), by assumption⟩

end Go.Proofs.YtcklmgifboceaaaDoor
