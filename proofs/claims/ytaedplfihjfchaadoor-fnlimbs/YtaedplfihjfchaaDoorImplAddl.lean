/- The contract of the program's CompareBig. -/
import Derived.Test.YtaedplfihjfchaaDoorCmpl
import Derived.Deep.RegionHeld3
import Derived.Deep.DrawnRows
namespace Go.Proofs.YtaedplfihjfchaaDoor
set_option linter.unusedVariables false
set_option maxRecDepth 1000000
set_option linter.unusedSimpArgs false
open Go.RowKit
attribute [local go_sem ↓] Go.wp_at_zero Go.wp_at_succ

def cmpF (xs ys : List Int) : Int × Bool := if goodB xs && goodB ys then (cmpI (val xs) (val ys), true) else (0, false)

theorem goodB_digs {xs : List Int} (h : goodB xs = true) : xs.length ≤ 6 ∧ Digs xs ∧ trim xs = xs := by
  obtain ⟨h1, h2, h3⟩ := (goodB_iff xs).1 h
  exact ⟨h1, h2, (trim_last xs).2 h3⟩

theorem ret_intbool {a b : Int} {c d : Bool} (h : a = b) (k : c = d) : Ending.returned (.tuple #[.int .i64 a, .bool c]) = .returned (.tuple #[.int .i64 b, .bool d]) := by rw [h, k]

theorem take_snoc_getD (xs : List Int) (q : Nat) (h : q < xs.length) : xs.take (q + 1) = xs.take q ++ [xs.getD q 0] := by
  rw [List.take_succ_eq_append_getElem h]; simp only [List.getD, List.getElem?_eq_getElem h, Option.getD_some]

theorem cell_keep {S : Nat} {w1 w2 : World} (hb : Below w1.heap.size w1 w2) {g o : Nat} {v : Value} (h : w1.cell? ⟨g, o, none⟩ = some v) : w2.cell? ⟨g, o, none⟩ = some v := by
  rw [hb.cell (p := ⟨g, o, none⟩) (World.block_lt_of_cell? w1 _ h)]; exact h

set_option maxHeartbeats 2000000 in
theorem implCompare_c (ao bo : Option Addr) (n m c d : Nat) (xs ys : List Int) (w : World) (hx : xs.length = n) (hy : ys.length = m) (hn : n ≤ 17592186044416) (hm : m ≤ 17592186044416) (hr : Rd w ao xs) (hs : Rd w bo ys) :
    Calls Tryd.prog 14 #[.agg #[.slice ao n c], .agg #[.slice bo m d]] w fun e w' => e = .returned (.tuple #[.int .i64 (cmpF xs ys).1, .bool (cmpF xs ys).2]) ∧ Below w.heap.size w w' := by
  have hb0 := below_two w (Obj.cells #[Value.slice ao n c] 25) (Obj.cells #[Value.slice bo m d] 25)
  have HX : Hid (xs.length = n) := hx
  have HY : Hid (ys.length = m) := hy
  have HR : Hid (Rd w ao xs) := hr
  have HS : Hid (Rd w bo ys) := hs
  have HB0 : Hid (Below w.heap.size w ((w.alloc (Obj.cells #[Value.slice ao n c] 25)).alloc (Obj.cells #[Value.slice bo m d] 25))) := hb0
  clear hx hy hr hs hb0
  cases hgx : goodB xs
  · have HF : Hid (cmpF xs ys = (0, false)) := by simp [Hid, cmpF, hgx]
    go_enter Tryd.func14, Tryd.ntmps14
    go_wp2_with fail
    refine (implGood_c ao n c xs _ HX.out hn (HR.out.later HB0.out)).mono ?_
    rw [hgx]
    rintro e w1 ⟨rfl, hb⟩
    have HB1 : Hid (Below w.heap.size w w1) := HB0.out.trans (hb.mono (by simp; omega))
    clear hb hgx
    go_wp2
    go_ret2
    exact ⟨ret_intbool (by rw [HF.out]) (by rw [HF.out]), HB1.out⟩
  · cases hgy : goodB ys
    · have HF : Hid (cmpF xs ys = (0, false)) := by simp [Hid, cmpF, hgy]
      go_enter Tryd.func14, Tryd.ntmps14
      go_wp2_with fail
      refine (implGood_c ao n c xs _ HX.out hn (HR.out.later HB0.out)).mono ?_
      rw [hgx]
      rintro e w1 ⟨rfl, hb⟩
      have HB1 : Hid (Below w.heap.size w w1) := HB0.out.trans (hb.mono (by simp; omega))
      have y1 : w1.cell? ⟨w.heap.size + 1, 0, none⟩ = some (.slice bo m d) := cell_keep (S := 0) hb (by simp)
      clear hb hgx
      go_wp2_with fail
      refine (implGood_c bo m d ys _ HY.out hm (HS.out.later HB1.out)).mono ?_
      rw [hgy]
      rintro e w2 ⟨rfl, hb⟩
      have HB2 : Hid (Below w.heap.size w w2) := HB1.out.trans (hb.mono (HB1.out.size))
      clear hb hgy
      go_wp2
      go_ret2
      exact ⟨ret_intbool (by rw [HF.out]) (by rw [HF.out]), HB2.out⟩
    · have HF : Hid (cmpF xs ys = (cmpI (val xs) (val ys), true)) := by simp [Hid, cmpF, hgx, hgy]
      have HGX : Hid (goodB xs = true) := hgx
      have HGY : Hid (goodB ys = true) := hgy
      go_enter Tryd.func14, Tryd.ntmps14
      go_wp2_with fail
      refine (implGood_c ao n c xs _ HX.out hn (HR.out.later HB0.out)).mono ?_
      rw [hgx]
      rintro e w1 ⟨rfl, hb⟩
      have HB1 : Hid (Below w.heap.size w w1) := HB0.out.trans (hb.mono (by simp; omega))
      have x1 : w1.cell? ⟨w.heap.size, 0, none⟩ = some (.slice ao n c) := cell_keep (S := 0) hb (by simp)
      have y1 : w1.cell? ⟨w.heap.size + 1, 0, none⟩ = some (.slice bo m d) := cell_keep (S := 0) hb (by simp)
      clear hb hgx
      go_wp2_with fail
      refine (implGood_c bo m d ys _ HY.out hm (HS.out.later HB1.out)).mono ?_
      rw [hgy]
      rintro e w2 ⟨rfl, hb⟩
      have HB2 : Hid (Below w.heap.size w w2) := HB1.out.trans (hb.mono (HB1.out.size))
      have x2 : w2.cell? ⟨w.heap.size, 0, none⟩ = some (.slice ao n c) := cell_keep (S := 0) hb x1
      have y2 : w2.cell? ⟨w.heap.size + 1, 0, none⟩ = some (.slice bo m d) := cell_keep (S := 0) hb y1
      clear hb hgy x1 y1
      go_wp2_with fail
      have tok1 : True := trivial
      have HBd : Hid (Below w.heap.size w w2.drew) := HB2.out.drew
      go_region_held3 (fun w' => w'.cell? ⟨w.heap.size, 0, none⟩ = some (.slice ao n c) ∧ w'.cell? ⟨w.heap.size + 1, 0, none⟩ = some (.slice bo m d)) (first | go_keep) (first
        | (go_at_call 29; have _t := tok1; refine (rowOf_c ao n c xs _ HX.out (by have := (goodB_digs HGX.out).1; rw [HX.out] at this; exact this) (HR.out.later HBd.out)).mono ?_; rintro e w3 ⟨a0, a1, a2, a3, a4, a5, rfl, HA, hb3⟩; clear tok1 _t; have x3 : w3.cell? ⟨w.heap.size, 0, none⟩ = some (.slice ao n c) := cell_keep (S := 0) hb3 x2; have y3 : w3.cell? ⟨w.heap.size + 1, 0, none⟩ = some (.slice bo m d) := cell_keep (S := 0) hb3 y2; have HB3 : Hid (Below w.heap.size w w3) := HBd.out.trans (hb3.mono HBd.out.size); clear hb3)
        | (go_at_call 29; refine (rowOf_c bo m d ys _ HY.out (by have := (goodB_digs HGY.out).1; rw [HY.out] at this; exact this) (HS.out.later HB3.out)).mono ?_; rintro e w4 ⟨b0, b1, b2, b3, b4, b5, rfl, HA2, hb4⟩; have x4 : w4.cell? ⟨w.heap.size, 0, none⟩ = some (.slice ao n c) := cell_keep (S := 0) hb4 x3; have y4 : w4.cell? ⟨w.heap.size + 1, 0, none⟩ = some (.slice bo m d) := cell_keep (S := 0) hb4 y3; have HB4 : Hid (Below w.heap.size w w4) := HB3.out.trans (hb4.mono HB3.out.size); clear hb4)
        | (go_at_call 38; refine (compareRows_c a0 a1 a2 a3 a4 a5 b0 b1 b2 b3 b4 b5 _ (by rw [← HA.out]; exact pad6_digs (goodB_digs HGX.out).2.1) (by rw [← HA2.out]; exact pad6_digs (goodB_digs HGY.out).2.1)).mono ?_; rintro e w5 ⟨rfl, hb5⟩; have x5 : w5.cell? ⟨w.heap.size, 0, none⟩ = some (.slice ao n c) := cell_keep (S := 0) hb5 x4; have y5 : w5.cell? ⟨w.heap.size + 1, 0, none⟩ = some (.slice bo m d) := cell_keep (S := 0) hb5 y4; have HB5 : Hid (Below w.heap.size w w5) := HB4.out.trans (hb5.mono HB4.out.size); clear hb5))
      all_goals go_wp2
      all_goals go_ret2
      all_goals exact ⟨ret_intbool (by rw [HF.out, ← HA.out, ← HA2.out, pad6_val, pad6_val]) (by rw [HF.out]), by assumption⟩

end Go.Proofs.YtaedplfihjfchaaDoor
namespace Go.Proofs.YtaedplfihjfchaaDoor
set_option linter.unusedVariables false
set_option maxRecDepth 1000000
set_option linter.unusedSimpArgs false
open Go.RowKit

theorem drop_cons {L : List Int} {k : Nat} (h : k < L.length) : L.drop k = L.getD k 0 :: L.drop (k + 1) := by
  rw [List.drop_eq_getElem_cons h]
  simp only [List.getD, List.getElem?_eq_getElem h, Option.getD_some]

theorem take_set_succ {R : List Int} {k : Nat} (h : k < R.length) (v : Int) : (R.set k v).take (k + 1) = R.take k ++ [v] := by
  rw [List.take_succ_eq_append_getElem (by simpa using h), List.take_set_of_le (Nat.le_refl _)]
  simp

theorem drop_set_succ (R : List Int) (k : Nat) (v : Int) : (R.set k v).drop (k + 1) = R.drop (k + 1) := by
  rw [List.drop_set_of_lt (by omega)]

theorem getD_of_drop {R L : List Int} {k : Nat} (h : R.drop k = L.drop k) (j : Nat) (hj : k ≤ j) : R.getD j 0 = L.getD j 0 := by
  have e1 : R.getD j 0 = (R.drop k).getD (j - k) 0 := by simp [List.getD, List.getElem?_drop, show k + (j - k) = j by omega]
  have e2 : L.getD j 0 = (L.drop k).getD (j - k) 0 := by simp [List.getD, List.getElem?_drop, show k + (j - k) = j by omega]
  rw [e1, e2, h]

/-- What holds of a row that is being turned into a sum, k limbs done. -/
def AddSt (L M : List Int) (k : Nat) (R : List Int) (cy : Int) : Prop :=
  R.length = 6 ∧ R.drop k = L.drop k ∧ R.take k ++ (addC (L.drop k) (M.drop k) cy).1 = (addC L M 0).1 ∧ (addC (L.drop k) (M.drop k) cy).2 = (addC L M 0).2

theorem addSt_zero {L M : List Int} (hl : L.length = 6) : AddSt L M 0 L 0 := ⟨hl, rfl, by simp, rfl⟩

theorem addSt_step {L M R : List Int} {k : Nat} {cy : Int} (hL : L.length = 6) (hM : M.length = 6) (hk : k < 6) (h : AddSt L M k R cy) :
    AddSt L M (k + 1) (R.set k ((L.getD k 0 + M.getD k 0 + cy) % 65536)) ((L.getD k 0 + M.getD k 0 + cy) / 65536) := by
  obtain ⟨h1, h2, h3, h4⟩ := h
  rw [drop_cons (show k < L.length by omega), drop_cons (show k < M.length by omega)] at h3 h4
  simp only [addC] at h3 h4
  refine ⟨by simpa using h1, ?_, ?_, h4⟩
  · rw [drop_set_succ]
    have := congrArg (List.drop 1) h2
    simpa [List.drop_drop, Nat.add_comm] using this
  · rw [take_set_succ (by omega), List.append_assoc, List.singleton_append]; exact h3

theorem addSt_end {L M R : List Int} {cy : Int} (hL : L.length = 6) (hM : M.length = 6) (h : AddSt L M 6 R cy) : R = (addC L M 0).1 ∧ cy = (addC L M 0).2 := by
  obtain ⟨h1, h2, h3, h4⟩ := h
  rw [List.drop_eq_nil_of_le (by omega), List.drop_eq_nil_of_le (by omega)] at h3 h4
  simp only [addC, List.append_nil] at h3 h4
  rw [List.take_of_length_le (by omega)] at h3
  exact ⟨h3, h4⟩

set_option maxHeartbeats 2000000 in
theorem addRows_c (a0 a1 a2 a3 a4 a5 b0 b1 b2 b3 b4 b5 : Int) (w : World) (da : Digs [a0, a1, a2, a3, a4, a5]) (db : Digs [b0, b1, b2, b3, b4, b5]) :
    Calls Tryd.prog 28 #[.agg #[.int .i64 a0, .int .i64 a1, .int .i64 a2, .int .i64 a3, .int .i64 a4, .int .i64 a5], .agg #[.int .i64 b0, .int .i64 b1, .int .i64 b2, .int .i64 b3, .int .i64 b4, .int .i64 b5]] w fun e w' =>
      ∃ r0 r1 r2 r3 r4 r5 cy : Int, e = .returned (.tuple #[.agg #[.int .i64 r0, .int .i64 r1, .int .i64 r2, .int .i64 r3, .int .i64 r4, .int .i64 r5], .int .i64 cy]) ∧ Hid (addC [a0, a1, a2, a3, a4, a5] [b0, b1, b2, b3, b4, b5] 0 = ([r0, r1, r2, r3, r4, r5], cy)) ∧ Below w.heap.size w w' := by
  go_enter Tryd.func28, Tryd.ntmps28
  generalize hL : [a0, a1, a2, a3, a4, a5] = L at *
  generalize hM : [b0, b1, b2, b3, b4, b5] = M at *
  have HL : Hid ([a0, a1, a2, a3, a4, a5] = L) := hL
  have HM : Hid ([b0, b1, b2, b3, b4, b5] = M) := hM
  have lL : Hid (L.length = 6) := by rw [← hL]; rfl
  have lM : Hid (M.length = 6) := by rw [← hM]; rfl
  have HD : Hid (Digs L ∧ Digs M) := ⟨da, db⟩
  clear hL hM da db
  go_wp2
  go_loopw [6, 9] (fun cv i wr => ∃ (k : Nat) (cy : Int) (R : List Int), k ≤ 6 ∧ i = .int .i64 k ∧ cv = .int .i64 cy ∧ 0 ≤ cy ∧ cy ≤ 1 ∧ Hid (AddSt L M k R cy) ∧ Hid (OwnA 53 wr w.heap.size R) ∧ Hid (OwnA 53 wr (w.heap.size + 1) M) ∧ Hid (OwnA 53 wr (w.heap.size + 1 + 1) [0, 0, 0, 0, 0, 0]) ∧ Hid (Below w.heap.size w wr)) (fun _ i _ => 6 - (intOf i).toNat)
  case atStart =>
    refine ⟨0, 0, L, by omega, rfl, rfl, by omega, by omega, addSt_zero lL.out, ?_, ?_, ?_, ?_⟩
    · exact ((ownA_at _ _ _ L _ (by rw [← HL.out]; rfl) (by rw [lL.out]; omega) rfl).alloc _).alloc _
    · exact (ownA_at _ _ _ M _ (by rw [← HM.out]; rfl) (by rw [lM.out]; omega) (by simp)).alloc _
    · exact ownA_at _ _ _ _ _ rfl (by simp) (by simp)
    · exact (below_two w _ _).alloc (by simp; omega) _
  case round =>
    obtain ⟨k, cy, R, hk, rfl, rfl, c0, c1, hSt, hA, hM, hR, hB⟩ := hrel
    by_cases hlt : k < 6
    · have g1 := hA.out.cell k (by rw [hSt.out.1]; omega)
      rw [getD_of_drop hSt.out.2.1 k (Nat.le_refl _)] at g1
      have g2 := hM.out.cell k (by rw [lM.out]; omega)
      have g3 := hA.out.free k
      have k0 : (0 : Int) ≤ (k : Int) := by omega
      have k6 : (k : Int) < 6 := by omega
      have dX := HD.out.1.getD k
      have dY := HD.out.2.getD k
      have HS1 : Hid (AddSt L M (k + 1) (R.set k ((L.getD k 0 + M.getD k 0 + cy) % 65536)) ((L.getD k 0 + M.getD k 0 + cy) / 65536)) := addSt_step lL.out lM.out hlt hSt.out
      generalize L.getD k 0 = x at g1 dX HS1
      generalize M.getD k 0 = y at g2 dY HS1
      go_wp2
      go_quiet (fail)
      go_wp2
      go_roundw
      case rel => exact ⟨k + 1, (x + y + cy) / 65536, R.set k ((x + y + cy) % 65536), by omega, by go_num, rfl, by omega, by omega, HS1.out, (hA.out.drewN _).stored k _, (hM.out.drewN _).other _ _ (by simp), (hR.out.drewN _).other _ _ (by show _ ≠ _; simp; omega), (below_drewN hB.out _).setCell (Nat.le_refl _) _⟩
      case measure => simp [intOf]; omega
    · obtain rfl : k = 6 := by omega
      obtain ⟨e1, e2⟩ := addSt_end lL.out lM.out hSt.out
      obtain ⟨r0, r1, r2, r3, r4, r5, h6⟩ := list6 hSt.out.1
      have HE : Hid (addC L M 0 = ([r0, r1, r2, r3, r4, r5], cy)) := by
        show _ = _
        rw [← h6]; exact Prod.ext e1.symm e2.symm
      rw [h6] at hA
      obtain ⟨q0, q1, q2, q3, q4, q5⟩ := hA.out.cells6
      obtain ⟨t0, t1, t2, t3, t4, t5⟩ := hR.out.cells6
      have f0 := hR.out.free 0
      have f1 := hR.out.free 1
      have f2 := hR.out.free 2
      have f3 := hR.out.free 3
      have f4 := hR.out.free 4
      have f5 := hR.out.free 5
      clear hA hR hM h6 e1 e2 hSt
      go_wp2
      refine bodyPost_ret (v := .tuple #[.agg #[.int .i64 r0, .int .i64 r1, .int .i64 r2, .int .i64 r3, .int .i64 r4, .int .i64 r5], .int .i64 cy]) (by simp [results, Tryd.results28, go_sem, *]) rfl ⟨r0, r1, r2, r3, r4, r5, cy, rfl, HE, ?_⟩
      exact below_set6 hB.out (by omega)

end Go.Proofs.YtaedplfihjfchaaDoor
