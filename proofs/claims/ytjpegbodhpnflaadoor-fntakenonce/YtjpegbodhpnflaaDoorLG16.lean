/- Chapter 16: the laws of GoodWindow, LowestOf and SeenIn. -/
import Derived.Test.YtjpegbodhpnflaaDoorU16
namespace Go.Proofs.YtjpegbodhpnflaaDoor
set_option linter.unusedVariables false
set_option maxRecDepth 1000000
set_option linter.unusedSimpArgs false
open Go.RowKit

theorem toWindow_c (t x : Int) (w : World) :
    Calls Tryd.prog 31 #[.agg #[.int .i64 t, .int .i64 x]] w fun e w' => e = .returned (.agg #[.int .i64 t, .int .i64 x]) ∧ Below w.heap.size w w' := by
  go_enter Tryd.func31, Tryd.ntmps31
  go_wp2
  refine bodyPost_ret (v := .agg #[.int .i64 t, .int .i64 x]) (by simp [results, Tryd.results31, go_sem, ]; try rfl) rfl ?_
  exact ⟨rfl, ((Below.refl _ _).alloc (Nat.le_refl _) _).alloc (by simp) _ |>.alloc (by simp; omega) _⟩

theorem eqWindow_c (t x : Int) (w : World) :
    Calls Tryd.prog 32 #[.agg #[.int .i64 t, .int .i64 x], .agg #[.int .i64 t, .int .i64 x]] w fun e w' => e = .returned (.bool true) ∧ Below w.heap.size w w' := by
  go_enter Tryd.func32, Tryd.ntmps32
  go_wp2
  go_ret
  exact ⟨rfl, ((Below.refl _ _).alloc (Nat.le_refl _) _).alloc (by simp) _⟩

/-- A box of two cells lies at g. -/
def Bx (w : World) (g : Nat) (t x : Int) : Prop := g < w.heap.size ∧ w.cell? ⟨g, 0, none⟩ = some (.int .i64 t) ∧ w.cell? ⟨g, 1, none⟩ = some (.int .i64 x)
theorem Bx.later {w w' : World} {g : Nat} {t x : Int} (h : Bx w g t x) (hb : Below w.heap.size w w') : Bx w' g t x :=
  ⟨Nat.lt_of_lt_of_le h.1 hb.size, by rw [hb.cell (p := ⟨g, 0, none⟩) h.1]; exact h.2.1, by rw [hb.cell (p := ⟨g, 1, none⟩) h.1]; exact h.2.2⟩
theorem bx_new (w : World) (t x : Int) (ty : TypeId) : Bx (w.alloc (.cells #[.int .i64 t, .int .i64 x] ty)) w.heap.size t x := ⟨by simp, by simp, by simp⟩

theorem lawGoodW_c (t x : Int) (w : World) (wt : -9223372036854775808 ≤ t ∧ t ≤ 9223372036854775807) (wx : -9223372036854775808 ≤ x ∧ x ≤ 9223372036854775807) (ht : Tb w) :
    Calls Tryd.prog 5 #[.agg #[.int .i64 t, .int .i64 x]] w fun e w' => e = .returned (.bool true) ∧ Below w.heap.size w w' := by
  have HX0 := bx_new w t x 47
  have HB0 : Hid (Below w.heap.size w (w.alloc (.cells #[.int .i64 t, .int .i64 x] 47))) := balloc w _
  have QT : Hid (∀ wx, Calls Tryd.prog 31 #[.agg #[.int .i64 t, .int .i64 x]] wx fun e w' => e = .returned (.agg #[.int .i64 t, .int .i64 x]) ∧ Below wx.heap.size wx w') := fun wx => toWindow_c t x wx
  have QS : Hid (∀ wx, Calls Tryd.prog 21 #[.agg #[.int .i64 t, .int .i64 x]] wx fun e w' => e = .returned (.bool (goodWn t x)) ∧ Below wx.heap.size wx w') := fun wx2 => specGood_c t x wx2 wx wt
  have QI : Hid (∀ wx, Below w.heap.size w wx → Calls Tryd.prog 17 #[.agg #[.int .i64 t, .int .i64 x]] wx fun e w' => e = .returned (.bool (goodWn t x)) ∧ Below wx.heap.size wx w') := fun wx2 h => goodWindow_c t x wx2 (ht.later h) wx
  generalize goodWn t x = R at QS QI
  have hR : (R != R) = false := by simp
  clear wt wx
  obtain ⟨hl, c0, c1⟩ := HX0
  go_enter Tryd.func5, Tryd.ntmps5
  go_wp2_with fail
  refine (QT.out _).mono ?_
  rintro e w1 ⟨rfl, b1⟩
  have hx1 := (bx_new w t x 47).later b1
  have B1 : Hid (Below w.heap.size w w1) := HB0.out.trans (b1.mono HB0.out.size)
  clear b1 hl c0 c1 HB0
  go_wp2_with fail
  refine (QS.out _).mono ?_
  rintro e w2 ⟨rfl, b2⟩
  have hx2 := hx1.later b2
  have B2 : Hid (Below w.heap.size w w2) := B1.out.trans (b2.mono B1.out.size)
  clear b2 hx1 B1
  obtain ⟨hl, c0, c1⟩ := id hx2
  go_wp2_with fail
  refine (QT.out _).mono ?_
  rintro e w3 ⟨rfl, b3⟩
  have B3 : Hid (Below w.heap.size w w3) := B2.out.trans (b3.mono B2.out.size)
  clear b3 hl c0 c1 hx2 B2
  go_wp2_with fail
  refine (QI.out _ B3.out).mono ?_
  rintro e w4 ⟨rfl, b4⟩
  have B4 : Hid (Below w.heap.size w w4) := B3.out.trans (b4.mono B3.out.size)
  clear b4 B3
  go_wp2
  go_ret
  exact ⟨rfl, B4.out⟩

theorem lawLowW_c (t x : Int) (w : World) (wt : -9223372036854775808 ≤ t ∧ t ≤ 9223372036854775807) (wx : -9223372036854775808 ≤ x ∧ x ≤ 9223372036854775807) (ht : Tb w) :
    Calls Tryd.prog 9 #[.agg #[.int .i64 t, .int .i64 x]] w fun e w' => e = .returned (.bool true) ∧ Below w.heap.size w w' := by
  have HX0 := bx_new w t x 47
  have HB0 : Hid (Below w.heap.size w (w.alloc (.cells #[.int .i64 t, .int .i64 x] 47))) := balloc w _
  have QT : Hid (∀ wx, Calls Tryd.prog 31 #[.agg #[.int .i64 t, .int .i64 x]] wx fun e w' => e = .returned (.agg #[.int .i64 t, .int .i64 x]) ∧ Below wx.heap.size wx w') := fun wx => toWindow_c t x wx
  have QS : Hid (∀ wx, Calls Tryd.prog 30 #[.agg #[.int .i64 t, .int .i64 x]] wx fun e w' => e = .returned (.tuple #[.int .i64 (lowV t x), .bool (goodWn t x)]) ∧ Below wx.heap.size wx w') := fun wx2 => specLow_c t x wx2 wx wt
  have QI : Hid (∀ wx, Below w.heap.size w wx → Calls Tryd.prog 26 #[.agg #[.int .i64 t, .int .i64 x]] wx fun e w' => e = .returned (.tuple #[.int .i64 (lowV t x), .bool (goodWn t x)]) ∧ Below wx.heap.size wx w') := fun wx2 h => implLow_c t x wx2 (ht.later h) wx
  generalize goodWn t x = R at QS QI
  generalize lowV t x = l at QS QI
  have hR : (R != R) = false := by simp
  clear wt wx
  obtain ⟨hl, c0, c1⟩ := HX0
  go_enter Tryd.func9, Tryd.ntmps9
  go_wp2_with fail
  refine (QT.out _).mono ?_
  rintro e w1 ⟨rfl, b1⟩
  have hx1 := (bx_new w t x 47).later b1
  have B1 : Hid (Below w.heap.size w w1) := HB0.out.trans (b1.mono HB0.out.size)
  clear b1 hl c0 c1 HB0
  go_wp2_with fail
  refine (QS.out _).mono ?_
  rintro e w2 ⟨rfl, b2⟩
  have hx2 := hx1.later b2
  have B2 : Hid (Below w.heap.size w w2) := B1.out.trans (b2.mono B1.out.size)
  clear b2 hx1 B1
  obtain ⟨hl, c0, c1⟩ := id hx2
  go_wp2_with fail
  refine (QT.out _).mono ?_
  rintro e w3 ⟨rfl, b3⟩
  have B3 : Hid (Below w.heap.size w w3) := B2.out.trans (b3.mono B2.out.size)
  clear b3 hl c0 c1 hx2 B2
  go_wp2_with fail
  refine (QI.out _ B3.out).mono ?_
  rintro e w4 ⟨rfl, b4⟩
  have B4 : Hid (Below w.heap.size w w4) := B3.out.trans (b4.mono B3.out.size)
  clear b4 B3
  go_wp2
  go_ret
  exact ⟨rfl, B4.out⟩

end Go.Proofs.YtjpegbodhpnflaaDoor
