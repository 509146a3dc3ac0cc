/- Chapter 16: the law of TakeNumber. -/
import Derived.Test.YtjpegbodhpnflaaDoorX16
namespace Go.Proofs.YtjpegbodhpnflaaDoor
set_option linter.unusedVariables false
set_option maxRecDepth 1000000
set_option linter.unusedSimpArgs false
open Go.RowKit

set_option maxHeartbeats 2000000 in
theorem lawTakeW_c (t x n : Int) (w : World) (wt : -9223372036854775808 ≤ t ∧ t ≤ 9223372036854775807) (wx : -9223372036854775808 ≤ x ∧ x ≤ 9223372036854775807) (wn : -9223372036854775808 ≤ n ∧ n ≤ 9223372036854775807) (ht : Tb w) :
    Calls Tryd.prog 6 #[.agg #[.int .i64 t, .int .i64 x], .int .i64 n] w fun e w' => e = .returned (.bool true) ∧ Below w.heap.size w w' := by
  obtain ⟨w0, hw0⟩ : ∃ X, w.alloc (.cells #[.int .i64 t, .int .i64 x] 47) = X := ⟨_, rfl⟩
  have X_0 : Hid (Bx w0 w.heap.size t x) := by rw [← hw0]; exact bx_new w t x 47
  have B_0 : Hid (Below w.heap.size w w0) := by rw [← hw0]; exact balloc w _
  have QT : Hid (∀ wx, Calls Tryd.prog 31 #[.agg #[.int .i64 t, .int .i64 x]] wx fun e w' => e = .returned (.agg #[.int .i64 t, .int .i64 x]) ∧ Below wx.heap.size wx w') := fun wx => toWindow_c t x wx
  have QS : Hid (∀ wx, Calls Tryd.prog 20 #[.agg #[.int .i64 t, .int .i64 x], .int .i64 n] wx fun e w' => e = .returned (.tuple #[.agg #[.int .i64 (takeT t x n).1.1, .int .i64 (takeT t x n).1.2], .int .i64 (takeT t x n).2, .bool (takeOk t x n)]) ∧ Below wx.heap.size wx w') := fun wx2 => specTake_c t x n wx2 wx wt
  have QI : Hid (∀ wx, Below w.heap.size w wx → Calls Tryd.prog 19 #[.agg #[.int .i64 t, .int .i64 x], .int .i64 n] wx fun e w' => e = .returned (.tuple #[.agg #[.int .i64 (takeT t x n).1.1, .int .i64 (takeT t x n).1.2], .int .i64 (takeT t x n).2, .bool (takeOk t x n)]) ∧ Below wx.heap.size wx w') := fun wx2 h => implTake_c t x n wx2 (ht.later h) wx
  generalize (takeT t x n).1.1 = T at QS QI
  generalize (takeT t x n).1.2 = R at QS QI
  generalize (takeT t x n).2 = cd at QS QI
  generalize takeOk t x n = ok at QS QI
  have hR : (ok != ok) = false := by simp
  have hC : (cd != cd) = false := by simp
  have QE : Hid (∀ wx, Calls Tryd.prog 32 #[.agg #[.int .i64 T, .int .i64 R], .agg #[.int .i64 T, .int .i64 R]] wx fun e w' => e = .returned (.bool true) ∧ Below wx.heap.size wx w') := fun wx => eqWindow_c T R wx
  clear wt wx ht wn
  obtain ⟨uX0, uX1, uX2⟩ := id X_0.out
  go_enter Tryd.func6, Tryd.ntmps6
  obtain ⟨uX0, uX1, uX2⟩ := id X_0.out
  go_wp2_with fail
  clear uX0 uX1 uX2
  refine (QT.out _).mono ?_
  rintro e w1 ⟨rfl, hb⟩
  have z0 : w0.heap.size ≤ w1.heap.size := hb.size
  have X_1 : Hid (Bx w1 w.heap.size t x) := X_0.out.later hb
  have B_1 : Hid (Below w.heap.size w w1) := B_0.out.trans (hb.mono B_0.out.size)
  clear X_0 B_0 hb
  go_wp2_with fail
  refine (QS.out _).mono ?_
  rintro e w2 ⟨rfl, hb⟩
  have z1 : w1.heap.size ≤ w2.heap.size := hb.size
  have X_2 : Hid (Bx w2 w.heap.size t x) := X_1.out.later hb
  have B_2 : Hid (Below w.heap.size w w2) := B_1.out.trans (hb.mono B_1.out.size)
  clear X_1 B_1 hb
  obtain ⟨w3, hA2⟩ : ∃ X, w2.alloc (.cells #[.int .i64 T, .int .i64 R] 26) = X := ⟨_, rfl⟩
  have hb : Below w2.heap.size w2 w3 := by rw [← hA2]; exact balloc w2 _
  have z2 : w2.heap.size ≤ w3.heap.size := hb.size
  have X_3 : Hid (Bx w3 w.heap.size t x) := X_2.out.later hb
  have B_3 : Hid (Below w.heap.size w w3) := B_2.out.trans (hb.mono B_2.out.size)
  have Y_3 : Hid (Bx w3 w2.heap.size T R) := by rw [← hA2]; exact bx_new w2 T R 26
  clear X_2 B_2 hb
  obtain ⟨uX0, uX1, uX2⟩ := id X_3.out
  go_wp2_with fail
  clear uX0 uX1 uX2
  clear hA2
  refine (QT.out _).mono ?_
  rintro e w4 ⟨rfl, hb⟩
  have z3 : w3.heap.size ≤ w4.heap.size := hb.size
  have X_4 : Hid (Bx w4 w.heap.size t x) := X_3.out.later hb
  have B_4 : Hid (Below w.heap.size w w4) := B_3.out.trans (hb.mono B_3.out.size)
  have Y_4 : Hid (Bx w4 w2.heap.size T R) := Y_3.out.later hb
  clear X_3 B_3 Y_3 hb
  go_wp2_with fail
  refine (QI.out _ B_4.out).mono ?_
  rintro e w5 ⟨rfl, hb⟩
  have z4 : w4.heap.size ≤ w5.heap.size := hb.size
  have X_5 : Hid (Bx w5 w.heap.size t x) := X_4.out.later hb
  have B_5 : Hid (Below w.heap.size w w5) := B_4.out.trans (hb.mono B_4.out.size)
  have Y_5 : Hid (Bx w5 w2.heap.size T R) := Y_4.out.later hb
  clear X_4 B_4 Y_4 hb
  obtain ⟨w6, hA5⟩ : ∃ X, w5.alloc (.cells #[.int .i64 T, .int .i64 R] 26) = X := ⟨_, rfl⟩
  have hb : Below w5.heap.size w5 w6 := by rw [← hA5]; exact balloc w5 _
  have z5 : w5.heap.size ≤ w6.heap.size := hb.size
  have X_6 : Hid (Bx w6 w.heap.size t x) := X_5.out.later hb
  have B_6 : Hid (Below w.heap.size w w6) := B_5.out.trans (hb.mono B_5.out.size)
  have Y_6 : Hid (Bx w6 w2.heap.size T R) := Y_5.out.later hb
  have Z_6 : Hid (Bx w6 w5.heap.size T R) := by rw [← hA5]; exact bx_new w5 T R 26
  clear X_5 B_5 Y_5 hb
  obtain ⟨uY0, uY1, uY2⟩ := id Y_6.out
  obtain ⟨uZ0, uZ1, uZ2⟩ := id Z_6.out
  go_wp2_with fail
  clear uY0 uY1 uY2
  clear uZ0 uZ1 uZ2
  clear hA5
  refine (QE.out _).mono ?_
  rintro e w7 ⟨rfl, hb⟩
  have z6 : w6.heap.size ≤ w7.heap.size := hb.size
  have X_7 : Hid (Bx w7 w.heap.size t x) := X_6.out.later hb
  have B_7 : Hid (Below w.heap.size w w7) := B_6.out.trans (hb.mono B_6.out.size)
  have Y_7 : Hid (Bx w7 w2.heap.size T R) := Y_6.out.later hb
  have Z_7 : Hid (Bx w7 w5.heap.size T R) := Z_6.out.later hb
  clear X_6 B_6 Y_6 Z_6 hb
  go_wp2
  go_ret
  exact ⟨rfl, B_7.out⟩

end Go.Proofs.YtjpegbodhpnflaaDoor
