/- The laws on SealAgain and SealNumber, walked: where the table is laid they answer true at every argument and turn nothing that was there. -/
import Derived.Test.YtckeodcmbdbomaaDoorNumber
namespace Go.Proofs.YtckeodcmbdbomaaDoor
set_option linter.unusedVariables false
set_option linter.unusedSimpArgs false
open Go.RowKit
attribute [local go_sem ↓] Go.wp_at_zero Go.wp_at_succ

set_option maxHeartbeats 4000000 in
theorem lawAgain_c (p s x y : Int) (w : World) (ht : Tab w) : Calls Tryd.prog 7 #[.int .i64 p, .int .i64 s, .agg #[.int .i64 x, .int .i64 y]] w fun e w' => e = .returned (.bool true) ∧ Below w.heap.size w w' := by
  have hs := fun wx => specAgain_c p s x y wx
  have hi := fun wx hx => implAgain_c p s x y wx hx
  generalize (if againB p s x y = true then x * pw 4 s.toNat % 2999 else 0) = r1 at hs hi
  generalize (if againB p s x y = true then y * pw p s.toNat % 2999 else 0) = r2 at hs hi
  generalize againB p s x y = b at hs hi
  have HS : Hid (∀ wx, Calls Tryd.prog 32 #[.int .i64 p, .int .i64 s, .agg #[.int .i64 x, .int .i64 y]] wx fun e w' => e = .returned (.tuple #[.agg #[.int .i64 r1, .int .i64 r2], .bool b]) ∧ Below wx.heap.size wx w') := hs
  have HI : Hid (∀ wx, Tab wx → Calls Tryd.prog 27 #[.int .i64 p, .int .i64 s, .agg #[.int .i64 x, .int .i64 y]] wx fun e w' => e = .returned (.tuple #[.agg #[.int .i64 r1, .int .i64 r2], .bool b]) ∧ Below wx.heap.size wx w') := hi
  have HT0 : Hid (Tab w) := ht
  clear hs hi ht
  have e2 : (b != b) = false := by simp
  have X0 : Hid (C2 (w.alloc (Obj.cells #[Value.int .i64 x, Value.int .i64 y] 48)) w.heap.size x y) := c2_new _ _ _ _ _ rfl
  have HB0 : Hid (Below w.heap.size w (w.alloc (Obj.cells #[Value.int .i64 x, Value.int .i64 y] 48))) := below_one _ _
  go_enter Tryd.func7, Tryd.ntmps7
  go_wp2_with fail
  refine (toSealed_c x y _).mono ?_
  rintro e w1 ⟨rfl, hb⟩
  have X1 : Hid (C2 w1 w.heap.size x y) := X0.out.keep hb
  have HB1 : Hid (Below w.heap.size w w1) := HB0.out.trans (hb.mono (by simp))
  have HT1 : Hid (Tab w1) := HT0.out.keep HB1.out
  clear hb X0 HB0
  obtain ⟨fXa, fXb⟩ := X1.out.cells
  have fXl := X1.out.lt
  go_wp2_with fail
  refine (HS.out _).mono ?_
  rintro e w2 ⟨rfl, hb⟩
  have X2 : Hid (C2 w2 w.heap.size x y) := by show C2 _ _ _ _; refine C2.keep ?_ hb; repeat (first | with_reducible exact X1.out | refine C2.drew ?_ | refine C2.alloc ?_ _)
  have HB2 : Hid (Below w.heap.size w w2) := by show Below _ _ _; refine Below.trans ?_ (hb.mono (by have := HB1.out.size; first | exact this | (simp; omega))); repeat (first | with_reducible exact HB1.out | refine Below.drew ?_ | refine Below.alloc ?_ HB1.out.size _)
  have HT2 : Hid (Tab w2) := HT0.out.keep HB2.out
  clear hb X1
  try clear fXa fXb fXl
  obtain ⟨fXa, fXb⟩ := X2.out.cells
  have fXl := X2.out.lt
  go_wp2_with fail
  refine (toSealed_c x y _).mono ?_
  rintro e w3 ⟨rfl, hb⟩
  have X3 : Hid (C2 w3 w.heap.size x y) := by show C2 _ _ _ _; refine C2.keep ?_ hb; repeat (first | with_reducible exact X2.out | refine C2.drew ?_ | refine C2.alloc ?_ _)
  have M3 : Hid (C2 w3 w2.heap.size r1 r2) := by show C2 _ _ _ _; refine C2.keep ?_ hb; repeat (first | with_reducible exact c2_new _ _ _ _ _ rfl | refine C2.drew ?_ | refine C2.alloc ?_ _)
  have HB3 : Hid (Below w.heap.size w w3) := by show Below _ _ _; refine Below.trans ?_ (hb.mono (by have := HB2.out.size; first | exact this | (simp; omega))); repeat (first | with_reducible exact HB2.out | refine Below.drew ?_ | refine Below.alloc ?_ HB2.out.size _)
  have HT3 : Hid (Tab w3) := HT0.out.keep HB3.out
  clear hb X2
  try clear fXa fXb fXl
  obtain ⟨fXa, fXb⟩ := X3.out.cells
  have fXl := X3.out.lt
  obtain ⟨fMa, fMb⟩ := M3.out.cells
  have fMl := M3.out.lt
  go_wp2_with fail
  refine (HI.out _ HT3.out).mono ?_
  rintro e w4 ⟨rfl, hb⟩
  have X4 : Hid (C2 w4 w.heap.size x y) := by show C2 _ _ _ _; refine C2.keep ?_ hb; repeat (first | with_reducible exact X3.out | refine C2.drew ?_ | refine C2.alloc ?_ _)
  have M4 : Hid (C2 w4 w2.heap.size r1 r2) := by show C2 _ _ _ _; refine C2.keep ?_ hb; repeat (first | with_reducible exact M3.out | refine C2.drew ?_ | refine C2.alloc ?_ _)
  have HB4 : Hid (Below w.heap.size w w4) := by show Below _ _ _; refine Below.trans ?_ (hb.mono (by have := HB3.out.size; first | exact this | (simp; omega))); repeat (first | with_reducible exact HB3.out | refine Below.drew ?_ | refine Below.alloc ?_ HB3.out.size _)
  have HT4 : Hid (Tab w4) := HT0.out.keep HB4.out
  clear hb X3 M3
  try clear fXa fXb fXl fMa fMb fMl
  obtain ⟨fXa, fXb⟩ := X4.out.cells
  have fXl := X4.out.lt
  obtain ⟨fMa, fMb⟩ := M4.out.cells
  have fMl := M4.out.lt
  go_wp2_with fail
  refine (eqSealed_c r1 r2 _).mono ?_
  rintro e w5 ⟨rfl, hb⟩
  have X5 : Hid (C2 w5 w.heap.size x y) := by show C2 _ _ _ _; refine C2.keep ?_ hb; repeat (first | with_reducible exact X4.out | refine C2.drew ?_ | refine C2.alloc ?_ _)
  have M5 : Hid (C2 w5 w2.heap.size r1 r2) := by show C2 _ _ _ _; refine C2.keep ?_ hb; repeat (first | with_reducible exact M4.out | refine C2.drew ?_ | refine C2.alloc ?_ _)
  have N5 : Hid (C2 w5 w4.heap.size r1 r2) := by show C2 _ _ _ _; refine C2.keep ?_ hb; repeat (first | with_reducible exact c2_new _ _ _ _ _ rfl | refine C2.drew ?_ | refine C2.alloc ?_ _)
  have HB5 : Hid (Below w.heap.size w w5) := by show Below _ _ _; refine Below.trans ?_ (hb.mono (by have := HB4.out.size; first | exact this | (simp; omega))); repeat (first | with_reducible exact HB4.out | refine Below.drew ?_ | refine Below.alloc ?_ HB4.out.size _)
  have HT5 : Hid (Tab w5) := HT0.out.keep HB5.out
  clear hb X4 M4
  try clear fXa fXb fXl fMa fMb fMl
  obtain ⟨fXa, fXb⟩ := X5.out.cells
  have fXl := X5.out.lt
  obtain ⟨fMa, fMb⟩ := M5.out.cells
  have fMl := M5.out.lt
  obtain ⟨fNa, fNb⟩ := N5.out.cells
  have fNl := N5.out.lt
  go_wp2
  go_ret
  exact ⟨rfl, HB5.out⟩

set_option maxHeartbeats 4000000 in
theorem lawNumber_c (p s m : Int) (w : World) (ht : Tab w) : Calls Tryd.prog 6 #[.int .i64 p, .int .i64 s, .int .i64 m] w fun e w' => e = .returned (.bool true) ∧ Below w.heap.size w w' := by
  have hs := fun wx => specNumber_c p s m wx
  have hi := fun wx hx => implNumber_c p s m wx hx
  generalize (if againB p s 1 m = true then 1 * pw 4 s.toNat % 2999 else 0) = r1 at hs hi
  generalize (if againB p s 1 m = true then m * pw p s.toNat % 2999 else 0) = r2 at hs hi
  generalize againB p s 1 m = b at hs hi
  have HS : Hid (∀ wx, Calls Tryd.prog 25 #[.int .i64 p, .int .i64 s, .int .i64 m] wx fun e w' => e = .returned (.tuple #[.agg #[.int .i64 r1, .int .i64 r2], .bool b]) ∧ Below wx.heap.size wx w') := hs
  have HI : Hid (∀ wx, Tab wx → Calls Tryd.prog 24 #[.int .i64 p, .int .i64 s, .int .i64 m] wx fun e w' => e = .returned (.tuple #[.agg #[.int .i64 r1, .int .i64 r2], .bool b]) ∧ Below wx.heap.size wx w') := hi
  have HT0 : Hid (Tab w) := ht
  clear hs hi ht
  have e2 : (b != b) = false := by simp
  go_enter Tryd.func6, Tryd.ntmps6
  go_wp2_with fail
  refine (HS.out _).mono ?_
  rintro e w1 ⟨rfl, hb⟩
  have HB1 : Hid (Below w.heap.size w w1) := hb
  have HT1 : Hid (Tab w1) := HT0.out.keep HB1.out
  clear hb
  go_wp2_with fail
  have HTa : Hid (Tab (w1.alloc (Obj.cells #[Value.int .i64 r1, Value.int .i64 r2] 34))) := HT1.out.keep (below_one _ _)
  refine (HI.out _ HTa.out).mono ?_
  rintro e w2 ⟨rfl, hb⟩
  have M2 : Hid (C2 w2 w1.heap.size r1 r2) := by show C2 _ _ _ _; refine C2.keep ?_ hb; repeat (first | with_reducible exact c2_new _ _ _ _ _ rfl | refine C2.drew ?_ | refine C2.alloc ?_ _)
  have HB2 : Hid (Below w.heap.size w w2) := by show Below _ _ _; refine Below.trans ?_ (hb.mono (by have := HB1.out.size; first | exact this | (simp; omega))); repeat (first | with_reducible exact HB1.out | refine Below.drew ?_ | refine Below.alloc ?_ HB1.out.size _)
  have HT2 : Hid (Tab w2) := HT0.out.keep HB2.out
  clear hb HTa
  obtain ⟨fMa, fMb⟩ := M2.out.cells
  have fMl := M2.out.lt
  go_wp2_with fail
  refine (eqSealed_c r1 r2 _).mono ?_
  rintro e w3 ⟨rfl, hb⟩
  have M3 : Hid (C2 w3 w1.heap.size r1 r2) := by show C2 _ _ _ _; refine C2.keep ?_ hb; repeat (first | with_reducible exact M2.out | refine C2.drew ?_ | refine C2.alloc ?_ _)
  have N3 : Hid (C2 w3 w2.heap.size r1 r2) := by show C2 _ _ _ _; refine C2.keep ?_ hb; repeat (first | with_reducible exact c2_new _ _ _ _ _ rfl | refine C2.drew ?_ | refine C2.alloc ?_ _)
  have HB3 : Hid (Below w.heap.size w w3) := by show Below _ _ _; refine Below.trans ?_ (hb.mono (by have := HB2.out.size; first | exact this | (simp; omega))); repeat (first | with_reducible exact HB2.out | refine Below.drew ?_ | refine Below.alloc ?_ HB2.out.size _)
  have HT3 : Hid (Tab w3) := HT0.out.keep HB3.out
  clear hb M2
  try clear fMa fMb fMl
  obtain ⟨fMa, fMb⟩ := M3.out.cells
  have fMl := M3.out.lt
  obtain ⟨fNa, fNb⟩ := N3.out.cells
  have fNl := N3.out.lt
  go_wp2
  go_ret
  exact ⟨rfl, HB3.out⟩

end Go.Proofs.YtckeodcmbdbomaaDoor
