/- The law on OpenNumber, walked: true at every argument, nothing turned. -/
import Derived.Test.YtckeodcmbdbomaaLawSeal
import Derived.Deep.RegionHeld3
import Derived.Deep.DrawnRows
import Derived.Deep.DeepCutAuto
import Derived.Deep.Light
namespace Go.Proofs.Ytckeodcmbdbomaa
set_option linter.unusedVariables false
set_option linter.unusedSimpArgs false
open Go.RowKit
attribute [local go_sem ↓] Go.wp_at_zero Go.wp_at_succ

theorem bcell {W w1 : World} (hb : Below W.heap.size W w1) : (∀ b o, b < W.heap.size → w1.cell? ⟨b, o, none⟩ = W.cell? ⟨b, o, none⟩) ∧ (∀ b o, b < W.heap.size → w1.frozen? ⟨b, o, none⟩ = W.frozen? ⟨b, o, none⟩) :=
  ⟨fun b o h => hb.cell (p := ⟨b, o, none⟩) h, fun b o h => hb.frozen (p := ⟨b, o, none⟩) h⟩

theorem C2.set {w : World} {g : Nat} {a b : Int} (h : C2 w g a b) (r s : Int) : C2 ((w.setCell ⟨g, 0, none⟩ (.int .i64 r)).setCell ⟨g, 1, none⟩ (.int .i64 s)) g r s := by
  obtain ⟨h0, h1, f0, f1⟩ := h
  refine ⟨?_, ?_, ?_, ?_⟩
  · rw [World.cell?_setCell_other _ _ _ _ (by simp)]; exact World.cell?_setCell_same _ _ _ h0
  · exact World.cell?_setCell_same _ _ _ (by rw [World.cell?_setCell_other _ _ _ _ (by simp)]; exact h1)
  · simp only [World.frozen?_setCell]; exact f0
  · simp only [World.frozen?_setCell]; exact f1

theorem C2.other {w : World} {g k : Nat} {a b : Int} (h : C2 w g a b) (hne : g ≠ k) (o : Nat) (u : Value) : C2 (w.setCell ⟨k, o, none⟩ u) g a b := by
  obtain ⟨h0, h1, f0, f1⟩ := h
  refine ⟨?_, ?_, ?_, ?_⟩
  · rw [World.cell?_setCell_other _ _ _ _ (by simp [hne])]; exact h0
  · rw [World.cell?_setCell_other _ _ _ _ (by simp [hne])]; exact h1
  · simp only [World.frozen?_setCell]; exact f0
  · simp only [World.frozen?_setCell]; exact f1

theorem C2.drew {w : World} {g : Nat} {a b : Int} (h : C2 w g a b) : C2 w.drew g a b := h

theorem C2.cells {w : World} {g : Nat} {a b : Int} (h : C2 w g a b) : w.cell? ⟨g, 0, none⟩ = some (.int .i64 a) ∧ w.cell? ⟨g, 1, none⟩ = some (.int .i64 b) := ⟨h.1, h.2.1⟩

theorem toSealed_d {w W : World} (hB : Below w.heap.size w W) (x y : Int) : Calls Try.prog 16 #[.agg #[.int .i64 x, .int .i64 y]] W fun e w' => e = .returned (.agg #[.int .i64 x, .int .i64 y]) ∧ Hid (Below w.heap.size w w') ∧ Below W.heap.size W w' :=
  (toSealed_c x y W).mono fun e w' ⟨he, hb⟩ => ⟨he, hB.trans (hb.mono hB.size), hb⟩

set_option maxHeartbeats 1000000 in
theorem lawOpen_c (s x y : Int) (w : World) : Calls Try.prog 6 #[.int .i64 s, .agg #[.int .i64 x, .int .i64 y]] w fun e w' => e = .returned (.bool true) ∧ Below w.heap.size w w' := by
  have hs := fun wx => specOpen_c s x y wx
  have hi := fun wx => implOpen_c s x y wx
  generalize (if openB s x y = true then y * pw (pw x s.toNat) 2997 % 2999 else 0) = p at hs hi
  generalize openB s x y = b at hs hi
  have HS : Hid (∀ wx, Calls Try.prog 15 #[.int .i64 s, .agg #[.int .i64 x, .int .i64 y]] wx fun e w' => e = .returned (.tuple #[.int .i64 p, .bool b]) ∧ Below wx.heap.size wx w') := hs
  have HI : Hid (∀ wx, Calls Try.prog 17 #[.int .i64 s, .agg #[.int .i64 x, .int .i64 y]] wx fun e w' => e = .returned (.tuple #[.int .i64 p, .bool b]) ∧ Below wx.heap.size wx w') := hi
  clear hs hi
  have e1 : (p != p) = false := by simp
  have e2 : (b != b) = false := by simp
  have X0 : Hid (C2 (w.alloc (Obj.cells #[Value.int .i64 x, Value.int .i64 y] 27)) w.heap.size x y) := c2_new _ _ _ _ _ rfl
  have HB0 : Hid (Below w.heap.size w (w.alloc (Obj.cells #[Value.int .i64 x, Value.int .i64 y] 27))) := below_one _ _
  go_enter Try.func6, Try.ntmps6
  go_wp2_with fail
  refine (toSealed_c x y _).mono ?_
  rintro e w1 ⟨rfl, hb⟩
  have X1 : Hid (C2 w1 w.heap.size x y) := X0.out.keep hb
  have HB1 : Hid (Below w.heap.size w w1) := HB0.out.trans (hb.mono HB0.out.size)
  clear hb X0 HB0
  obtain ⟨xa, xb⟩ := X1.out.cells
  have xl := X1.out.lt
  go_wp2_with fail
  refine (HS.out _).mono ?_
  rintro e w2 ⟨rfl, hb⟩
  have X2 : Hid (C2 w2 w.heap.size x y) := X1.out.keep hb
  have HB2 : Hid (Below w.heap.size w w2) := HB1.out.trans (hb.mono HB1.out.size)
  clear hb X1 HB1 xa xb xl
  obtain ⟨xa, xb⟩ := X2.out.cells
  have xl := X2.out.lt
  go_wp2_with fail
  refine (toSealed_c x y _).mono ?_
  rintro e w3 ⟨rfl, hb⟩
  have X3 : Hid (C2 w3 w.heap.size x y) := X2.out.keep hb
  have HB3 : Hid (Below w.heap.size w w3) := HB2.out.trans (hb.mono HB2.out.size)
  clear hb X2 HB2 xa xb xl
  obtain ⟨xa, xb⟩ := X3.out.cells
  have xl := X3.out.lt
  go_wp2_with fail
  refine (HI.out _).mono ?_
  rintro e w4 ⟨rfl, hb⟩
  have X4 : Hid (C2 w4 w.heap.size x y) := X3.out.keep hb
  have HB4 : Hid (Below w.heap.size w w4) := HB3.out.trans (hb.mono HB3.out.size)
  clear hb X3 HB3 xa xb xl
  obtain ⟨xa, xb⟩ := X4.out.cells
  have xl := X4.out.lt
  go_wp2
  go_ret
  exact ⟨rfl, HB4.out⟩



end Go.Proofs.Ytckeodcmbdbomaa
