/- Chapter 11: the laws' own functions over a trip. -/
import Derived.Test.YtdhnolafkgkliaaW11
namespace Go.Proofs.Ytdhnolafkgkliaa
set_option linter.unusedVariables false
set_option maxRecDepth 1000000
set_option linter.unusedSimpArgs false
open Go.RowKit

theorem grown_of_below {a b : World} (h : Below a.heap.size a b) (r : Option Nat) : a.grownBy b r := ⟨h.os, h.tape, h.output, h.size, fun q hq _ => h.block q hq⟩

set_option maxHeartbeats 2000000 in
/-- Two trips that read the same. -/
theorem eqTrip_q (ha ra ia ja : Option Addr) (n m hc rc ic jc : Nat) (l a lo : Int) (hs : List Int) (rs : List Rc) (w : World) (hx : hs.length = n) (hy : rs.length = m) (hn : n ≤ 1000) (hm : m ≤ 1000) (r1 : Rd w ha hs) (r2 : RdR w ra rs) (r3 : Rd w ia hs) (r4 : RdR w ja rs) :
    Calls Try.prog 11 #[.agg #[.slice ha n hc, .int .i64 l, .int .i64 a, .slice ra m rc, .int .i64 lo], .agg #[.slice ia n ic, .int .i64 l, .int .i64 a, .slice ja m jc, .int .i64 lo]] w fun e w' => e = .returned (.bool true) ∧ Below w.heap.size w w' := by
  have hC := (x5_new w (.slice ha n hc) (.int .i64 l) (.int .i64 a) (.slice ra m rc) (.int .i64 lo) 31 (w.heap.size) (by simp)).later (balloc (w.alloc (.cells #[.slice ha n hc, .int .i64 l, .int .i64 a, .slice ra m rc, .int .i64 lo] 31)) (.cells #[.slice ia n ic, .int .i64 l, .int .i64 a, .slice ja m jc, .int .i64 lo] 31))
  have hD := x5_new (w.alloc (.cells #[.slice ha n hc, .int .i64 l, .int .i64 a, .slice ra m rc, .int .i64 lo] 31)) (.slice ia n ic) (.int .i64 l) (.int .i64 a) (.slice ja m jc) (.int .i64 lo) 31 (w.heap.size + 1) (by simp)
  have hB_W0 : Below w.heap.size w ((w.alloc (.cells #[.slice ha n hc, .int .i64 l, .int .i64 a, .slice ra m rc, .int .i64 lo] 31)).alloc (.cells #[.slice ia n ic, .int .i64 l, .int .i64 a, .slice ja m jc, .int .i64 lo] 31)) := (balloc w (.cells #[.slice ha n hc, .int .i64 l, .int .i64 a, .slice ra m rc, .int .i64 lo] 31)).alloc (by simp) (.cells #[.slice ia n ic, .int .i64 l, .int .i64 a, .slice ja m jc, .int .i64 lo] 31)
  have hS_W0 : (((w.alloc (.cells #[.slice ha n hc, .int .i64 l, .int .i64 a, .slice ra m rc, .int .i64 lo] 31)).alloc (.cells #[.slice ia n ic, .int .i64 l, .int .i64 a, .slice ja m jc, .int .i64 lo] 31))).heap.size = w.heap.size + 2 := by simp
  obtain ⟨W0, hW0⟩ : ∃ V, ((w.alloc (.cells #[.slice ha n hc, .int .i64 l, .int .i64 a, .slice ra m rc, .int .i64 lo] 31)).alloc (.cells #[.slice ia n ic, .int .i64 l, .int .i64 a, .slice ja m jc, .int .i64 lo] 31)) = V := ⟨_, rfl⟩
  rw [hW0] at hC hD hB_W0 hS_W0
  have HC : Hid (X5 W0 (w.heap.size) (.slice ha n hc) (.int .i64 l) (.int .i64 a) (.slice ra m rc) (.int .i64 lo)) := hC
  have HD : Hid (X5 W0 (w.heap.size + 1) (.slice ia n ic) (.int .i64 l) (.int .i64 a) (.slice ja m jc) (.int .i64 lo)) := hD
  have HB_W0 : Hid (Below w.heap.size w W0) := hB_W0
  have HS_W0 : Hid (W0.heap.size = w.heap.size + 2) := hS_W0
  clear hB_W0 hS_W0 hC hD
  have q0 := eqIntS_c ha ia n n hc ic hs hs W0 hx hx (by omega) (by omega) (r1.later HB_W0.out) (r3.later HB_W0.out)
  rw [decide_eq_true rfl] at q0
  have HQ1 : Hid (∀ wx, RdR wx ra rs → RdR wx ja rs → Calls Try.prog 27 #[.slice ra m rc, .slice ja m jc] wx fun e w' => e = .returned (.bool true) ∧ Below wx.heap.size wx w') := fun wx h1 h2 => by have := eqReceiptS_c ra ja m m rc jc rs rs wx hy hy (by omega) (by omega) h1 h2; rw [decide_eq_true rfl] at this; exact this
  have R2 : Hid (RdR W0 ra rs) := r2.later HB_W0.out
  have R4 : Hid (RdR W0 ja rs) := r4.later HB_W0.out
  clear r1 r2 r3 r4 hx hy
  obtain ⟨⟨c0, c1, c2, c3, c4⟩, cf⟩ := id (HC.out)
  clear cf
  obtain ⟨⟨d0, d1, d2, d3, d4⟩, df⟩ := id (HD.out)
  clear df
  have e1 : (l != l) = false := by simp
  have e2 : (a != a) = false := by simp
  have e3 : (lo != lo) = false := by simp
  go_enter Try.func11, Try.ntmps11
  go_wp2_with fail
  clear hW0
  refine q0.mono ?_
  clear q0 c0 c1 c2 c3 c4 d0 d1 d2 d3 d4
  rintro e w1 ⟨rfl, hb⟩
  have HB1 : Hid (Below w.heap.size w w1) := HB_W0.out.trans (hb.mono HB_W0.out.size)
  have HC1 : Hid (X5 w1 (w.heap.size) (.slice ha n hc) (.int .i64 l) (.int .i64 a) (.slice ra m rc) (.int .i64 lo)) := HC.out.later hb
  have HD1 : Hid (X5 w1 (w.heap.size + 1) (.slice ia n ic) (.int .i64 l) (.int .i64 a) (.slice ja m jc) (.int .i64 lo)) := HD.out.later hb
  have R21 : Hid (RdR w1 ra rs) := R2.out.later hb
  have R41 : Hid (RdR w1 ja rs) := R4.out.later hb
  clear hb HC HD R2 R4
  obtain ⟨⟨c0, c1, c2, c3, c4⟩, cf⟩ := id (HC1.out)
  clear cf
  obtain ⟨⟨d0, d1, d2, d3, d4⟩, df⟩ := id (HD1.out)
  clear df
  go_wp2_with fail
  refine (HQ1.out _ R21.out R41.out).mono ?_
  clear c0 c1 c2 c3 c4 d0 d1 d2 d3 d4
  rintro e w2 ⟨rfl, hb⟩
  have HB2 : Hid (Below w.heap.size w w2) := HB1.out.trans (hb.mono HB1.out.size)
  obtain ⟨⟨c0, c1, c2, c3, c4⟩, cf⟩ := HC1.out.later hb
  obtain ⟨⟨d0, d1, d2, d3, d4⟩, df⟩ := HD1.out.later hb
  clear hb cf df
  go_wp2
  go_ret
  exact ⟨rfl, HB2.out⟩

set_option maxHeartbeats 2000000 in
theorem markTrip_c (ha ra : Option Addr) (n m hc rc : Nat) (l a lo : Int) (base base2 : Nat) (hs : List Int) (rs : List Rc) (w : World) (hn : n ≤ 1000) (hm : m ≤ 1000) (ho : Own w base (.slice ha n hc) hs) (hr : OwnR w base2 (.slice ra m rc) rs) :
    Calls Try.prog 14 #[.agg #[.slice ha n hc, .int .i64 l, .int .i64 a, .slice ra m rc, .int .i64 lo], .int .i64 1] w fun e w' => e = .returned (.int .i64 ((1 + n + 4 * m : Nat) : Int)) ∧ ∃ wm, w.grownBy wm (Value.slice ha n hc).ownBlock ∧ wm.grownBy w' (Value.slice ra m rc).ownBlock ∧ Own w' base (.slice ha n hc) (marks 1 n) ∧ OwnR w' base2 (.slice ra m rc) (marksR (1 + n) m) := by
  have hC := x5_new w (.slice ha n hc) (.int .i64 l) (.int .i64 a) (.slice ra m rc) (.int .i64 lo) 31 (w.heap.size) (by simp)
  have hB_W0 : Below w.heap.size w (w.alloc (.cells #[.slice ha n hc, .int .i64 l, .int .i64 a, .slice ra m rc, .int .i64 lo] 31)) := balloc w (.cells #[.slice ha n hc, .int .i64 l, .int .i64 a, .slice ra m rc, .int .i64 lo] 31)
  have hS_W0 : ((w.alloc (.cells #[.slice ha n hc, .int .i64 l, .int .i64 a, .slice ra m rc, .int .i64 lo] 31))).heap.size = w.heap.size + 1 := by simp
  obtain ⟨W0, hW0⟩ : ∃ V, (w.alloc (.cells #[.slice ha n hc, .int .i64 l, .int .i64 a, .slice ra m rc, .int .i64 lo] 31)) = V := ⟨_, rfl⟩
  rw [hW0] at hC hB_W0 hS_W0
  have HC : Hid (X5 W0 (w.heap.size) (.slice ha n hc) (.int .i64 l) (.int .i64 a) (.slice ra m rc) (.int .i64 lo)) := hC
  have HB_W0 : Hid (Below w.heap.size w W0) := hB_W0
  have HS_W0 : Hid (W0.heap.size = w.heap.size + 1) := hS_W0
  clear hB_W0 hS_W0 hC
  have q0 := markIntS_c ha n hc 1 base hs W0 (by omega) (by omega) (by omega) (ho.later HB_W0.out)
  have HR0 : Hid (OwnR W0 base2 (.slice ra m rc) rs) := hr.later HB_W0.out
  have HO0 : Hid (Own W0 base (.slice ha n hc) hs) := ho.later HB_W0.out
  have hgc : some w.heap.size ≠ (Value.slice ha n hc).ownBlock := fun e => by have := (World.ownsRow.lt ho _ e.symm).2; omega
  clear ho hr
  obtain ⟨⟨c0, c1, c2, c3, c4⟩, cf⟩ := id (HC.out)
  clear cf
  go_enter Try.func14, Try.ntmps14
  go_wp2_with fail
  clear hW0
  refine q0.mono ?_
  clear q0 c0 c1 c2 c3 c4
  rintro e w1 ⟨rfl, ho1, hg⟩
  have HC1 : Hid (X5 w1 (w.heap.size) (.slice ha n hc) (.int .i64 l) (.int .i64 a) (.slice ra m rc) (.int .i64 lo)) := HC.out.grown hg hgc
  have HR1 : Hid (OwnR w1 base2 (.slice ra m rc) rs) := HR0.out.kept hg (row_sepT HR0.out HO0.out (by decide))
  have HO1 : Hid (Own w1 base (.slice ha n hc) (marks 1 n)) := ho1
  have HG1 : Hid (w.grownBy w1 (Value.slice ha n hc).ownBlock) := grown_trans (grown_of_below HB_W0.out _) hg
  have q1 := markReceiptS_c ra m rc (1 + n) base2 rs w1 (by omega) (by omega) HR1.out
  rw [show (((1 + n : Nat) : Int)) = (1 : Int) + (n : Int) by omega] at q1
  clear ho1 hg HC hgc
  obtain ⟨⟨c0, c1, c2, c3, c4⟩, cf⟩ := id (HC1.out)
  clear cf
  go_wp2_with fail
  refine q1.mono ?_
  clear q1 c0 c1 c2 c3 c4
  rintro e w2 ⟨rfl, ho2, hg⟩
  have HR2 : Hid (OwnR w2 base2 (.slice ra m rc) (marksR (1 + n) m)) := ho2
  have HO2 : Hid (Own w2 base (.slice ha n hc) (marks 1 n)) := HO1.out.kept hg (row_sepT HO1.out HR1.out (by decide))
  have HG2 : Hid (w1.grownBy w2 (Value.slice ra m rc).ownBlock) := hg
  clear ho2 hg
  go_wp2
  go_ret
  exact ⟨rfl, w1, HG1.out, HG2.out, HO2.out, HR2.out⟩

set_option maxHeartbeats 2000000 in
theorem heldTrip_c (ha ra : Option Addr) (n m hc rc : Nat) (l a lo : Int) (base base2 : Nat) (w : World) (hn : n ≤ 1000) (hm : m ≤ 1000) (ho : Own w base (.slice ha n hc) (marks 1 n)) (hr : OwnR w base2 (.slice ra m rc) (marksR (1 + n) m)) :
    Calls Try.prog 15 #[.agg #[.slice ha n hc, .int .i64 l, .int .i64 a, .slice ra m rc, .int .i64 lo], .int .i64 1] w fun e w' => e = .returned (.int .i64 ((1 + n + 4 * m : Nat) : Int)) ∧ Below w.heap.size w w' := by
  have hC := x5_new w (.slice ha n hc) (.int .i64 l) (.int .i64 a) (.slice ra m rc) (.int .i64 lo) 31 (w.heap.size) (by simp)
  have hB_W0 : Below w.heap.size w (w.alloc (.cells #[.slice ha n hc, .int .i64 l, .int .i64 a, .slice ra m rc, .int .i64 lo] 31)) := balloc w (.cells #[.slice ha n hc, .int .i64 l, .int .i64 a, .slice ra m rc, .int .i64 lo] 31)
  have hS_W0 : ((w.alloc (.cells #[.slice ha n hc, .int .i64 l, .int .i64 a, .slice ra m rc, .int .i64 lo] 31))).heap.size = w.heap.size + 1 := by simp
  obtain ⟨W0, hW0⟩ : ∃ V, (w.alloc (.cells #[.slice ha n hc, .int .i64 l, .int .i64 a, .slice ra m rc, .int .i64 lo] 31)) = V := ⟨_, rfl⟩
  rw [hW0] at hC hB_W0 hS_W0
  have HC : Hid (X5 W0 (w.heap.size) (.slice ha n hc) (.int .i64 l) (.int .i64 a) (.slice ra m rc) (.int .i64 lo)) := hC
  have HB_W0 : Hid (Below w.heap.size w W0) := hB_W0
  have HS_W0 : Hid (W0.heap.size = w.heap.size + 1) := hS_W0
  clear hB_W0 hS_W0 hC
  have q0 := heldIntS_c ha n hc 1 base W0 (by omega) (by omega) (by omega) (ho.later HB_W0.out)
  have q1 := heldReceiptS_c ra m rc (1 + n) base2 W0 (by omega) (by omega) (hr.later HB_W0.out)
  rw [show (((1 + n : Nat) : Int)) = (1 : Int) + (n : Int) by omega] at q1
  have e1 : ¬ (1 : Int) + (n : Int) < 0 := by omega
  have e2 : ¬ (((1 + n + 4 * m : Nat) : Int)) < 0 := by omega
  obtain ⟨z, hz⟩ : ∃ z : Int, (((1 + n + 4 * m : Nat) : Int)) = z := ⟨_, rfl⟩
  rw [hz] at q1 e2 ⊢
  have HQ1 : Hid (Calls Try.prog 30 #[.slice ra m rc, .int .i64 ((1 : Int) + (n : Int))] W0 fun e w' => e = .returned (.int .i64 z) ∧ Below W0.heap.size W0 w') := q1
  clear ho hr hz q1
  obtain ⟨⟨c0, c1, c2, c3, c4⟩, cf⟩ := id (HC.out)
  clear cf
  go_enter Try.func15, Try.ntmps15
  go_wp2_with fail
  clear hW0
  refine q0.mono ?_
  clear q0
  rintro e w' ⟨rfl, hw⟩
  subst w'
  go_wp2_with fail
  refine HQ1.out.mono ?_
  clear c0 c1 c2 c3 c4
  rintro e w2 ⟨rfl, hb⟩
  have HB2 : Hid (Below w.heap.size w w2) := HB_W0.out.trans (hb.mono HB_W0.out.size)
  clear hb
  go_wp2
  go_ret
  exact ⟨rfl, HB2.out⟩

end Go.Proofs.Ytdhnolafkgkliaa
