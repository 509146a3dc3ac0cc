/- What chapter 8 draws for FnPools; two mixes held against each other. -/
import Derived.Test.YtnppmgnfignbcaaMX8
import Derived.Test.YtnppmgnfignbcaaSM4
namespace Go.Proofs.Ytnppmgnfignbcaa
set_option linter.unusedVariables false
set_option maxRecDepth 1000000
set_option linter.unusedSimpArgs false
open Go.RowKit

/-- A mix that is drawn and good is one of the letters. -/
theorem MxD.drawn {z : MixV} (h : MxD z) (g : GoodV z) : Drawn z := by
  obtain ⟨y, hd, rfl | ⟨o, _, _, rfl⟩ | rfl⟩ := h
  · exact hd
  · exact ⟨g, hd.pool, hd.seen⟩
  · refine ⟨g, fun s hs => ?_, hd.seen⟩
    rcases List.mem_append.1 hs with h | h
    · exact hd.pool s h
    · rw [List.mem_singleton.1 h]; simp [lets]
/-- Its bounds. -/
theorem MxD.small {z : MixV} (h : MxD z) : z.pool.length ≤ 13 ∧ z.seen.length ≤ 100 ∧ (∀ s ∈ z.pool, s.size ≤ 24) ∧ (-1 ≤ z.old ∧ z.old ≤ 11) := by
  obtain ⟨y, hd, rfl | ⟨o, o1, o2, rfl⟩ | rfl⟩ := h
  · have := hd.good.old
    exact ⟨by have := hd.good.many; omega, hd.good.seens, hd.good.short, by omega, by omega⟩
  · exact ⟨by have h := hd.good.many; show y.pool.length ≤ 13; omega, hd.good.seens, hd.good.short, o1, o2⟩
  · have := hd.good.old
    refine ⟨by have h := hd.good.many; show (y.pool ++ [_]).length ≤ 13; rw [List.length_append]; simp; omega, hd.good.seens, fun s hs => ?_, by show -1 ≤ y.old; omega, by show y.old ≤ 11; omega⟩
    rcases List.mem_append.1 hs with h | h
    · exact hd.good.short s h
    · rw [List.mem_singleton.1 h]; decide

def MixE (w : World) (e : Ending) (w' : World) : Prop := ∃ z p k s d, e = .returned (.agg #[.slice p z.pool.length k, .int .i64 z.least, .int .i64 z.wait, .int .i64 z.old, .slice s z.seen.length d]) ∧ MxD z ∧ MixOwn w' w.heap.size p k s d z ∧ Below w.heap.size w w'

set_option maxHeartbeats 2000000 in
theorem drawGood_c (ao : Option Addr) (n c : Nat) (w : World) (hn : n ≤ 9223372036854775807) (h : CodeOk w w.heap.size ao n) :
    Calls Try.prog 87 #[.slice ao n c] w (MixE w) := by
  have bR := balloc w (.cells #[.slice none 0 0, .int .i64 0, .int .i64 0, .int .i64 0, .slice none 0 0] 41)
  have hR := c5_new w (.slice none 0 0) 0 0 0 (.slice none 0 0) 41 w.heap.size rfl
  have hz0 : (w.alloc (.cells #[.slice none 0 0, .int .i64 0, .int .i64 0, .int .i64 0, .slice none 0 0] 41)).heap.size = w.heap.size + 1 := by simp
  obtain ⟨W0, hW0⟩ : ∃ W0, w.alloc (.cells #[.slice none 0 0, .int .i64 0, .int .i64 0, .int .i64 0, .slice none 0 0] 41) = W0 := ⟨_, rfl⟩
  rw [hW0] at bR hR hz0
  have hcur := cur_new (c := c) 75 hn (h.later bR (show w.heap.size ≤ W0.heap.size by omega))
  have bC := balloc W0 (.cells #[.slice ao n c, .int .i64 0, .int .u64 0] 75)
  have hR1 := hR.later bC
  have hz1 : (W0.alloc (.cells #[.slice ao n c, .int .i64 0, .int .u64 0] 75)).heap.size = w.heap.size + 2 := by simp; omega
  obtain ⟨W1, hW1⟩ : ∃ W1, W0.alloc (.cells #[.slice ao n c, .int .i64 0, .int .u64 0] 75) = W1 := ⟨_, rfl⟩
  rw [hW1] at hcur bC hR1 hz1
  rw [hz0] at hcur
  have HB1 : Hid (Below w.heap.size w W1) := bR.trans (bC.mono bR.size)
  have HR1 : Hid (C5 W1 w.heap.size (.slice none 0 0) 0 0 0 (.slice none 0 0)) := hR1
  have HCU : Hid (Cur W1 (w.heap.size + 1) ao n c 0) := hcur
  have HZ1 : Hid (W1.heap.size = w.heap.size + 2) := hz1
  clear h bR hR bC hR1 hcur hz1
  go_enter Try.func87, Try.ntmps87
  go_wp2_with fail
  refine (mix_c (w.heap.size + 1) ao n c 0 W1 (by omega) HCU.out).mono ?_
  clear HCU hW0 hW1 hz0
  rintro e w2 ⟨z, p, k, s, d, he, hD, hM, _, hg⟩
  have hE := HR1.out.grown hg (by simp)
  obtain ⟨xs, za, zb, zt, ys⟩ := z
  obtain ⟨pn, hpn⟩ : ∃ pn, xs.length = pn := ⟨_, rfl⟩
  obtain ⟨sn, hsn⟩ : ∃ sn, ys.length = sn := ⟨_, rfl⟩
  have he' : e = .returned (.agg #[.slice p pn k, .int .i64 za, .int .i64 zb, .int .i64 zt, .slice s sn d]) := by rw [he, ← hpn, ← hsn]
  subst he'
  have HPN : Hid (xs.length = pn) := hpn
  have HSN : Hid (ys.length = sn) := hsn
  have HD : Hid (MxD ⟨xs, za, zb, zt, ys⟩) := hD
  have HM : Hid (MixOwn w2 (w.heap.size + 2) p k s d ⟨xs, za, zb, zt, ys⟩) := by show MixOwn _ _ _ _ _ _ _; rw [← HZ1.out]; exact hM
  have HB2 : Hid (Below w.heap.size w w2) := HB1.out.trans (hg.below HB1.out.size (by omega))
  obtain ⟨⟨e0, e1, e2, e3, e4⟩, ef⟩ := hE
  have ef0 := ef 0; have ef1 := ef 1; have ef2 := ef 2; have ef3 := ef 3; have ef4 := ef 4
  clear ef he hD hM hg hpn hsn HB1 HR1
  go_wp2
  refine bodyPost_ret (v := .agg #[.slice p pn k, .int .i64 za, .int .i64 zb, .int .i64 zt, .slice s sn d]) (by simp [results, Try.results87, go_sem, e0, e1, e2, e3, e4]; try rfl) rfl ?_
  have hg5 := put5_grown w2 w.heap.size (.slice p pn k) za zb zt (.slice s sn d)
  exact ⟨⟨xs, za, zb, zt, ys⟩, p, k, s, d, by show _ = Ending.returned (.agg #[.slice p xs.length k, .int .i64 za, .int .i64 zb, .int .i64 zt, .slice s ys.length d]); rw [HPN.out, HSN.out], HD.out, ⟨(HM.out.op.kept hg5 (sepS HM.out.op (by omega))).mono (by omega), (HM.out.os.kept hg5 (sep_own HM.out.os (by omega))).mono (by omega)⟩, HB2.out.trans (below_grown hg5 (Nat.le_refl _) HB2.out.size)⟩

set_option maxHeartbeats 2000000 in
theorem drawNew_c (ao : Option Addr) (n c : Nat) (w : World) (hn : n ≤ 9223372036854775807) (h : CodeOk w w.heap.size ao n) :
    Calls Try.prog 33 #[.slice ao n c] w fun e w' => ∃ x y : Int, e = .returned (.tuple #[.int .i64 x, .int .i64 y]) ∧ Below w.heap.size w w' := by
  have C0 : Hid (Cur (w.alloc (.cells #[.slice ao n c, .int .i64 0, .int .u64 0] 75)) w.heap.size ao n c 0) := cur_new _ hn h
  have B0 : Hid (Below w.heap.size w (w.alloc (.cells #[.slice ao n c, .int .i64 0, .int .u64 0] 75))) := balloc _ _
  clear h
  go_enter Try.func33, Try.ntmps33
  go_wp2_with fail
  refine (pick_c w.heap.size ao n c 0 15 _ (by omega) (by omega) C0.out).mono ?_
  rintro e w1 ⟨x, rfl, hx0, hx1, hc1, hg1⟩
  have C1 : Hid (Cur w1 w.heap.size ao n c 2) := hc1
  have B1 : Hid (Below w.heap.size w w1) := B0.out.trans (hg1.below (B0.out.size) (Nat.le_refl _))
  clear hc1 hg1 C0 B0
  go_wp2_with fail
  refine (pick_c w.heap.size ao n c 2 13 _ (by omega) (by omega) C1.out).mono ?_
  rintro e w2 ⟨y, rfl, hy0, hy1, hc1, hg1⟩
  have B2 : Hid (Below w.heap.size w w2) := B1.out.trans (hg1.below (B1.out.size) (Nat.le_refl _))
  clear hc1 hg1 C1 B1
  go_wp2
  refine bodyPost_ret (v := .tuple #[.int .i64 (x - 1), .int .i64 (y - 1)]) (by simp [results, Try.results33, go_sem]; try rfl) rfl ?_
  exact ⟨_, _, rfl, B2.out⟩

set_option maxHeartbeats 2000000 in
theorem drawTag_c (ao : Option Addr) (n c : Nat) (w : World) (hn : n ≤ 9223372036854775807) (h : CodeOk w w.heap.size ao n) :
    Calls Try.prog 36 #[.slice ao n c] w fun e w' => ∃ s : ByteArray, e = .returned (.string s) ∧ s.size ≤ 25 ∧ Below w.heap.size w w' := by
  have C0 : Hid (Cur (w.alloc (.cells #[.slice ao n c, .int .i64 0, .int .u64 0] 75)) w.heap.size ao n c 0) := cur_new _ hn h
  have B0 : Hid (Below w.heap.size w (w.alloc (.cells #[.slice ao n c, .int .i64 0, .int .u64 0] 75))) := balloc _ _
  clear h
  go_enter Try.func36, Try.ntmps36
  go_wp2_with fail
  refine (letter_c w.heap.size ao n c 0 _ (by omega) C0.out).mono ?_
  rintro e w1 ⟨s, rfl, hs, hc1, hg1⟩
  have HS : Hid (s.size ≤ 25) := hs.size
  have B1 : Hid (Below w.heap.size w w1) := B0.out.trans (hg1.below (B0.out.size) (Nat.le_refl _))
  clear hc1 hg1 C0 B0 hs
  go_wp2
  go_ret
  exact ⟨s, rfl, HS.out, B1.out⟩

end Go.Proofs.Ytnppmgnfignbcaa
