/- What chapter 8 draws for FnPools: a mix and a letter; two equal mixes held against each other. -/
import Derived.Test.YtnppmgnfignbcaaDY8
namespace Go.Proofs.Ytnppmgnfignbcaa
set_option linter.unusedVariables false
set_option maxRecDepth 1000000
set_option linter.unusedSimpArgs false
open Go.RowKit

set_option maxHeartbeats 2000000 in
theorem drawTick_c (ao : Option Addr) (n c : Nat) (w : World) (hn : n ≤ 9223372036854775807) (h : CodeOk w w.heap.size ao n) :
    Calls Try.prog 30 #[.slice ao n c] w (MixE w) := by
  have bR := balloc w (.cells #[.slice none 0 0, .int .i64 0, .int .i64 0, .int .i64 0, .slice none 0 0] 41)
  have hR := c5_new w (.slice none 0 0) 0 0 0 (.slice none 0 0) 41 w.heap.size rfl
  have hz0 : (w.alloc (.cells #[.slice none 0 0, .int .i64 0, .int .i64 0, .int .i64 0, .slice none 0 0] 41)).heap.size = w.heap.size + 1 := by simp
  obtain ⟨W0, hW0⟩ : ∃ W0, w.alloc (.cells #[.slice none 0 0, .int .i64 0, .int .i64 0, .int .i64 0, .slice none 0 0] 41) = W0 := ⟨_, rfl⟩
  rw [hW0] at bR hR hz0
  have HQ : Hid (CodeOk W0 W0.heap.size ao n) := h.later bR (show w.heap.size ≤ W0.heap.size by omega)
  have HB1 : Hid (Below w.heap.size w W0) := bR
  have HR1 : Hid (C5 W0 w.heap.size (.slice none 0 0) 0 0 0 (.slice none 0 0)) := hR
  have HZ1 : Hid (W0.heap.size = w.heap.size + 1) := hz0
  clear h bR hR hz0
  go_enter Try.func30, Try.ntmps30
  go_wp2_with fail
  refine (drawGood_c ao n c W0 hn HQ.out).mono ?_
  clear HQ hW0
  rintro e w2 ⟨z, p, k, s, d, he, hD, hM, hb2⟩
  have hE := HR1.out.later hb2
  obtain ⟨xs, za, zb, zt, ys⟩ := z
  obtain ⟨pn, hpn⟩ : ∃ pn, xs.length = pn := ⟨_, rfl⟩
  obtain ⟨sn, hsn⟩ : ∃ sn, ys.length = sn := ⟨_, rfl⟩
  have he' : e = .returned (.agg #[.slice p pn k, .int .i64 za, .int .i64 zb, .int .i64 zt, .slice s sn d]) := by rw [he, ← hpn, ← hsn]
  subst he'
  have HPN : Hid (xs.length = pn) := hpn
  have HSN : Hid (ys.length = sn) := hsn
  have HD : Hid (MxD ⟨xs, za, zb, zt, ys⟩) := hD
  have HM : Hid (MixOwn w2 (w.heap.size + 1) p k s d ⟨xs, za, zb, zt, ys⟩) := by show MixOwn _ _ _ _ _ _ _; rw [← HZ1.out]; exact hM
  have HB2 : Hid (Below w.heap.size w w2) := HB1.out.trans (hb2.mono HB1.out.size)
  obtain ⟨⟨e0, e1, e2, e3, e4⟩, ef⟩ := hE
  have ef0 := ef 0; have ef1 := ef 1; have ef2 := ef 2; have ef3 := ef 3; have ef4 := ef 4
  clear ef he hD hM hb2 hpn hsn HB1 HR1
  go_wp2
  refine bodyPost_ret (v := .agg #[.slice p pn k, .int .i64 za, .int .i64 zb, .int .i64 zt, .slice s sn d]) (by simp [results, Try.results30, go_sem, e0, e1, e2, e3, e4]; try rfl) rfl ?_
  have hg5 := put5_grown w2 w.heap.size (.slice p pn k) za zb zt (.slice s sn d)
  exact ⟨⟨xs, za, zb, zt, ys⟩, p, k, s, d, by show _ = Ending.returned (.agg #[.slice p xs.length k, .int .i64 za, .int .i64 zb, .int .i64 zt, .slice s ys.length d]); rw [HPN.out, HSN.out], HD.out, ⟨(HM.out.op.kept hg5 (sepS HM.out.op (by omega))).mono (by omega), (HM.out.os.kept hg5 (sep_own HM.out.os (by omega))).mono (by omega)⟩, HB2.out.trans (below_grown hg5 (Nat.le_refl _) HB2.out.size)⟩

def MixT (w : World) (e : Ending) (w' : World) : Prop := ∃ z p k s d, ∃ t : ByteArray, e = .returned (.tuple #[.agg #[.slice p z.pool.length k, .int .i64 z.least, .int .i64 z.wait, .int .i64 z.old, .slice s z.seen.length d], .string t]) ∧ MxD z ∧ IsLet t ∧ MixOwn w' w.heap.size p k s d z ∧ Below w.heap.size w w'

set_option maxHeartbeats 2000000 in
theorem drawPut_c (ao : Option Addr) (n c : Nat) (w : World) (hn : n ≤ 9223372036854775807) (h : CodeOk w w.heap.size ao n) :
    Calls Try.prog 24 #[.slice ao n c] w (MixT w) := by
  have bR := balloc w (.cells #[.slice none 0 0, .int .i64 0, .int .i64 0, .int .i64 0, .slice none 0 0] 41)
  have hR := c5_new w (.slice none 0 0) 0 0 0 (.slice none 0 0) 41 w.heap.size rfl
  have hz0 : (w.alloc (.cells #[.slice none 0 0, .int .i64 0, .int .i64 0, .int .i64 0, .slice none 0 0] 41)).heap.size = w.heap.size + 1 := by simp
  obtain ⟨W0, hW0⟩ : ∃ W0, w.alloc (.cells #[.slice none 0 0, .int .i64 0, .int .i64 0, .int .i64 0, .slice none 0 0] 41) = W0 := ⟨_, rfl⟩
  rw [hW0] at bR hR hz0
  have hcur := cur_new (c := c) 75 hn (h.later bR (show w.heap.size ≤ W0.heap.size by omega))
  have bC := balloc W0 (.cells #[.slice ao n c, .int .i64 0, .int .u64 0] 75)
  have hR1 := hR.later bC
  have hz1 : (W0.alloc (.cells #[.slice ao n c, .int .i64 0, .int .u64 0] 75)).heap.size = w.heap.size + 2 := by simp; omega
  obtain ⟨W1, hW1⟩ : ∃ W1, W0.alloc (.cells #[.slice ao n c, .int .i64 0, .int .u64 0] 75) = W1 := ⟨_, rfl⟩
  rw [hW1] at hcur bC hR1 hz1
  rw [hz0] at hcur
  have HB1 : Hid (Below w.heap.size w W1) := bR.trans (bC.mono bR.size)
  have HR1 : Hid (C5 W1 w.heap.size (.slice none 0 0) 0 0 0 (.slice none 0 0)) := hR1
  have HCU : Hid (Cur W1 (w.heap.size + 1) ao n c 0) := hcur
  have HZ1 : Hid (W1.heap.size = w.heap.size + 2) := hz1
  clear h bR hR bC hR1 hcur hz1
  go_enter Try.func24, Try.ntmps24
  go_wp2_with fail
  refine (mix_c (w.heap.size + 1) ao n c 0 W1 (by omega) HCU.out).mono ?_
  clear HCU hW0 hW1 hz0
  rintro e w2 ⟨z, p, k, s, d, he, hD, hM, hc2, hg⟩
  obtain ⟨xs, za, zb, zt, ys⟩ := z
  obtain ⟨pn, hpn⟩ : ∃ pn, xs.length = pn := ⟨_, rfl⟩
  obtain ⟨sn, hsn⟩ : ∃ sn, ys.length = sn := ⟨_, rfl⟩
  have he' : e = .returned (.agg #[.slice p pn k, .int .i64 za, .int .i64 zb, .int .i64 zt, .slice s sn d]) := by rw [he, ← hpn, ← hsn]
  subst he'
  have HPN : Hid (xs.length = pn) := hpn
  have HSN : Hid (ys.length = sn) := hsn
  have HD : Hid (MxD ⟨xs, za, zb, zt, ys⟩) := hD
  have HM : Hid (MixOwn w2 (w.heap.size + 2) p k s d ⟨xs, za, zb, zt, ys⟩) := by show MixOwn _ _ _ _ _ _ _; rw [← HZ1.out]; exact hM
  have HB2 : Hid (Below w.heap.size w w2) := HB1.out.trans (hg.below HB1.out.size (by omega))
  have HR2 : Hid (C5 w2 w.heap.size (.slice none 0 0) 0 0 0 (.slice none 0 0)) := HR1.out.grown hg (by simp)
  have HC2 : Hid (Cur w2 (w.heap.size + 1) ao n c 1000) := hc2
  clear he hD hM hg hpn hsn HB1 HR1 hc2
  go_wp2_with fail
  refine (letter_c (w.heap.size + 1) ao n c 1000 w2 (by omega) HC2.out).mono ?_
  clear HC2
  rintro e w3 ⟨t, rfl, ht, _, hg3⟩
  have HT : Hid (IsLet t) := ht
  have hE := HR2.out.grown hg3 (by simp)
  have HM3 : Hid (MixOwn w3 (w.heap.size + 2) p k s d ⟨xs, za, zb, zt, ys⟩) := ⟨HM.out.op.kept hg3 (sepS HM.out.op (by omega)), HM.out.os.kept hg3 (sep_own HM.out.os (by omega))⟩
  have HB3 : Hid (Below w.heap.size w w3) := HB2.out.trans (hg3.below HB2.out.size (by omega))
  obtain ⟨⟨e0, e1, e2, e3, e4⟩, ef⟩ := hE
  have ef0 := ef 0; have ef1 := ef 1; have ef2 := ef 2; have ef3 := ef 3; have ef4 := ef 4
  clear ef ht hg3 HM HB2 HR2
  go_wp2
  refine bodyPost_ret (v := .tuple #[.agg #[.slice p pn k, .int .i64 za, .int .i64 zb, .int .i64 zt, .slice s sn d], .string t]) (by simp [results, Try.results24, go_sem, e0, e1, e2, e3, e4]; try rfl) rfl ?_
  have hg5 := put5_grown w3 w.heap.size (.slice p pn k) za zb zt (.slice s sn d)
  exact ⟨⟨xs, za, zb, zt, ys⟩, p, k, s, d, t, by show _ = Ending.returned (.tuple #[.agg #[.slice p xs.length k, .int .i64 za, .int .i64 zb, .int .i64 zt, .slice s ys.length d], .string t]); rw [HPN.out, HSN.out], HD.out, HT.out, ⟨(HM3.out.op.kept hg5 (sepS HM3.out.op (by omega))).mono (by omega), (HM3.out.os.kept hg5 (sep_own HM3.out.os (by omega))).mono (by omega)⟩, HB3.out.trans (below_grown hg5 (Nat.le_refl _) HB3.out.size)⟩

set_option maxHeartbeats 2000000 in
theorem sameMix_c (p s p' s' : Option Addr) (n k m d k' d' : Nat) (a b t : Int) (xs : List ByteArray) (ys : List Int) (w : World) (hx : xs.length = n) (hy : ys.length = m) (hn : n ≤ 1000) (hm : m ≤ 1000) (hr : RdS w p xs) (hs : Rd w s ys) (hr' : RdS w p' xs) (hs' : Rd w s' ys) :
    Calls Try.prog 27 #[.agg #[.slice p n k, .int .i64 a, .int .i64 b, .int .i64 t, .slice s m d], .agg #[.slice p' n k', .int .i64 a, .int .i64 b, .int .i64 t, .slice s' m d']] w fun e w' => e = .returned (.bool true) ∧ Below w.heap.size w w' := by
  have h1 := c5_new w (.slice p n k) a b t (.slice s m d) 41 w.heap.size rfl
  have b1 := balloc w (.cells #[.slice p n k, .int .i64 a, .int .i64 b, .int .i64 t, .slice s m d] 41)
  obtain ⟨W0, hW0⟩ : ∃ W0, w.alloc (.cells #[.slice p n k, .int .i64 a, .int .i64 b, .int .i64 t, .slice s m d] 41) = W0 := ⟨_, rfl⟩
  rw [hW0] at h1 b1
  have h2 := c5_new W0 (.slice p' n k') a b t (.slice s' m d') 41 W0.heap.size rfl
  have b2 := balloc W0 (.cells #[.slice p' n k', .int .i64 a, .int .i64 b, .int .i64 t, .slice s' m d'] 41)
  obtain ⟨W1, hW1⟩ : ∃ W1, W0.alloc (.cells #[.slice p' n k', .int .i64 a, .int .i64 b, .int .i64 t, .slice s' m d'] 41) = W1 := ⟨_, rfl⟩
  rw [hW1] at h2 b2
  have hb : Below w.heap.size w W1 := b1.trans (b2.mono b1.size)
  have HB : Hid (Below w.heap.size w W1) := hb
  have q1 := sameTexts_c p p' n n k k' xs xs W1 hx hx (by omega) (by omega) (hr.later hb) (hr'.later hb)
  rw [decide_eq_true rfl] at q1
  have HQ2 : Hid (∀ wx, Below w.heap.size w wx → Calls Try.prog 76 #[.slice s m d, .slice s' m d'] wx fun e w' => e = .returned (.bool true) ∧ Below wx.heap.size wx w') := fun wx h => by
    have q := sameInts_c s s' m m d d' ys ys wx hy hy (by omega) (by omega) (hs.later h) (hs'.later h)
    rw [decide_eq_true rfl] at q; exact q
  have HC1 : Hid (C5 W1 w.heap.size (.slice p n k) a b t (.slice s m d)) := h1.later b2
  have HC2 : Hid (C5 W1 W0.heap.size (.slice p' n k') a b t (.slice s' m d')) := h2
  have ha : (a == a) = true := by simp
  have hbb : (b == b) = true := by simp
  have ht : (t == t) = true := by simp
  obtain ⟨⟨c0, c1, c2, c3, c4⟩, _⟩ := HC1.out
  obtain ⟨⟨d0, d1, d2, d3, d4⟩, _⟩ := HC2.out
  clear h1 b1 h2 b2 hb hr hs hr' hs' hx hy
  go_enter Try.func27, Try.ntmps27
  go_wp2_with fail
  refine q1.mono ?_
  clear q1 c0 c1 c2 c3 c4 d0 d1 d2 d3 d4 hW1 hW0
  rintro e w2 ⟨rfl, hb2⟩
  have HB2 : Hid (Below w.heap.size w w2) := HB.out.trans (hb2.mono HB.out.size)
  obtain ⟨⟨c0, c1, c2, c3, c4⟩, _⟩ := HC1.out.later hb2
  obtain ⟨⟨d0, d1, d2, d3, d4⟩, _⟩ := HC2.out.later hb2
  clear hb2 HB
  go_wp2_with fail
  refine (HQ2.out _ HB2.out).mono ?_
  clear HQ2 c0 c1 c2 c3 c4 d0 d1 d2 d3 d4
  rintro e w3 ⟨rfl, hb3⟩
  have HB3 : Hid (Below w.heap.size w w3) := HB2.out.trans (hb3.mono HB2.out.size)
  clear hb3 HB2
  go_wp2
  go_ret
  exact ⟨rfl, HB3.out⟩

end Go.Proofs.Ytnppmgnfignbcaa
