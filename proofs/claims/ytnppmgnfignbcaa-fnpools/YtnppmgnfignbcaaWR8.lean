/- Chapter 8, the program: a round of texts put into a mix. -/
import Derived.Test.YtnppmgnfignbcaaV8E
import Derived.Test.YtnppmgnfignbcaaSS8
namespace Go.Proofs.Ytnppmgnfignbcaa
set_option linter.unusedVariables false
set_option maxRecDepth 1000000
set_option linter.unusedSimpArgs false
open Go.RowKit

/-- A mix's value that reads as z. -/
structure MixRd (w : World) (p : Option Addr) (c : Nat) (s : Option Addr) (d : Nat) (z : MixV) : Prop where
  rp : RdS w p z.pool
  rs : Rd w s z.seen
  np : p = none → z.pool.length = 0 ∧ c = 0
  ns : s = none → z.seen.length = 0 ∧ d = 0
theorem MixRd.later {w w' : World} {p s : Option Addr} {c d : Nat} {z : MixV} (h : MixRd w p c s d z) (hb : Below w.heap.size w w') : MixRd w' p c s d z := ⟨h.rp.later hb, h.rs.later hb, h.np, h.ns⟩
theorem MixRd.of {w : World} {b : Nat} {p s : Option Addr} {c d : Nat} {z : MixV} (h1 : OwnS w b (.slice p z.pool.length c) z.pool) (h2 : Own w b (.slice s z.seen.length d) z.seen) : MixRd w p c s d z := ⟨h1.rd'.2, h2.rd'.2, h1.nil, h2.nil⟩

theorem RdS.grown {w w' : World} {p : Option Addr} {xs : List ByteArray} {g : Nat} (h : RdS w p xs) (hg : w.grownBy w' (some g)) (ho : ∀ a, p = some a → xs = [] ∨ a.block ≠ g) : RdS w' p xs := by
  rcases h with h | ⟨b, off, rfl, hc⟩
  · exact Or.inl h
  · rcases ho _ rfl with h0 | h0
    · exact Or.inl h0
    · exact Or.inr ⟨b, off, rfl, fun j hj => hg.cell (hc j hj) (fun e => h0 (Option.some.inj e))⟩
theorem Rd.grown {w w' : World} {p : Option Addr} {xs : List Int} {g : Nat} (h : Rd w p xs) (hg : w.grownBy w' (some g)) (ho : ∀ a, p = some a → xs = [] ∨ a.block ≠ g) : Rd w' p xs := by
  rcases h with h | ⟨b, off, rfl, hc⟩
  · exact Or.inl h
  · rcases ho _ rfl with h0 | h0
    · exact Or.inl h0
    · exact Or.inr ⟨b, off, rfl, fun j hj => hg.cell (hc j hj) (fun e => h0 (Option.some.inj e))⟩
/-- A mix's lists lie outside the blocks from lo up to hi. -/
def OffM (lo hi : Nat) (p s : Option Addr) (z : MixV) : Prop := (∀ a, p = some a → z.pool = [] ∨ a.block < lo ∨ hi ≤ a.block) ∧ (∀ a, s = some a → z.seen = [] ∨ a.block < lo ∨ hi ≤ a.block)
theorem MixRd.grown {w w' : World} {p s : Option Addr} {c d g lo hi : Nat} {z : MixV} (h : MixRd w p c s d z) (ho : OffM lo hi p s z) (hg : w.grownBy w' (some g)) (h1 : lo ≤ g) (h2 : g < hi) : MixRd w' p c s d z :=
  ⟨h.rp.grown hg (fun a e => by rcases ho.1 a e with h0 | h0 | h0; exact Or.inl h0; exact Or.inr (by omega); exact Or.inr (by omega)), h.rs.grown hg (fun a e => by rcases ho.2 a e with h0 | h0 | h0; exact Or.inl h0; exact Or.inr (by omega); exact Or.inr (by omega)), h.np, h.ns⟩
theorem offM_old {w : World} {p s : Option Addr} {c d hi : Nat} {z : MixV} (h : MixRd w p c s d z) : OffM w.heap.size hi p s z := by
  refine ⟨fun a e => ?_, fun a e => ?_⟩
  · rcases h.rp with h0 | ⟨b, o, h1, hc⟩
    · exact Or.inl h0
    · by_cases e0 : z.pool = []
      · exact Or.inl e0
      · rw [h1] at e; cases e
        exact Or.inr (Or.inl (World.block_lt_of_cell? w _ (hc 0 (List.length_pos_iff.2 e0))))
  · rcases h.rs with h0 | ⟨b, o, h1, hc⟩
    · exact Or.inl h0
    · by_cases e0 : z.seen = []
      · exact Or.inl e0
      · rw [h1] at e; cases e
        exact Or.inr (Or.inl (World.block_lt_of_cell? w _ (hc 0 (List.length_pos_iff.2 e0))))
theorem offM_new {w : World} {lo hi b : Nat} {p s : Option Addr} {c d : Nat} {z : MixV} (h1 : OwnS w b (.slice p z.pool.length c) z.pool) (h2 : Own w b (.slice s z.seen.length d) z.seen) (hb : hi ≤ b) : OffM lo hi p s z := by
  refine ⟨fun a e => ?_, fun a e => ?_⟩
  · subst e; exact Or.inr (Or.inr (Nat.le_trans hb (own_block_geS h1 _ rfl)))
  · subst e; exact Or.inr (Or.inr (Nat.le_trans hb (own_block_ge h2 _ rfl)))

theorem putI_step {z : MixV} (g : GoodV z) {s : ByteArray} (hs : s.size ≤ 24) : ((putI z s).2.1 = 0 ∧ (putI z s).1 = (putM z s).1) ∨ ((putI z s).2.1 ≠ 0 ∧ (putM z s).1 = z) := by
  unfold putI
  rw [if_pos (by simpa [shortB] using hs), if_pos ((goodB_iff z).2 g)]
  by_cases h1 : tagN s ∈ z.seen
  · rw [if_pos h1]
    exact Or.inr ⟨by simp, by unfold putM; rw [if_pos h1]⟩
  · rw [if_neg h1]
    by_cases h2 : z.pool.length = 12 ∨ z.seen.length = 100
    · rw [if_pos h2]
      exact Or.inr ⟨by simp, by unfold putM; rw [if_neg h1, if_pos h2]⟩
    · rw [if_neg h2]
      exact Or.inl ⟨rfl, rfl⟩
theorem putsM_take {z : MixV} {l : List ByteArray} {k : Nat} (h : k < l.length) : putsM z (l.take (k + 1)) = (putM (putsM z (l.take k)) (l.getD k ByteArray.empty)).1 := by
  unfold putsM
  rw [take_snoc ByteArray.empty h, List.foldl_append]; rfl

set_option maxHeartbeats 4000000 in
theorem withRound_c (p0 s0 ro : Option Addr) (n c m d rn rc : Nat) (z0 : MixV) (l : List ByteArray) (w : World) (hpl : z0.pool.length = n) (hsl : z0.seen.length = m) (hg : GoodV z0) (hm : MixRd w p0 c s0 d z0) (hrn : l.length = rn) (hrb : rn ≤ 12) (hr : RdS w ro l) (hl : ∀ s ∈ l, s.size ≤ 24) :
    Calls Try.prog 57 #[.agg #[.slice p0 n c, .int .i64 z0.least, .int .i64 z0.wait, .int .i64 z0.old, .slice s0 m d], .slice ro rn rc] w fun e w' => ∃ p c' s d', e = .returned (.agg #[.slice p (putsM z0 l).pool.length c', .int .i64 (putsM z0 l).least, .int .i64 (putsM z0 l).wait, .int .i64 (putsM z0 l).old, .slice s (putsM z0 l).seen.length d']) ∧ MixRd w' p c' s d' (putsM z0 l) ∧ Below w.heap.size w w' := by
  obtain ⟨W0, hW0, hC0, hD0, hB0, hS0⟩ := two_boxes w (.slice p0 n c) z0.least z0.wait z0.old (.slice s0 m d) 41
  have HI0 : Hid (∃ p c' s d', C5 W0 w.heap.size (.slice p (putsM z0 (l.take 0)).pool.length c') (putsM z0 (l.take 0)).least (putsM z0 (l.take 0)).wait (putsM z0 (l.take 0)).old (.slice s (putsM z0 (l.take 0)).seen.length d') ∧ MixRd W0 p c' s d' (putsM z0 (l.take 0)) ∧ OffM w.heap.size (w.heap.size + 2) p s (putsM z0 (l.take 0))) := ⟨p0, c, s0, d, by show C5 W0 w.heap.size (.slice p0 z0.pool.length c) _ _ _ (.slice s0 z0.seen.length d); rw [hpl, hsl]; exact hC0, hm.later hB0, offM_old hm⟩
  have HD0 : Hid (C5 W0 (w.heap.size + 1) (.slice none 0 0) 0 0 0 (.slice none 0 0)) := hD0
  have HB0 : Hid (Below w.heap.size w W0 ∧ w.heap.size + 2 ≤ W0.heap.size) := ⟨hB0, by omega⟩
  have HR : Hid (RdS w ro l) := hr
  have HL : Hid (∀ s ∈ l, s.size ≤ 24) := hl
  have HRN : Hid (l.length = rn) := hrn
  have HG : Hid (GoodV z0) := hg
  clear hC0 hD0 hB0 hS0 hr hl hrn hg hm hpl hsl
  go_enter Try.func57, Try.ntmps57
  go_wp2
  go_loopw [12] (fun iv wr => ∃ k : Nat, k ≤ rn ∧ iv = .int .i64 k ∧ Hid (∃ p c' s d', C5 wr w.heap.size (.slice p (putsM z0 (l.take k)).pool.length c') (putsM z0 (l.take k)).least (putsM z0 (l.take k)).wait (putsM z0 (l.take k)).old (.slice s (putsM z0 (l.take k)).seen.length d') ∧ MixRd wr p c' s d' (putsM z0 (l.take k)) ∧ OffM w.heap.size (w.heap.size + 2) p s (putsM z0 (l.take k))) ∧ Hid (C5 wr (w.heap.size + 1) (.slice none 0 0) 0 0 0 (.slice none 0 0)) ∧ Hid (Below w.heap.size w wr ∧ w.heap.size + 2 ≤ wr.heap.size)) (fun iv _ => rn - (intOf iv).toNat)
  case atStart => exact ⟨0, Nat.zero_le _, rfl, HI0, HD0, HB0⟩
  case round =>
    clear HI0 HD0 HB0 hW0
    obtain ⟨k, hk, rfl, HI, HD, HB⟩ := hrel
    obtain ⟨p, c', s, d', hC, hM, hOff⟩ := HI.out
    have hGk : GoodV (putsM z0 (l.take k)) := good_puts _ HG.out (fun s hs => HL.out s (List.mem_of_mem_take hs))
    by_cases hlt : k < rn
    · have hkl : k < l.length := by rw [HRN.out]; exact hlt
      obtain ⟨b, o, rfl, g1⟩ := (HR.out.later HB.out.1).get hkl
      have h24 := HL.out _ (mem_getD ByteArray.empty hkl)
      have hnx := putsM_take (z := z0) hkl
      have k0 : (0 : Int) ≤ (k : Int) := by omega
      have k1 : (k : Int) < (rn : Int) := by omega
      generalize l.getD k ByteArray.empty = t at g1 h24 hnx
      have hst := putI_step hGk h24
      have hsh : ∀ s ∈ (putsM z0 (l.take k)).pool, s.size ≤ 9223372036854775807 := fun s hs => by have := hGk.short s hs; omega
      have hml := hGk.many
      have hsl := hGk.seens
      obtain ⟨Z, hZ⟩ : ∃ Z, putsM z0 (l.take k) = Z := ⟨_, rfl⟩
      rw [hZ] at hC hM hnx hst hsh hml hsl hOff
      have HOF : Hid (OffM w.heap.size (w.heap.size + 2) p s Z) := hOff
      clear hOff
      obtain ⟨xs, za, zb, zt, ys⟩ := Z
      obtain ⟨pn, hpn⟩ : ∃ pn, xs.length = pn := ⟨_, rfl⟩
      obtain ⟨sn, hsn⟩ : ∃ sn, ys.length = sn := ⟨_, rfl⟩
      have q1 := implPut_c p s pn c' sn d' za zb zt t xs ys wr hpn hsn (by have : xs.length ≤ 12 := hml; omega) (by have : ys.length ≤ 100 := hsl; omega) hM.rp hM.rs hsh (by omega) (by rw [← hsn]; exact hM.ns)
      have hC' : C5 wr w.heap.size (.slice p pn c') za zb zt (.slice s sn d') := by rw [← hpn, ← hsn]; exact hC
      have HC : Hid (C5 wr w.heap.size (.slice p pn c') za zb zt (.slice s sn d')) := hC'
      have HM : Hid (MixRd wr p c' s d' ⟨xs, za, zb, zt, ys⟩) := hM
      obtain ⟨⟨y, code, fb⟩, hP⟩ : ∃ Y, putI ⟨xs, za, zb, zt, ys⟩ t = Y := ⟨_, rfl⟩
      rw [hP] at q1 hst
      have HPN : Hid (xs.length = pn) := hpn
      have HSN : Hid (ys.length = sn) := hsn
      have HNX : Hid (putsM z0 (l.take (k + 1)) = (putM ⟨xs, za, zb, zt, ys⟩ t).1) := hnx
      have HST : Hid ((code = 0 ∧ y = (putM ⟨xs, za, zb, zt, ys⟩ t).1) ∨ (code ≠ 0 ∧ (putM ⟨xs, za, zb, zt, ys⟩ t).1 = ⟨xs, za, zb, zt, ys⟩)) := hst
      obtain ⟨⟨c0, c1, c2, c3, c4⟩, f⟩ := hC'
      clear f hC hM hGk hZ hpn hsn hnx hst hsh hml hsl hP hkl h24 HI
      go_wp2_with fail
      refine q1.mono ?_
      clear q1 c0 c1 c2 c3 c4
      rintro e w1 ⟨v, rfl, ⟨yp, yc, ys', yd, hv, ho1, hp1⟩, hb1⟩
      obtain ⟨yx, ya, yb, yt, yy⟩ := y
      have hv' : v = .agg #[.slice yp yx.length yc, .int .i64 ya, .int .i64 yb, .int .i64 yt, .slice ys' yy.length yd] := hv
      subst hv'
      obtain ⟨yn, hyn⟩ : ∃ yn, yx.length = yn := ⟨_, rfl⟩
      obtain ⟨ym, hym⟩ : ∃ ym, yy.length = ym := ⟨_, rfl⟩
      have HYN : Hid (yx.length = yn) := hyn
      have HYM : Hid (yy.length = ym) := hym
      have hMy : MixRd w1 yp yc ys' yd ⟨yx, ya, yb, yt, yy⟩ := MixRd.of ho1 hp1
      have HOY : Hid (OffM w.heap.size (w.heap.size + 2) yp ys' ⟨yx, ya, yb, yt, yy⟩) := offM_new (z := ⟨yx, ya, yb, yt, yy⟩) ho1 hp1 HB.out.2
      have bV := balloc w1 (.cells #[.slice yp yx.length yc, .int .i64 ya, .int .i64 yb, .int .i64 yt, .slice ys' yy.length yd] 41)
      have hN := c5_new w1 (.slice yp yx.length yc) ya yb yt (.slice ys' yy.length yd) 41 w1.heap.size rfl
      have hC1 := (HC.out.later hb1).later bV
      have hD1 := (HD.out.later hb1).later bV
      have hM1 := (HM.out.later hb1).later bV
      have hMy1 := hMy.later bV
      have hB1 : Below w.heap.size w w1 := HB.out.1.trans (hb1.mono HB.out.1.size)
      have hB2 := hB1.alloc hB1.size (.cells #[.slice yp yx.length yc, .int .i64 ya, .int .i64 yb, .int .i64 yt, .slice ys' yy.length yd] 41)
      have hz1 : w.heap.size + 2 ≤ w1.heap.size := Nat.le_trans HB.out.2 hb1.size
      have hz2 : (w1.alloc (.cells #[.slice yp yx.length yc, .int .i64 ya, .int .i64 yb, .int .i64 yt, .slice ys' yy.length yd] 41)).heap.size = w1.heap.size + 1 := by simp
      rw [hyn, hym] at bV hN hC1 hD1 hM1 hMy1 hB2 hz2
      obtain ⟨V, hV⟩ : ∃ V, w1.alloc (.cells #[.slice yp yn yc, .int .i64 ya, .int .i64 yb, .int .i64 yt, .slice ys' ym yd] 41) = V := ⟨_, rfl⟩
      rw [hV] at hN hC1 hD1 hM1 hMy1 hB2 hz2
      rw [hyn, hym]
      have HD1 : Hid (C5 V (w.heap.size + 1) (.slice none 0 0) 0 0 0 (.slice none 0 0)) := hD1
      have HB2 : Hid (Below w.heap.size w V ∧ w.heap.size + 2 ≤ V.heap.size) := ⟨hB2, by omega⟩
      have HC1 : Hid (C5 V w.heap.size (.slice p pn c') za zb zt (.slice s sn d')) := hC1
      have HM1 : Hid (MixRd V p c' s d' ⟨xs, za, zb, zt, ys⟩) := hM1
      have HMy : Hid (MixRd V yp yc ys' yd ⟨yx, ya, yb, yt, yy⟩) := hMy1
      obtain ⟨⟨c0, c1, c2, c3, c4⟩, f⟩ := hC1
      have f0 := f 0; have f1 := f 1; have f2 := f 2; have f3 := f 3; have f4 := f 4
      obtain ⟨⟨n0, n1, n2, n3, n4⟩, nf⟩ := hN
      clear f nf bV hD1 hM1 hMy1 hB1 hB2 hz1 hz2 ho1 hp1 hb1 hMy HC HM HD HB hyn hym hv
      rcases HST.out with ⟨h0, h1⟩ | ⟨h0, h1⟩
      · subst h0
        have HI2 : Hid (∃ p c' s d', C5 (put5 V w.heap.size (.slice yp yn yc) ya yb yt (.slice ys' ym yd)) w.heap.size (.slice p (putsM z0 (l.take (k + 1))).pool.length c') (putsM z0 (l.take (k + 1))).least (putsM z0 (l.take (k + 1))).wait (putsM z0 (l.take (k + 1))).old (.slice s (putsM z0 (l.take (k + 1))).seen.length d') ∧ MixRd (put5 V w.heap.size (.slice yp yn yc) ya yb yt (.slice ys' ym yd)) p c' s d' (putsM z0 (l.take (k + 1))) ∧ OffM w.heap.size (w.heap.size + 2) p s (putsM z0 (l.take (k + 1)))) := by
          show ∃ p c' s d', _
          rw [HNX.out, ← h1]
          refine ⟨yp, yc, ys', yd, ?_, HMy.out.grown HOY.out (put5_grown V w.heap.size (.slice yp yn yc) ya yb yt (.slice ys' ym yd)) (Nat.le_refl _) (by omega), HOY.out⟩
          show C5 _ _ (.slice yp yx.length yc) ya yb yt (.slice ys' yy.length yd)
          rw [HYN.out, HYM.out]; exact HC1.out.put _ _ _ _ _
        have HD2 : Hid (C5 (put5 V w.heap.size (.slice yp yn yc) ya yb yt (.slice ys' ym yd)) (w.heap.size + 1) (.slice none 0 0) 0 0 0 (.slice none 0 0)) := HD1.out.grown (put5_grown _ _ _ _ _ _ _) (by simp)
        have HB3 : Hid (Below w.heap.size w (put5 V w.heap.size (.slice yp yn yc) ya yb yt (.slice ys' ym yd)) ∧ w.heap.size + 2 ≤ (put5 V w.heap.size (.slice yp yn yc) ya yb yt (.slice ys' ym yd)).heap.size) := ⟨HB2.out.1.trans (below_grown (put5_grown _ _ _ _ _ _ _) (Nat.le_refl _) HB2.out.1.size), Nat.le_trans HB2.out.2 (put5_grown V w.heap.size (.slice yp yn yc) ya yb yt (.slice ys' ym yd)).size⟩
        clear h1
        go_wp2
        go_roundw
        case rel => exact ⟨k + 1, by omega, by go_num, HI2, HD2, HB3⟩
        case measure => simp [intOf]; omega
      · have hc0 : (code == 0) = false := by rw [beq_eq_false_iff_ne]; exact h0
        have HI2 : Hid (∃ p c' s d', C5 V w.heap.size (.slice p (putsM z0 (l.take (k + 1))).pool.length c') (putsM z0 (l.take (k + 1))).least (putsM z0 (l.take (k + 1))).wait (putsM z0 (l.take (k + 1))).old (.slice s (putsM z0 (l.take (k + 1))).seen.length d') ∧ MixRd V p c' s d' (putsM z0 (l.take (k + 1))) ∧ OffM w.heap.size (w.heap.size + 2) p s (putsM z0 (l.take (k + 1)))) := by
          show ∃ p c' s d', _
          rw [HNX.out, h1]
          refine ⟨p, c', s, d', ?_, HM1.out, HOF.out⟩
          show C5 _ _ (.slice p xs.length c') za zb zt (.slice s ys.length d')
          rw [HPN.out, HSN.out]; exact HC1.out
        clear h1 h0
        go_wp2
        go_roundw
        case rel => exact ⟨k + 1, by omega, by go_num, HI2, HD1, HB2⟩
        case measure => simp [intOf]; omega
    · obtain rfl : k = rn := by omega
      rw [List.take_of_length_le (by rw [HRN.out]; exact Nat.le_refl _)] at hC hM hOff
      obtain ⟨Z, hZ⟩ : ∃ Z, putsM z0 l = Z := ⟨_, rfl⟩
      rw [hZ] at hC hM hOff
      have HOF : Hid (OffM w.heap.size (w.heap.size + 2) p s Z) := hOff
      clear hOff
      have HZ : Hid (putsM z0 l = Z) := hZ
      obtain ⟨xs, za, zb, zt, ys⟩ := Z
      obtain ⟨pn, hpn⟩ : ∃ pn, xs.length = pn := ⟨_, rfl⟩
      obtain ⟨sn, hsn⟩ : ∃ sn, ys.length = sn := ⟨_, rfl⟩
      have hC' : C5 wr w.heap.size (.slice p pn c') za zb zt (.slice s sn d') := by rw [← hpn, ← hsn]; exact hC
      have HM : Hid (MixRd wr p c' s d' ⟨xs, za, zb, zt, ys⟩) := hM
      have HPN : Hid (xs.length = pn) := hpn
      have HSN : Hid (ys.length = sn) := hsn
      obtain ⟨⟨c0, c1, c2, c3, c4⟩, f⟩ := hC'
      obtain ⟨⟨e0, e1, e2, e3, e4⟩, ef⟩ := HD.out
      have ef0 := ef 0; have ef1 := ef 1; have ef2 := ef 2; have ef3 := ef 3; have ef4 := ef 4
      clear f ef hC hM hZ hpn hsn HI hGk
      go_wp2
      refine bodyPost_ret (v := .agg #[.slice p pn c', .int .i64 za, .int .i64 zb, .int .i64 zt, .slice s sn d']) (by simp [results, Try.results57, go_sem, e0, e1, e2, e3, e4]; try rfl) rfl ?_
      rw [HZ.out]
      refine ⟨p, c', s, d', ?_, ?_, HB.out.1.trans (below_grown (put5_grown _ _ _ _ _ _ _) (by omega) HB.out.1.size)⟩
      · show _ = Ending.returned (.agg #[.slice p xs.length c', .int .i64 za, .int .i64 zb, .int .i64 zt, .slice s ys.length d'])
        rw [HPN.out, HSN.out]
      · exact HM.out.grown HOF.out (put5_grown _ (w.heap.size + 1) _ _ _ _ _) (by omega) (by omega)

end Go.Proofs.Ytnppmgnfignbcaa
