/- Chapter 8, the specification: PutMix whole. -/
import Derived.Test.YtnppmgnfignbcaaSQ8
namespace Go.Proofs.Ytnppmgnfignbcaa
set_option linter.unusedVariables false
set_option maxRecDepth 1000000
set_option linter.unusedSimpArgs false
open Go.RowKit

/-- What PutMix of the specification answers. -/
def putS (m : MixV) (s : ByteArray) : MixV × Int × Bool := if goodB m = true ∧ shortB s = true then ((putM m s).1, (putM m s).2, true) else (MixV.zero, 0, false)
def PutOut (w w' : World) (e : Ending) (z : MixV) (code : Int) (fb : Bool) : Prop := ∃ p c s d, e = .returned (.tuple #[.agg #[.slice p z.pool.length c, .int .i64 z.least, .int .i64 z.wait, .int .i64 z.old, .slice s z.seen.length d], .int .i64 code, .bool fb]) ∧ MixOwn w' w.heap.size p c s d z
theorem putOut_zero (w w' : World) : PutOut w w' (.returned (.tuple #[.agg #[.slice none 0 0, .int .i64 0, .int .i64 0, .int .i64 0, .slice none 0 0], .int .i64 0, .bool false])) MixV.zero 0 false := ⟨none, 0, none, 0, rfl, ⟨World.ownsRow_nil _ _ _ _, World.ownsRow_nil _ _ _ _⟩⟩

set_option maxHeartbeats 4000000 in
theorem specPut_bad (po so : Option Addr) (n c m d : Nat) (a b t : Int) (xs : List ByteArray) (ys : List Int) (s : ByteArray) (w : World) (hx : xs.length = n) (hy : ys.length = m) (hn : n ≤ 1048576) (hm : m ≤ 17592186044416) (hr : RdS w po xs) (hs : Rd w so ys) (hz : ∀ s ∈ xs, s.size ≤ 9223372036854775807) (hss : s.size ≤ 9223372036854775807) (hbad : ¬ (goodB ⟨xs, a, b, t, ys⟩ = true ∧ shortB s = true)) :
    Calls Try.prog 26 #[.agg #[.slice po n c, .int .i64 a, .int .i64 b, .int .i64 t, .slice so m d], .string s] w fun e w' => PutOut w w' e MixV.zero 0 false ∧ Below w.heap.size w w' := by
  obtain ⟨W0, hW0, hC0, hD0, hB0, hS0⟩ := two_boxes w (.slice po n c) a b t (.slice so m d) 41
  have HD0 : Hid (C5 W0 (w.heap.size + 1) (.slice none 0 0) 0 0 0 (.slice none 0 0)) := hD0
  have HB0 : Hid (Below w.heap.size w W0) := hB0
  have q2 := specGood_c po so n c m d a b t xs ys W0 hx hy hn hm (hr.later hB0) (hs.later hB0) hz
  obtain ⟨⟨c0, c1, c2, c3, c4⟩, f⟩ := hC0
  clear hr hs hz hB0 hS0 f hx hy hD0
  cases hg : goodB ⟨xs, a, b, t, ys⟩ with
  | false =>
    rw [hg] at q2
    clear hg hbad
    go_enter Try.func26, Try.ntmps26
    go_wp2_with fail
    refine q2.mono ?_
    clear q2
    rintro e w1 ⟨rfl, hb1⟩
    have HB1 : Hid (Below w.heap.size w w1) := HB0.out.trans (hb1.mono HB0.out.size)
    clear hW0
    obtain ⟨⟨e0, e1, e2, e3, e4⟩, ef⟩ := HD0.out.later hb1
    have ef0 := ef 0; have ef1 := ef 1; have ef2 := ef 2; have ef3 := ef 3; have ef4 := ef 4
    clear hb1 ef c0 c1 c2 c3 c4
    go_wp2
    refine bodyPost_ret (v := .tuple #[.agg #[.slice none 0 0, .int .i64 0, .int .i64 0, .int .i64 0, .slice none 0 0], .int .i64 0, .bool false]) (by simp [results, Try.results26, go_sem, e0, e1, e2, e3, e4]; try rfl) rfl ?_
    exact ⟨putOut_zero _ _, HB1.out.trans (below_grown (put5_grown _ _ _ _ _ _ _) (by omega) HB1.out.size)⟩
  | true =>
    have hsb : shortB s = false := by
      cases h : shortB s with
      | false => rfl
      | true => exact absurd ⟨hg, h⟩ hbad
    rw [hg] at q2
    have HQ : Hid (∀ wx, Calls Try.prog 74 #[.string s] wx fun e w' => e = .returned (.bool false) ∧ w' = wx) := fun wx => by have h := l8Text_c s wx hss; rw [hsb] at h; exact h
    clear hg hbad hsb
    go_enter Try.func26, Try.ntmps26
    go_wp2_with fail
    refine q2.mono ?_
    clear q2
    rintro e w1 ⟨rfl, hb1⟩
    have HB1 : Hid (Below w.heap.size w w1) := HB0.out.trans (hb1.mono HB0.out.size)
    clear hW0
    obtain ⟨⟨e0, e1, e2, e3, e4⟩, ef⟩ := HD0.out.later hb1
    have ef0 := ef 0; have ef1 := ef 1; have ef2 := ef 2; have ef3 := ef 3; have ef4 := ef 4
    clear hb1 ef c0 c1 c2 c3 c4
    go_wp2_with fail
    refine (HQ.out _).mono ?_
    rintro e w' ⟨rfl, hw⟩
    subst w'
    go_wp2
    refine bodyPost_ret (v := .tuple #[.agg #[.slice none 0 0, .int .i64 0, .int .i64 0, .int .i64 0, .slice none 0 0], .int .i64 0, .bool false]) (by simp [results, Try.results26, go_sem, e0, e1, e2, e3, e4]; try rfl) rfl ?_
    exact ⟨putOut_zero _ _, HB1.out.trans (below_grown (put5_grown _ _ _ _ _ _ _) (by omega) HB1.out.size)⟩

set_option maxHeartbeats 4000000 in
theorem specPut_good (po so : Option Addr) (n c m d : Nat) (a b t : Int) (xs : List ByteArray) (ys : List Int) (s : ByteArray) (w : World) (hx : xs.length = n) (hy : ys.length = m) (hn : n ≤ 1048576) (hm : m ≤ 17592186044416) (hr : RdS w po xs) (hs : Rd w so ys) (hz : ∀ s ∈ xs, s.size ≤ 9223372036854775807) (hss : s.size ≤ 9223372036854775807) (hpn : po = none → n = 0 ∧ c = 0) (hsn : so = none → m = 0 ∧ d = 0) (hg : goodB ⟨xs, a, b, t, ys⟩ = true) (hsb : shortB s = true) :
    Calls Try.prog 26 #[.agg #[.slice po n c, .int .i64 a, .int .i64 b, .int .i64 t, .slice so m d], .string s] w fun e w' => PutOut w w' e (putM ⟨xs, a, b, t, ys⟩ s).1 (putM ⟨xs, a, b, t, ys⟩ s).2 true ∧ Below w.heap.size w w' := by
  obtain ⟨W0, hW0, hC0, hD0, hB0, hS0⟩ := two_boxes w (.slice po n c) a b t (.slice so m d) 41
  have HC0 : Hid (C5 W0 w.heap.size (.slice po n c) a b t (.slice so m d)) := hC0
  have HD0 : Hid (C5 W0 (w.heap.size + 1) (.slice none 0 0) 0 0 0 (.slice none 0 0)) := hD0
  have HB0 : Hid (Below w.heap.size w W0) := hB0
  have HS0 : Hid (W0.heap.size = w.heap.size + 2) := hS0
  have HX : Hid (xs.length = n) := hx
  have HY : Hid (ys.length = m) := hy
  have HR : Hid (∀ wx, Below w.heap.size w wx → RdS wx po xs) := fun wx h => hr.later h
  have HS : Hid (∀ wx, Below w.heap.size w wx → Rd wx so ys) := fun wx h => hs.later h
  have q2 := specGood_c po so n c m d a b t xs ys W0 hx hy hn hm (hr.later hB0) (hs.later hB0) hz
  obtain ⟨⟨c0, c1, c2, c3, c4⟩, f⟩ := hC0
  have HPN : Hid (po = none → n = 0 ∧ c = 0) := hpn
  have HSN : Hid (so = none → m = 0 ∧ d = 0) := hsn
  clear hr hs hz hB0 hS0 f hx hy hpn hsn hD0
  have G := (goodB_iff _).1 hg
  have hn12 : n ≤ 12 := by have := G.many; rw [← HX.out]; exact this
  have hm100 : m ≤ 100 := by have := G.seens; rw [← HY.out]; exact this
  have G2 : GoodV (putM ⟨xs, a, b, t, ys⟩ s).1 := good_put G (by simpa [shortB] using hsb)
  have HQ : Hid (∀ wx, Calls Try.prog 74 #[.string s] wx fun e w' => e = .returned (.bool true) ∧ w' = wx) := fun wx => by have h := l8Text_c s wx hss; rw [hsb] at h; exact h
  have HTC : Hid (∀ B p' c' s' d' wx, B ≤ wx.heap.size → MixOwn wx B p' c' s' d' ⟨xs, a, b, t, ys⟩ → Calls Try.prog 59 #[.agg #[.slice p' n c', .int .i64 a, .int .i64 b, .int .i64 t, .slice s' m d'], .string s] wx fun e w' => PutV w' B e (putM ⟨xs, a, b, t, ys⟩ s).1 (putM ⟨xs, a, b, t, ys⟩ s).2 ∧ Below wx.heap.size wx w') := fun B p' c' s' d' wx hB h1 => l8Put_c B p' s' n c' m d' ⟨xs, a, b, t, ys⟩ s wx HX.out HY.out hB h1 hss G
  rw [hg] at q2
  obtain ⟨Z, hZ⟩ : ∃ Z, (putM ⟨xs, a, b, t, ys⟩ s).1 = Z := ⟨_, rfl⟩
  obtain ⟨k, hk⟩ : ∃ k, (putM ⟨xs, a, b, t, ys⟩ s).2 = k := ⟨_, rfl⟩
  rw [hZ, hk] at HTC ⊢
  rw [hZ] at G2
  obtain ⟨zp, za, zb, zt, zs⟩ := Z
  obtain ⟨pn, hpn⟩ : ∃ pn, zp.length = pn := ⟨_, rfl⟩
  obtain ⟨sn, hsn⟩ : ∃ sn, zs.length = sn := ⟨_, rfl⟩
  have HPL : Hid (zp.length = pn) := hpn
  have HSL : Hid (zs.length = sn) := hsn
  have hpn12 : pn ≤ 12 := by rw [← hpn]; exact G2.many
  have hsn100 : sn ≤ 100 := by rw [← hsn]; exact G2.seens
  clear G G2 hg hsb hZ hk hpn hsn
  go_enter Try.func26, Try.ntmps26
  go_wp2_with fail
  refine q2.mono ?_
  clear q2
  rintro e w1 ⟨rfl, hb1⟩
  have HB1 : Hid (Below w.heap.size w w1) := HB0.out.trans (hb1.mono HB0.out.size)
  have HD1 : Hid (C5 w1 (w.heap.size + 1) (.slice none 0 0) 0 0 0 (.slice none 0 0)) := HD0.out.later hb1
  have HZ1 : Hid (w.heap.size + 2 ≤ w1.heap.size) := by show _ ≤ _; have := HS0.out; have := hb1.size; omega
  have hC1 := HC0.out.later hb1
  clear hW0 c0 c1 c2 c3 c4 hb1 HC0 HD0 HB0
  obtain ⟨⟨c0, c1, c2, c3, c4⟩, f⟩ := hC1
  clear f
  go_wp2_with fail
  refine (HQ.out _).mono ?_
  rintro e w' ⟨rfl, hw⟩
  subst w'
  have q3 := l8Own_c po so n c m d a b t xs ys w1 HX.out HY.out (by omega) (by omega) (HR.out _ HB1.out) (HS.out _ HB1.out) HPN.out HSN.out
  go_wp2_with fail
  refine q3.mono ?_
  clear q3 c0 c1 c2 c3 c4
  rintro e w2 ⟨p2, k2, s2, d2, rfl, ho2, hp2, hb2⟩
  have HB2 : Hid (Below w.heap.size w w2) := HB1.out.trans (hb2.mono HB1.out.size)
  have HD2 : Hid (C5 w2 (w.heap.size + 1) (.slice none 0 0) 0 0 0 (.slice none 0 0)) := HD1.out.later hb2
  have HZ2 : Hid (w.heap.size + 2 ≤ w2.heap.size) := Nat.le_trans HZ1.out hb2.size
  have q4 := HTC.out w1.heap.size p2 k2 s2 d2 w2 hb2.size ⟨by rw [HX.out]; exact ho2, by rw [HY.out]; exact hp2⟩
  clear ho2 hp2 hb2 HB1 HD1 HTC
  go_wp2_with fail
  refine q4.mono ?_
  clear q4
  rintro e w3 ⟨⟨p3, k3, s3, d3, he, hM3⟩, hb3⟩
  have he' : e = .returned (.tuple #[.agg #[.slice p3 pn k3, .int .i64 za, .int .i64 zb, .int .i64 zt, .slice s3 sn d3], .int .i64 k]) := by rw [he, ← HPL.out, ← HSL.out]
  subst he'
  have HB3 : Hid (Below w.heap.size w w3) := HB2.out.trans (hb3.mono HB2.out.size)
  have HD3 : Hid (C5 w3 (w.heap.size + 1) (.slice none 0 0) 0 0 0 (.slice none 0 0)) := HD2.out.later hb3
  have HZ3 : Hid (w.heap.size + 2 ≤ w3.heap.size) := Nat.le_trans HZ2.out hb3.size
  have HM3 : Hid (MixOwn w3 w1.heap.size p3 k3 s3 d3 ⟨zp, za, zb, zt, zs⟩) := hM3
  clear hb3 HB2 HD2 HZ2 he hM3
  have bV := balloc w3 (.cells #[.slice p3 pn k3, .int .i64 za, .int .i64 zb, .int .i64 zt, .slice s3 sn d3] 41)
  have hN := c5_new w3 (.slice p3 pn k3) za zb zt (.slice s3 sn d3) 41 w3.heap.size rfl
  have hD4 := HD3.out.later bV
  have hM4 := HM3.out.later bV
  have hB4 := HB3.out.alloc HB3.out.size (.cells #[.slice p3 pn k3, .int .i64 za, .int .i64 zb, .int .i64 zt, .slice s3 sn d3] 41)
  have hZ4 : (w3.alloc (.cells #[.slice p3 pn k3, .int .i64 za, .int .i64 zb, .int .i64 zt, .slice s3 sn d3] 41)).heap.size = w3.heap.size + 1 := by simp
  obtain ⟨V, hV⟩ : ∃ V, w3.alloc (.cells #[.slice p3 pn k3, .int .i64 za, .int .i64 zb, .int .i64 zt, .slice s3 sn d3] 41) = V := ⟨_, rfl⟩
  rw [hV] at hN hD4 hM4 hB4 hZ4
  have HD4 : Hid (C5 V (w.heap.size + 1) (.slice none 0 0) 0 0 0 (.slice none 0 0)) := hD4
  have HB4 : Hid (Below w.heap.size w V) := hB4
  have HZ4 : Hid (w.heap.size + 2 ≤ V.heap.size) := by show _ ≤ _; have := HZ3.out; omega
  have hop : OwnS V w1.heap.size (.slice p3 pn k3) zp := by have h := hM4.op; rw [HPL.out] at h; exact h
  have hos : Own V w1.heap.size (.slice s3 sn d3) zs := by have h := hM4.os; rw [HSL.out] at h; exact h
  have q5 := l8Own_c p3 s3 pn k3 sn d3 za zb zt zp zs V HPL.out HSL.out (by omega) (by omega) hop.rd'.2 hos.rd'.2 hop.nil hos.nil
  obtain ⟨⟨n0, n1, n2, n3, n4⟩, nf⟩ := hN
  clear nf bV hD4 hM4 hB4 hZ4 HD3 HB3 HZ3 hop hos HM3
  go_wp2_with fail
  refine q5.mono ?_
  clear q5 n0 n1 n2 n3 n4 hV
  rintro e w5 ⟨p5, k5, s5, d5, rfl, ho5, hp5, hb5⟩
  have hB5 : Below w.heap.size w w5 := HB4.out.trans (hb5.mono HB4.out.size)
  have hD5 := HD4.out.later hb5
  have HO7 : Hid (OwnS w5 (w.heap.size + 2) (.slice p5 pn k5) zp) := ho5.mono HZ4.out
  have HP7 : Hid (Own w5 (w.heap.size + 2) (.slice s5 sn d5) zs) := hp5.mono HZ4.out
  have HB7 : Hid (Below w.heap.size w w5) := hB5
  obtain ⟨⟨e0, e1, e2, e3, e4⟩, ef⟩ := hD5
  have ef0 := ef 0; have ef1 := ef 1; have ef2 := ef 2; have ef3 := ef 3; have ef4 := ef 4
  clear ef hB5 ho5 hp5 hb5
  go_wp2
  refine bodyPost_ret (v := .tuple #[.agg #[.slice p5 pn k5, .int .i64 za, .int .i64 zb, .int .i64 zt, .slice s5 sn d5], .int .i64 k, .bool true]) (by simp [results, Try.results26, go_sem, e0, e1, e2, e3, e4]; try rfl) rfl ?_
  have hg5 := put5_grown w5 (w.heap.size + 1) (.slice p5 pn k5) za zb zt (.slice s5 sn d5)
  refine ⟨⟨p5, k5, s5, d5, by show _ = Ending.returned (.tuple #[.agg #[.slice p5 zp.length k5, .int .i64 za, .int .i64 zb, .int .i64 zt, .slice s5 zs.length d5], .int .i64 k, .bool true]); rw [HPL.out, HSL.out], ⟨?_, ?_⟩⟩, HB7.out.trans (below_grown hg5 (by omega) HB7.out.size)⟩
  · show OwnS _ _ (.slice p5 zp.length k5) zp
    rw [HPL.out]
    exact (HO7.out.kept hg5 (Or.inr fun e => by have := own_block_geS HO7.out _ e; omega)).mono (by omega)
  · show Own _ _ (.slice s5 zs.length d5) zs
    rw [HSL.out]
    exact (HP7.out.kept hg5 (Or.inr fun e => by have := own_block_ge HP7.out _ e; omega)).mono (by omega)

end Go.Proofs.Ytnppmgnfignbcaa
