/- Chapter 13: the laws' own functions over a board. -/
import Derived.Test.YtaokmjbhgkfnfaaK13s
import Derived.Test.YtaokmjbhgkfnfaaP13s
namespace Go.Proofs.Ytaokmjbhgkfnfaa
set_option linter.unusedVariables false
set_option maxRecDepth 1000000
set_option linter.unusedSimpArgs false
open Go.RowKit

theorem OwnIP.setBox {w : World} {lo : Nat} {pp : Nat → Prop} {v : Value} {xss : List (List Int)} (h : OwnIP w lo pp v xss) {r j : Nat} (hr : ¬ pp r) (u : Value) : OwnIP (w.setCell ⟨r, j, none⟩ u) lo pp v xss :=
  h.rng (qq := fun k => k = r) (RngP.ofGrown (grown_setCell w r j u) (fun k e => by simpa using e.symm)) (fun k hk e => hr (e ▸ hk))

/-- A board of the call's own: its rows lie from lo up to hi, none of them shared. -/
structure OwnBd (w : World) (lo hi : Nat) (S L T : Value) (b : BdV) : Prop where
  ex : ∃ pp : Nat → Prop, OwnIP w lo pp S b.sg ∧ (∀ k, pp k → lo ≤ k ∧ k < hi) ∧ (∀ k, L.ownBlock = some k → ¬ pp k ∧ k < hi) ∧ ∀ k, T.ownBlock = some k → ¬ pp k ∧ k < hi
  li : Own w lo L b.li
  ls : Own w lo T b.ls
  sep : L.ownBlock = none ∨ L.ownBlock ≠ T.ownBlock
theorem OwnBd.later {w w' : World} {lo hi : Nat} {S L T : Value} {b : BdV} (h : OwnBd w lo hi S L T b) (hb : Below w.heap.size w w') : OwnBd w' lo hi S L T b := by
  obtain ⟨pp, h1, h2, h3, h4⟩ := h.ex
  exact ⟨⟨pp, h1.later hb, h2, h3, h4⟩, h.li.later hb, h.ls.later hb, h.sep⟩
theorem OwnBd.rng {w w' : World} {lo hi : Nat} {qq : Nat → Prop} {S L T : Value} {b : BdV} (h : OwnBd w lo hi S L T b) (hr : RngP qq w w') (hd : ∀ k, lo ≤ k → k < hi → ¬ qq k) : OwnBd w' lo hi S L T b := by
  obtain ⟨pp, h1, h2, h3, h4⟩ := h.ex
  exact ⟨⟨pp, h1.rng hr (fun k hk => hd k (h2 k hk).1 (h2 k hk).2), h2, h3, h4⟩, h.li.rngP hr (fun k e => hd k (own_block_ge h.li k e) (h3 k e).2), h.ls.rngP hr (fun k e => hd k (own_block_ge h.ls k e) (h4 k e).2), h.sep⟩
theorem OwnBd.mono {w : World} {lo hi lo' hi' : Nat} {S L T : Value} {b : BdV} (h : OwnBd w lo hi S L T b) (h1 : lo' ≤ lo) (h2 : hi ≤ hi') : OwnBd w lo' hi' S L T b := by
  obtain ⟨pp, g1, g2, g3, g4⟩ := h.ex
  exact ⟨⟨pp, g1.mono h1 (fun _ h => h), fun k hk => by have := g2 k hk; omega, fun k e => ⟨(g3 k e).1, by have := (g3 k e).2; omega⟩, fun k e => ⟨(g4 k e).1, by have := (g4 k e).2; omega⟩⟩, h.li.mono h1, h.ls.mono h1, h.sep⟩
/-- What of a board is read. -/
structure RdBd (w : World) (sa : Option Addr) (sn sc : Nat) (la : Option Addr) (ln lc : Nat) (ta : Option Addr) (tn tc : Nat) (b : BdV) : Prop where
  sl : b.sg.length = sn
  ll : b.li.length = ln
  tl : b.ls.length = tn
  s : RdII w sa b.sg
  l : Rd w la b.li
  t : Rd w ta b.ls
  cp : sn ≤ sc
  sz : sa = none → sn = 0 ∧ sc = 0
  lz : la = none → ln = 0 ∧ lc = 0
  tz : ta = none → tn = 0 ∧ tc = 0
theorem RdBd.later {w w' : World} {sa : Option Addr} {sn sc : Nat} {la : Option Addr} {ln lc : Nat} {ta : Option Addr} {tn tc : Nat} {b : BdV} (h : RdBd w sa sn sc la ln lc ta tn tc b) (hb : Below w.heap.size w w') : RdBd w' sa sn sc la ln lc ta tn tc b := ⟨h.sl, h.ll, h.tl, h.s.later hb, h.l.later hb, h.t.later hb, h.cp, h.sz, h.lz, h.tz⟩
theorem OwnBd.rd {w : World} {lo hi : Nat} {sa : Option Addr} {sn sc : Nat} {la : Option Addr} {ln lc : Nat} {ta : Option Addr} {tn tc : Nat} {b : BdV} (h : OwnBd w lo hi (.slice sa sn sc) (.slice la ln lc) (.slice ta tn tc) b) : RdBd w sa sn sc la ln lc ta tn tc b := by
  obtain ⟨pp, h1, _, _, _⟩ := h.ex
  obtain ⟨ao, c, e1, e2, e3⟩ := h1.toS.rd
  simp only [Value.slice.injEq] at e1
  obtain ⟨rfl, rfl, rfl⟩ := e1
  obtain ⟨vs, hvl, ho, _⟩ := h1
  have hc : b.sg.length ≤ sc := by
    rcases ho.2 with ⟨h0, hz⟩ | ⟨g, cap, cur, hv, _, _, hcm, _⟩
    · omega
    · simp only [Value.slice.injEq] at hv
      obtain ⟨_, _, rfl⟩ := hv
      exact hcm
  exact ⟨rfl, h.li.rd'.1, h.ls.rd'.1, e2, h.li.rd'.2, h.ls.rd'.2, hc, e3, h.li.nil, h.ls.nil⟩
/-- Boards that read the same have their lengths. -/
theorem OwnBd.form {w : World} {lo hi : Nat} {S L T : Value} {b : BdV} (h : OwnBd w lo hi S L T b) : ∃ sa sc la lc ta tc, S = .slice sa b.sg.length sc ∧ L = .slice la b.li.length lc ∧ T = .slice ta b.ls.length tc := by
  obtain ⟨pp, h1, _, _, _⟩ := h.ex
  obtain ⟨ao, c, e1, _, _⟩ := h1.toS.rd
  obtain ⟨la, lc, e2⟩ := h.li.shape
  obtain ⟨ta, tc, e3⟩ := h.ls.shape
  exact ⟨ao, c, la, lc, ta, tc, e1, e2, e3⟩

set_option maxHeartbeats 2000000 in
theorem toBoard_c (f e : Int) (sa : Option Addr) (sn sc : Nat) (la : Option Addr) (ln lc : Nat) (ta : Option Addr) (tn tc : Nat) (sg : List (List Int)) (li ls : List Int) (w : World) (hs : sg.length = sn) (hsn : sn ≤ 1048576) (hl : li.length = ln) (hln : ln ≤ 1048576) (ht : ls.length = tn) (htn : tn ≤ 1048576) (hrs : RdII w sa sg) (hrl : Rd w la li) (hrt : Rd w ta ls) (hsl : ∀ l ∈ sg, l.length ≤ 1048576) :
    Calls Try.prog 42 #[.agg #[.int .i64 f, .int .i64 e, .slice sa sn sc, .slice la ln lc, .slice ta tn tc]] w fun x w' => ∃ sa' sc' la' lc' ta' tc', x = .returned (.agg #[.int .i64 f, .int .i64 e, .slice sa' sn sc', .slice la' ln lc', .slice ta' tn tc']) ∧ OwnBd w' w.heap.size w'.heap.size (.slice sa' sn sc') (.slice la' ln lc') (.slice ta' tn tc') ⟨f, e, sg, li, ls⟩ ∧ Below w.heap.size w w' := by
  have HS : Hid (sg.length = sn) := hs
  have HL : Hid (li.length = ln) := hl
  have HT : Hid (ls.length = tn) := ht
  have HSL : Hid (∀ l ∈ sg, l.length ≤ 1048576) := hsl
  have HRS : Hid (∀ wx, Below w.heap.size w wx → RdII wx sa sg) := fun wx h => hrs.later h
  have HRL : Hid (∀ wx, Below w.heap.size w wx → Rd wx la li) := fun wx h => hrl.later h
  have HRT : Hid (∀ wx, Below w.heap.size w wx → Rd wx ta ls) := fun wx h => hrt.later h
  have HX0 : Hid (X5 ((((w.alloc (.cells #[.int .i64 f, .int .i64 e, .slice sa sn sc, .slice la ln lc, .slice ta tn tc] 62)).alloc (.cells #[.int .i64 0, .int .i64 0, .slice none 0 0, .slice none 0 0, .slice none 0 0] 29)).alloc (.cells #[.int .i64 f, .int .i64 e, .slice none 0 0, .slice none 0 0, .slice none 0 0] 29))) w.heap.size (.int .i64 f) (.int .i64 e) (.slice sa sn sc) (.slice la ln lc) (.slice ta tn tc)) := ((x5_new w (.int .i64 f) (.int .i64 e) (.slice sa sn sc) (.slice la ln lc) (.slice ta tn tc) 62 w.heap.size rfl).later (balloc _ _)).later (balloc _ _)
  have HZ0 : Hid (X5 ((((w.alloc (.cells #[.int .i64 f, .int .i64 e, .slice sa sn sc, .slice la ln lc, .slice ta tn tc] 62)).alloc (.cells #[.int .i64 0, .int .i64 0, .slice none 0 0, .slice none 0 0, .slice none 0 0] 29)).alloc (.cells #[.int .i64 f, .int .i64 e, .slice none 0 0, .slice none 0 0, .slice none 0 0] 29))) (w.heap.size + 1) (.int .i64 0) (.int .i64 0) (.slice none 0 0) (.slice none 0 0) (.slice none 0 0)) := (x5_new _ _ _ _ _ _ 29 _ (by simp)).later (balloc _ _)
  have HO0 : Hid (X5 ((((w.alloc (.cells #[.int .i64 f, .int .i64 e, .slice sa sn sc, .slice la ln lc, .slice ta tn tc] 62)).alloc (.cells #[.int .i64 0, .int .i64 0, .slice none 0 0, .slice none 0 0, .slice none 0 0] 29)).alloc (.cells #[.int .i64 f, .int .i64 e, .slice none 0 0, .slice none 0 0, .slice none 0 0] 29))) (w.heap.size + 2) (.int .i64 f) (.int .i64 e) (.slice none 0 0) (.slice none 0 0) (.slice none 0 0)) := x5_new _ _ _ _ _ _ 29 _ (by simp)
  have HB0 : Hid (Below w.heap.size w ((((w.alloc (.cells #[.int .i64 f, .int .i64 e, .slice sa sn sc, .slice la ln lc, .slice ta tn tc] 62)).alloc (.cells #[.int .i64 0, .int .i64 0, .slice none 0 0, .slice none 0 0, .slice none 0 0] 29)).alloc (.cells #[.int .i64 f, .int .i64 e, .slice none 0 0, .slice none 0 0, .slice none 0 0] 29)))) := ((balloc w _).alloc (balloc w _).size _).alloc ((balloc w _).alloc (balloc w _).size _).size _
  have hz0 : ((((w.alloc (.cells #[.int .i64 f, .int .i64 e, .slice sa sn sc, .slice la ln lc, .slice ta tn tc] 62)).alloc (.cells #[.int .i64 0, .int .i64 0, .slice none 0 0, .slice none 0 0, .slice none 0 0] 29)).alloc (.cells #[.int .i64 f, .int .i64 e, .slice none 0 0, .slice none 0 0, .slice none 0 0] 29))).heap.size = w.heap.size + 3 := by simp
  have HN0 : Hid (((((w.alloc (.cells #[.int .i64 f, .int .i64 e, .slice sa sn sc, .slice la ln lc, .slice ta tn tc] 62)).alloc (.cells #[.int .i64 0, .int .i64 0, .slice none 0 0, .slice none 0 0, .slice none 0 0] 29)).alloc (.cells #[.int .i64 f, .int .i64 e, .slice none 0 0, .slice none 0 0, .slice none 0 0] 29))).heap.size = w.heap.size + 3) := hz0
  have q1 := toII_c sa sn sc sg ((((w.alloc (.cells #[.int .i64 f, .int .i64 e, .slice sa sn sc, .slice la ln lc, .slice ta tn tc] 62)).alloc (.cells #[.int .i64 0, .int .i64 0, .slice none 0 0, .slice none 0 0, .slice none 0 0] 29)).alloc (.cells #[.int .i64 f, .int .i64 e, .slice none 0 0, .slice none 0 0, .slice none 0 0] 29))) hs hsn hsl (HRS.out _ HB0.out)
  have q2 := fun wx h => toIntS_c la ln lc li wx hl (by omega) (HRL.out wx h)
  have q3 := fun wx h => toIntS_c ta tn tc ls wx ht (by omega) (HRT.out wx h)
  clear hs hl ht hsl hrs hrl hrt hz0
  go_enter Try.func42, Try.ntmps42
  go_wp2_with fail
  refine q1.mono ?_
  clear q1
  rintro x w1 ⟨a1, c1, rfl, ho, hb⟩
  have HXn : Hid (X5 w1 w.heap.size (.int .i64 f) (.int .i64 e) (.slice sa sn sc) (.slice la ln lc) (.slice ta tn tc)) := HX0.out.later hb
  have HZn : Hid (X5 w1 (w.heap.size + 1) (.int .i64 0) (.int .i64 0) (.slice none 0 0) (.slice none 0 0) (.slice none 0 0)) := HZ0.out.later hb
  have HOn : Hid (X5 w1 (w.heap.size + 2) (.int .i64 f) (.int .i64 e) (.slice none 0 0) (.slice none 0 0) (.slice none 0 0)) := HO0.out.later hb
  have HBn : Hid (Below w.heap.size w w1) := HB0.out.trans (hb.mono HB0.out.size)
  have hzn : ((((w.alloc (.cells #[.int .i64 f, .int .i64 e, .slice sa sn sc, .slice la ln lc, .slice ta tn tc] 62)).alloc (.cells #[.int .i64 0, .int .i64 0, .slice none 0 0, .slice none 0 0, .slice none 0 0] 29)).alloc (.cells #[.int .i64 f, .int .i64 e, .slice none 0 0, .slice none 0 0, .slice none 0 0] 29))).heap.size ≤ w1.heap.size := hb.size
  have HX1 : Hid (X5 (w1.setCell ⟨w.heap.size + 2, 2, none⟩ (.slice a1 sn c1)) w.heap.size (.int .i64 f) (.int .i64 e) (.slice sa sn sc) (.slice la ln lc) (.slice ta tn tc)) := HXn.out.other (by omega)
  have HZ1 : Hid (X5 (w1.setCell ⟨w.heap.size + 2, 2, none⟩ (.slice a1 sn c1)) (w.heap.size + 1) (.int .i64 0) (.int .i64 0) (.slice none 0 0) (.slice none 0 0) (.slice none 0 0)) := HZn.out.other (by omega)
  have HO1 : Hid (X5 (w1.setCell ⟨w.heap.size + 2, 2, none⟩ (.slice a1 sn c1)) (w.heap.size + 2) (.int .i64 f) (.int .i64 e) (.slice a1 sn c1) (.slice none 0 0) (.slice none 0 0)) := HOn.out.set2 _
  have HB1 : Hid (Below w.heap.size w (w1.setCell ⟨w.heap.size + 2, 2, none⟩ (.slice a1 sn c1))) := HBn.out.setCell (by show w.heap.size ≤ w.heap.size + 2; omega) _
  have hge : w1.heap.size ≤ (w1.setCell ⟨w.heap.size + 2, 2, none⟩ (.slice a1 sn c1)).heap.size := (grown_setCell _ _ _ _).size
  have hS := ho.toP.mono (lo' := w.heap.size + 3) (qq := fun k => w.heap.size + 3 ≤ k ∧ k < w1.heap.size) (by have := HN0.out; omega) (fun k h => by have := HN0.out; omega)
  have S1 : Hid (OwnIP (w1.setCell ⟨w.heap.size + 2, 2, none⟩ (.slice a1 sn c1)) (w.heap.size + 3) (fun k => w.heap.size + 3 ≤ k ∧ k < w1.heap.size) (.slice a1 sn c1) sg) := hS.setBox (by omega) _
  have N1 : Hid (w.heap.size + 3 ≤ w1.heap.size) := by show _ ≤ _; have := HN0.out; omega
  obtain ⟨E1, hE⟩ : ∃ E, w1.setCell ⟨w.heap.size + 2, 2, none⟩ (.slice a1 sn c1) = E := ⟨_, rfl⟩
  rw [hE] at HX1 HZ1 HO1 HB1 hge S1
  have M1 : Hid (w1.heap.size ≤ E1.heap.size) := hge
  obtain ⟨⟨x0, x1, x2, x3, x4⟩, _⟩ := HX1.out
  obtain ⟨⟨o0, o1, o2, o3, o4⟩, of⟩ := HOn.out
  have ofn := of 2
  clear of hge hzn ho hb HXn HZn HBn hS
  clear HX0 HZ0 HO0 HB0
  go_wp2_with fail
  clear hE x0 x1 x2 x3 x4 o0 o1 o2 o3 o4 ofn HOn
  refine (q2 _ HB1.out).mono ?_
  clear q2
  rintro x w2 ⟨a2, c2, rfl, ho, hb⟩
  have HXn : Hid (X5 w2 w.heap.size (.int .i64 f) (.int .i64 e) (.slice sa sn sc) (.slice la ln lc) (.slice ta tn tc)) := HX1.out.later hb
  have HZn : Hid (X5 w2 (w.heap.size + 1) (.int .i64 0) (.int .i64 0) (.slice none 0 0) (.slice none 0 0) (.slice none 0 0)) := HZ1.out.later hb
  have HOn : Hid (X5 w2 (w.heap.size + 2) (.int .i64 f) (.int .i64 e) (.slice a1 sn c1) (.slice none 0 0) (.slice none 0 0)) := HO1.out.later hb
  have HBn : Hid (Below w.heap.size w w2) := HB1.out.trans (hb.mono HB1.out.size)
  have hzn : E1.heap.size ≤ w2.heap.size := hb.size
  have HX2 : Hid (X5 (w2.setCell ⟨w.heap.size + 2, 3, none⟩ (.slice a2 ln c2)) w.heap.size (.int .i64 f) (.int .i64 e) (.slice sa sn sc) (.slice la ln lc) (.slice ta tn tc)) := HXn.out.other (by omega)
  have HZ2 : Hid (X5 (w2.setCell ⟨w.heap.size + 2, 3, none⟩ (.slice a2 ln c2)) (w.heap.size + 1) (.int .i64 0) (.int .i64 0) (.slice none 0 0) (.slice none 0 0) (.slice none 0 0)) := HZn.out.other (by omega)
  have HO2 : Hid (X5 (w2.setCell ⟨w.heap.size + 2, 3, none⟩ (.slice a2 ln c2)) (w.heap.size + 2) (.int .i64 f) (.int .i64 e) (.slice a1 sn c1) (.slice a2 ln c2) (.slice none 0 0)) := HOn.out.set3 _
  have HB2 : Hid (Below w.heap.size w (w2.setCell ⟨w.heap.size + 2, 3, none⟩ (.slice a2 ln c2))) := HBn.out.setCell (by show w.heap.size ≤ w.heap.size + 2; omega) _
  have hge : w2.heap.size ≤ (w2.setCell ⟨w.heap.size + 2, 3, none⟩ (.slice a2 ln c2)).heap.size := (grown_setCell _ _ _ _).size
  have S2 : Hid (OwnIP (w2.setCell ⟨w.heap.size + 2, 3, none⟩ (.slice a2 ln c2)) (w.heap.size + 3) (fun k => w.heap.size + 3 ≤ k ∧ k < w1.heap.size) (.slice a1 sn c1) sg) := (S1.out.later hb).setBox (by omega) _
  have hR := ho.mono (show w1.heap.size ≤ E1.heap.size from M1.out)
  have R2_2 : Hid (Own (w2.setCell ⟨w.heap.size + 2, 3, none⟩ (.slice a2 ln c2)) w1.heap.size (.slice a2 ln c2) li) := hR.setBox (by have := N1.out; omega) _
  have I2 : Hid (∀ k, (Value.slice a2 ln c2).ownBlock = some k → w1.heap.size ≤ k ∧ k < w2.heap.size) := fun k h => ⟨own_block_ge hR k h, (World.ownsRow.lt ho k h).2⟩
  have N2 : Hid (w1.heap.size ≤ w2.heap.size ∧ w.heap.size + 3 ≤ w2.heap.size) := by show _ ∧ _; have h8 := N1.out; have h9 := M1.out; omega
  obtain ⟨E2, hE⟩ : ∃ E, w2.setCell ⟨w.heap.size + 2, 3, none⟩ (.slice a2 ln c2) = E := ⟨_, rfl⟩
  rw [hE] at HX2 HZ2 HO2 HB2 hge S2 R2_2
  have M2 : Hid (w2.heap.size ≤ E2.heap.size) := hge
  obtain ⟨⟨x0, x1, x2, x3, x4⟩, _⟩ := HX2.out
  obtain ⟨⟨o0, o1, o2, o3, o4⟩, of⟩ := HOn.out
  have ofn := of 3
  clear of hge hzn ho hb HXn HZn HBn hR
  clear HX1 HZ1 HO1 HB1 S1
  go_wp2_with fail
  clear hE x0 x1 x2 x3 x4 o0 o1 o2 o3 o4 ofn HOn
  refine (q3 _ HB2.out).mono ?_
  clear q3
  rintro x w3 ⟨a3, c3, rfl, ho, hb⟩
  have HXn : Hid (X5 w3 w.heap.size (.int .i64 f) (.int .i64 e) (.slice sa sn sc) (.slice la ln lc) (.slice ta tn tc)) := HX2.out.later hb
  have HZn : Hid (X5 w3 (w.heap.size + 1) (.int .i64 0) (.int .i64 0) (.slice none 0 0) (.slice none 0 0) (.slice none 0 0)) := HZ2.out.later hb
  have HOn : Hid (X5 w3 (w.heap.size + 2) (.int .i64 f) (.int .i64 e) (.slice a1 sn c1) (.slice a2 ln c2) (.slice none 0 0)) := HO2.out.later hb
  have HBn : Hid (Below w.heap.size w w3) := HB2.out.trans (hb.mono HB2.out.size)
  have hzn : E2.heap.size ≤ w3.heap.size := hb.size
  have HX3 : Hid (X5 (w3.setCell ⟨w.heap.size + 2, 4, none⟩ (.slice a3 tn c3)) w.heap.size (.int .i64 f) (.int .i64 e) (.slice sa sn sc) (.slice la ln lc) (.slice ta tn tc)) := HXn.out.other (by omega)
  have HZ3 : Hid (X5 (w3.setCell ⟨w.heap.size + 2, 4, none⟩ (.slice a3 tn c3)) (w.heap.size + 1) (.int .i64 0) (.int .i64 0) (.slice none 0 0) (.slice none 0 0) (.slice none 0 0)) := HZn.out.other (by omega)
  have HO3 : Hid (X5 (w3.setCell ⟨w.heap.size + 2, 4, none⟩ (.slice a3 tn c3)) (w.heap.size + 2) (.int .i64 f) (.int .i64 e) (.slice a1 sn c1) (.slice a2 ln c2) (.slice a3 tn c3)) := HOn.out.set4 _
  have HB3 : Hid (Below w.heap.size w (w3.setCell ⟨w.heap.size + 2, 4, none⟩ (.slice a3 tn c3))) := HBn.out.setCell (by show w.heap.size ≤ w.heap.size + 2; omega) _
  have hge : w3.heap.size ≤ (w3.setCell ⟨w.heap.size + 2, 4, none⟩ (.slice a3 tn c3)).heap.size := (grown_setCell _ _ _ _).size
  have S3 : Hid (OwnIP (w3.setCell ⟨w.heap.size + 2, 4, none⟩ (.slice a3 tn c3)) (w.heap.size + 3) (fun k => w.heap.size + 3 ≤ k ∧ k < w1.heap.size) (.slice a1 sn c1) sg) := (S2.out.later hb).setBox (by omega) _
  have R2_3 : Hid (Own (w3.setCell ⟨w.heap.size + 2, 4, none⟩ (.slice a3 tn c3)) w1.heap.size (.slice a2 ln c2) li) := (R2_2.out.later hb).setBox (by have := N1.out; omega) _
  have hR := ho.mono (show w2.heap.size ≤ E2.heap.size from M2.out)
  have R3_3 : Hid (Own (w3.setCell ⟨w.heap.size + 2, 4, none⟩ (.slice a3 tn c3)) w2.heap.size (.slice a3 tn c3) ls) := hR.setBox (by have := N2.out; omega) _
  have I3 : Hid (∀ k, (Value.slice a3 tn c3).ownBlock = some k → w2.heap.size ≤ k ∧ k < w3.heap.size) := fun k h => ⟨own_block_ge hR k h, (World.ownsRow.lt ho k h).2⟩
  have N3 : Hid (w2.heap.size ≤ w3.heap.size ∧ w.heap.size + 3 ≤ w3.heap.size) := by show _ ∧ _; have h8 := N2.out; have h9 := M2.out; omega
  obtain ⟨E3, hE⟩ : ∃ E, w3.setCell ⟨w.heap.size + 2, 4, none⟩ (.slice a3 tn c3) = E := ⟨_, rfl⟩
  rw [hE] at HX3 HZ3 HO3 HB3 hge S3 R2_3 R3_3
  have M3 : Hid (w3.heap.size ≤ E3.heap.size) := hge
  obtain ⟨⟨x0, x1, x2, x3, x4⟩, _⟩ := HX3.out
  obtain ⟨⟨o0, o1, o2, o3, o4⟩, of⟩ := HOn.out
  have ofn := of 4
  obtain ⟨⟨v0, v1, v2, v3, v4⟩, _⟩ := HO3.out
  clear of hge hzn ho hb HXn HZn HBn hR
  clear HX2 HZ2 HO2 HB2 S2 R2_2
  have hZF := (((((HZ3.out.set0 (.int .i64 f)).set1 (.int .i64 e)).set2 (.slice a1 sn c1)).set3 (.slice a2 ln c2)).set4 (.slice a3 tn c3))
  have hBF : Below w.heap.size w (((((E3.setCell ⟨w.heap.size + 1, 0, none⟩ (.int .i64 f)).setCell ⟨w.heap.size + 1, 1, none⟩ (.int .i64 e)).setCell ⟨w.heap.size + 1, 2, none⟩ (.slice a1 sn c1)).setCell ⟨w.heap.size + 1, 3, none⟩ (.slice a2 ln c2)).setCell ⟨w.heap.size + 1, 4, none⟩ (.slice a3 tn c3)) := (((((HB3.out.setCell (by show w.heap.size ≤ w.heap.size + 1; omega) _).setCell (by show w.heap.size ≤ w.heap.size + 1; omega) _).setCell (by show w.heap.size ≤ w.heap.size + 1; omega) _).setCell (by show w.heap.size ≤ w.heap.size + 1; omega) _).setCell (by show w.heap.size ≤ w.heap.size + 1; omega) _)
  have hSF := (((((S3.out.setBox (r := w.heap.size + 1) (j := 0) (by omega) (.int .i64 f)).setBox (r := w.heap.size + 1) (j := 1) (by omega) (.int .i64 e)).setBox (r := w.heap.size + 1) (j := 2) (by omega) (.slice a1 sn c1)).setBox (r := w.heap.size + 1) (j := 3) (by omega) (.slice a2 ln c2)).setBox (r := w.heap.size + 1) (j := 4) (by omega) (.slice a3 tn c3))
  have hR2 := (((((R2_3.out.setBox (r := w.heap.size + 1) (j := 0) (by have := N1.out; omega) (.int .i64 f)).setBox (r := w.heap.size + 1) (j := 1) (by have := N1.out; omega) (.int .i64 e)).setBox (r := w.heap.size + 1) (j := 2) (by have := N1.out; omega) (.slice a1 sn c1)).setBox (r := w.heap.size + 1) (j := 3) (by have := N1.out; omega) (.slice a2 ln c2)).setBox (r := w.heap.size + 1) (j := 4) (by have := N1.out; omega) (.slice a3 tn c3))
  have hR3 := (((((R3_3.out.setBox (r := w.heap.size + 1) (j := 0) (by have := N2.out; omega) (.int .i64 f)).setBox (r := w.heap.size + 1) (j := 1) (by have := N2.out; omega) (.int .i64 e)).setBox (r := w.heap.size + 1) (j := 2) (by have := N2.out; omega) (.slice a1 sn c1)).setBox (r := w.heap.size + 1) (j := 3) (by have := N2.out; omega) (.slice a2 ln c2)).setBox (r := w.heap.size + 1) (j := 4) (by have := N2.out; omega) (.slice a3 tn c3))
  have hsz : E3.heap.size ≤ (((((E3.setCell ⟨w.heap.size + 1, 0, none⟩ (.int .i64 f)).setCell ⟨w.heap.size + 1, 1, none⟩ (.int .i64 e)).setCell ⟨w.heap.size + 1, 2, none⟩ (.slice a1 sn c1)).setCell ⟨w.heap.size + 1, 3, none⟩ (.slice a2 ln c2)).setCell ⟨w.heap.size + 1, 4, none⟩ (.slice a3 tn c3)).heap.size := by simp
  obtain ⟨⟨u0, u1, u2, u3, u4⟩, uf⟩ := HZ3.out
  have uf0 := uf 0
  have uf1 := uf 1
  have uf2 := uf 2
  have uf3 := uf 3
  have uf4 := uf 4
  obtain ⟨FW, hFW⟩ : ∃ F, (((((E3.setCell ⟨w.heap.size + 1, 0, none⟩ (.int .i64 f)).setCell ⟨w.heap.size + 1, 1, none⟩ (.int .i64 e)).setCell ⟨w.heap.size + 1, 2, none⟩ (.slice a1 sn c1)).setCell ⟨w.heap.size + 1, 3, none⟩ (.slice a2 ln c2)).setCell ⟨w.heap.size + 1, 4, none⟩ (.slice a3 tn c3)) = F := ⟨_, rfl⟩
  rw [hFW] at hZF hBF hSF hR2 hR3 hsz
  obtain ⟨⟨t0, t1, t2, t3, t4⟩, _⟩ := hZF
  have HBF : Hid (Below w.heap.size w FW) := hBF
  have HOB : Hid (OwnBd FW w.heap.size FW.heap.size (.slice a1 sn c1) (.slice a2 ln c2) (.slice a3 tn c3) ⟨f, e, sg, li, ls⟩) := by
    have n1 := N1.out
    have n2 := N2.out
    have n3 := N3.out
    have m3 := M3.out
    refine ⟨⟨_, hSF.mono (by omega) (fun _ h => h), fun k hk => by omega, fun k h => ?_, fun k h => ?_⟩, hR2.mono (by omega), hR3.mono (by omega), ?_⟩
    · have := I2.out k h; omega
    · have := I3.out k h; omega
    · exact own_sep I2.out I3.out (by omega)
  clear hBF hSF hR2 hR3 uf HZ3 HX3 HO3 HB3 S3 R2_3 R3_3
  go_wp2
  refine bodyPost_ret (v := .agg #[.int .i64 f, .int .i64 e, .slice a1 sn c1, .slice a2 ln c2, .slice a3 tn c3]) (by simp [results, Try.results42, go_sem, t0, t1, t2, t3, t4]; try rfl) rfl ?_
  exact ⟨_, _, _, _, _, _, rfl, HOB.out, HBF.out⟩

end Go.Proofs.Ytaokmjbhgkfnfaa
