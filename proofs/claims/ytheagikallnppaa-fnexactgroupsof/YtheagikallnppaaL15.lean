/- Chapter 15: the laws' own functions over a table. -/
import Derived.Test.YtheagikallnppaaPU15
import Derived.Test.YtheagikallnppaaP15
namespace Go.Proofs.Ytheagikallnppaa
set_option linter.unusedVariables false
set_option maxRecDepth 1000000
set_option linter.unusedSimpArgs false
open Go.RowKit

theorem OwnIP.setBox {w : World} {lo : Nat} {pp : Nat → Prop} {v : Value} {xss : List (List Int)} (h : OwnIP w lo pp v xss) {r j : Nat} (hr : ¬ pp r) (u : Value) : OwnIP (w.setCell ⟨r, j, none⟩ u) lo pp v xss :=
  h.rng (qq := fun k => k = r) (RngP.ofGrown (grown_setCell w r j u) (fun k e => by simpa using e.symm)) (fun k hk e => hr (e ▸ hk))

/-- A table of the call's own: its rows lie from lo up to hi, none of them shared. -/
structure OwnTb (w : World) (lo hi : Nat) (S L : Value) (b : TbV) : Prop where
  ex : ∃ pp : Nat → Prop, OwnIP w lo pp S b.ps ∧ (∀ k, pp k → lo ≤ k ∧ k < hi) ∧ (∀ k, L.ownBlock = some k → ¬ pp k ∧ k < hi)
  li : Own w lo L b.cs
theorem OwnTb.later {w w' : World} {lo hi : Nat} {S L : Value} {b : TbV} (h : OwnTb w lo hi S L b) (hb : Below w.heap.size w w') : OwnTb w' lo hi S L b := by
  obtain ⟨pp, h1, h2, h3⟩ := h.ex
  exact ⟨⟨pp, h1.later hb, h2, h3⟩, h.li.later hb⟩
theorem OwnTb.rng {w w' : World} {lo hi : Nat} {qq : Nat → Prop} {S L : Value} {b : TbV} (h : OwnTb w lo hi S L b) (hr : RngP qq w w') (hd : ∀ k, lo ≤ k → k < hi → ¬ qq k) : OwnTb w' lo hi S L b := by
  obtain ⟨pp, h1, h2, h3⟩ := h.ex
  exact ⟨⟨pp, h1.rng hr (fun k hk => hd k (h2 k hk).1 (h2 k hk).2), h2, h3⟩, h.li.rngP hr (fun k e => hd k (own_block_ge h.li k e) (h3 k e).2)⟩
theorem OwnTb.mono {w : World} {lo hi lo' hi' : Nat} {S L : Value} {b : TbV} (h : OwnTb w lo hi S L b) (h1 : lo' ≤ lo) (h2 : hi ≤ hi') : OwnTb w lo' hi' S L b := by
  obtain ⟨pp, g1, g2, g3⟩ := h.ex
  exact ⟨⟨pp, g1.mono h1 (fun _ h => h), fun k hk => by have := g2 k hk; omega, fun k e => ⟨(g3 k e).1, by have := (g3 k e).2; omega⟩⟩, h.li.mono h1⟩
/-- What of a table is read. -/
structure RdTb (w : World) (sa : Option Addr) (sn sc : Nat) (la : Option Addr) (ln lc : Nat) (b : TbV) : Prop where
  sl : b.ps.length = sn
  ll : b.cs.length = ln
  s : RdNN w sa b.ps
  l : Rd w la b.cs
  cp : sn ≤ sc
  sz : sa = none → sn = 0 ∧ sc = 0
  lz : la = none → ln = 0 ∧ lc = 0
theorem RdTb.later {w w' : World} {sa : Option Addr} {sn sc : Nat} {la : Option Addr} {ln lc : Nat} {b : TbV} (h : RdTb w sa sn sc la ln lc b) (hb : Below w.heap.size w w') : RdTb w' sa sn sc la ln lc b := ⟨h.sl, h.ll, h.s.later hb, h.l.later hb, h.cp, h.sz, h.lz⟩
theorem OwnTb.rd {w : World} {lo hi : Nat} {sa : Option Addr} {sn sc : Nat} {la : Option Addr} {ln lc : Nat} {b : TbV} (h : OwnTb w lo hi (.slice sa sn sc) (.slice la ln lc) b) : RdTb w sa sn sc la ln lc b := by
  obtain ⟨pp, h1, _, _⟩ := h.ex
  have hnn := h1.nn
  obtain ⟨ao, c, e1, e2, e3⟩ := h1.toS.rd
  simp only [Value.slice.injEq] at e1
  obtain ⟨rfl, rfl, rfl⟩ := e1
  obtain ⟨vs, hvl, ho, _⟩ := h1
  have hc : b.ps.length ≤ sc := by
    rcases ho.2 with ⟨h0, hz⟩ | ⟨g, cap, cur, hv, _, _, hcm, _⟩
    · omega
    · simp only [Value.slice.injEq] at hv
      obtain ⟨_, _, rfl⟩ := hv
      exact hcm
  exact ⟨rfl, h.li.rd'.1, hnn, h.li.rd'.2, hc, e3, h.li.nil⟩
/-- Tables of the call's own are slices of their lengths. -/
theorem OwnTb.form {w : World} {lo hi : Nat} {S L : Value} {b : TbV} (h : OwnTb w lo hi S L b) : ∃ sa sc la lc, S = .slice sa b.ps.length sc ∧ L = .slice la b.cs.length lc := by
  obtain ⟨pp, h1, _, _⟩ := h.ex
  obtain ⟨ao, c, e1, _, _⟩ := h1.toS.rd
  obtain ⟨la, lc, e2⟩ := h.li.shape
  exact ⟨ao, c, la, lc, e1, e2⟩

set_option maxHeartbeats 2000000 in
theorem toTable_c (f : Int) (sa : Option Addr) (sn sc : Nat) (la : Option Addr) (ln lc : Nat) (ps : List (List Int)) (cs : List Int) (w : World) (hs : ps.length = sn) (hsn : sn ≤ 1048576) (hl : cs.length = ln) (hln : ln ≤ 1048576) (hrs : RdII w sa ps) (hrl : Rd w la cs) (hsl : ∀ l ∈ ps, l.length ≤ 1048576) :
    Calls Try.prog 40 #[.agg #[.int .i64 f, .slice sa sn sc, .slice la ln lc]] w fun x w' => ∃ sa' sc' la' lc', x = .returned (.agg #[.int .i64 f, .slice sa' sn sc', .slice la' ln lc']) ∧ OwnTb w' w.heap.size w'.heap.size (.slice sa' sn sc') (.slice la' ln lc') ⟨f, ps, cs⟩ ∧ Below w.heap.size w w' := by
  have HSL : Hid (∀ l ∈ ps, l.length ≤ 1048576) := hsl
  have HRS : Hid (∀ wx, Below w.heap.size w wx → RdII wx sa ps) := fun wx h => hrs.later h
  have HRL : Hid (∀ wx, Below w.heap.size w wx → Rd wx la cs) := fun wx h => hrl.later h
  have HX0 : Hid (X3 (((w.alloc (.cells #[.int .i64 f, .slice sa sn sc, .slice la ln lc] 50)).alloc (.cells #[.int .i64 0, .slice none 0 0, .slice none 0 0] 26)).alloc (.cells #[.int .i64 f, .slice none 0 0, .slice none 0 0] 26)) w.heap.size (.int .i64 f) (.slice sa sn sc) (.slice la ln lc)) := ((x3_new w (.int .i64 f) (.slice sa sn sc) (.slice la ln lc) 50 w.heap.size rfl).later (balloc _ _)).later (balloc _ _)
  have HZ0 : Hid (X3 (((w.alloc (.cells #[.int .i64 f, .slice sa sn sc, .slice la ln lc] 50)).alloc (.cells #[.int .i64 0, .slice none 0 0, .slice none 0 0] 26)).alloc (.cells #[.int .i64 f, .slice none 0 0, .slice none 0 0] 26)) (w.heap.size + 1) (.int .i64 0) (.slice none 0 0) (.slice none 0 0)) := (x3_new _ _ _ _ 26 _ (by simp)).later (balloc _ _)
  have HO0 : Hid (X3 (((w.alloc (.cells #[.int .i64 f, .slice sa sn sc, .slice la ln lc] 50)).alloc (.cells #[.int .i64 0, .slice none 0 0, .slice none 0 0] 26)).alloc (.cells #[.int .i64 f, .slice none 0 0, .slice none 0 0] 26)) (w.heap.size + 2) (.int .i64 f) (.slice none 0 0) (.slice none 0 0)) := x3_new _ _ _ _ 26 _ (by simp)
  have HB0 : Hid (Below w.heap.size w (((w.alloc (.cells #[.int .i64 f, .slice sa sn sc, .slice la ln lc] 50)).alloc (.cells #[.int .i64 0, .slice none 0 0, .slice none 0 0] 26)).alloc (.cells #[.int .i64 f, .slice none 0 0, .slice none 0 0] 26))) := ((balloc w _).alloc (balloc w _).size _).alloc ((balloc w _).alloc (balloc w _).size _).size _
  have HN0 : Hid ((((w.alloc (.cells #[.int .i64 f, .slice sa sn sc, .slice la ln lc] 50)).alloc (.cells #[.int .i64 0, .slice none 0 0, .slice none 0 0] 26)).alloc (.cells #[.int .i64 f, .slice none 0 0, .slice none 0 0] 26)).heap.size = w.heap.size + 3) := by show _ = _; simp
  have q1 := toII_c sa sn sc ps (((w.alloc (.cells #[.int .i64 f, .slice sa sn sc, .slice la ln lc] 50)).alloc (.cells #[.int .i64 0, .slice none 0 0, .slice none 0 0] 26)).alloc (.cells #[.int .i64 f, .slice none 0 0, .slice none 0 0] 26)) hs hsn hsl (HRS.out _ HB0.out)
  have q2 := fun wx h => toIntS_c la ln lc cs wx hl (by omega) (HRL.out wx h)
  clear hs hl hsl hrs hrl
  go_enter Try.func40, Try.ntmps40
  go_wp2_with fail
  refine q1.mono ?_
  clear q1
  rintro x w1 ⟨a1, c1, rfl, ho, hb⟩
  have HXn : Hid (X3 w1 w.heap.size (.int .i64 f) (.slice sa sn sc) (.slice la ln lc)) := HX0.out.later hb
  have HZn : Hid (X3 w1 (w.heap.size + 1) (.int .i64 0) (.slice none 0 0) (.slice none 0 0)) := HZ0.out.later hb
  have HOn : Hid (X3 w1 (w.heap.size + 2) (.int .i64 f) (.slice none 0 0) (.slice none 0 0)) := HO0.out.later hb
  have HBn : Hid (Below w.heap.size w w1) := HB0.out.trans (hb.mono HB0.out.size)
  have hzn : (((w.alloc (.cells #[.int .i64 f, .slice sa sn sc, .slice la ln lc] 50)).alloc (.cells #[.int .i64 0, .slice none 0 0, .slice none 0 0] 26)).alloc (.cells #[.int .i64 f, .slice none 0 0, .slice none 0 0] 26)).heap.size ≤ w1.heap.size := hb.size
  have HX1 : Hid (X3 (w1.setCell ⟨w.heap.size + 2, 1, none⟩ (.slice a1 sn c1)) w.heap.size (.int .i64 f) (.slice sa sn sc) (.slice la ln lc)) := HXn.out.other (by omega)
  have HZ1 : Hid (X3 (w1.setCell ⟨w.heap.size + 2, 1, none⟩ (.slice a1 sn c1)) (w.heap.size + 1) (.int .i64 0) (.slice none 0 0) (.slice none 0 0)) := HZn.out.other (by omega)
  have HO1 : Hid (X3 (w1.setCell ⟨w.heap.size + 2, 1, none⟩ (.slice a1 sn c1)) (w.heap.size + 2) (.int .i64 f) (.slice a1 sn c1) (.slice none 0 0)) := HOn.out.set1 _
  have HB1 : Hid (Below w.heap.size w (w1.setCell ⟨w.heap.size + 2, 1, none⟩ (.slice a1 sn c1))) := HBn.out.setCell (by show w.heap.size ≤ w.heap.size + 2; omega) _
  have hge : w1.heap.size ≤ (w1.setCell ⟨w.heap.size + 2, 1, none⟩ (.slice a1 sn c1)).heap.size := (grown_setCell _ _ _ _).size
  have hS := ho.toP.mono (lo' := w.heap.size + 3) (qq := fun k => w.heap.size + 3 ≤ k ∧ k < w1.heap.size) (by have := HN0.out; omega) (fun k h => by have := HN0.out; omega)
  have S1 : Hid (OwnIP (w1.setCell ⟨w.heap.size + 2, 1, none⟩ (.slice a1 sn c1)) (w.heap.size + 3) (fun k => w.heap.size + 3 ≤ k ∧ k < w1.heap.size) (.slice a1 sn c1) ps) := hS.setBox (by omega) _
  have N1 : Hid (w.heap.size + 3 ≤ w1.heap.size) := by show _ ≤ _; have := HN0.out; omega
  obtain ⟨E1, hE⟩ : ∃ E, w1.setCell ⟨w.heap.size + 2, 1, none⟩ (.slice a1 sn c1) = E := ⟨_, rfl⟩
  rw [hE] at HX1 HZ1 HO1 HB1 hge S1
  have M1 : Hid (w1.heap.size ≤ E1.heap.size) := hge
  obtain ⟨⟨x0, x1, x2⟩, _⟩ := HX1.out
  obtain ⟨⟨o0, o1, o2⟩, of⟩ := HOn.out
  have ofn := of 1
  clear of hge hzn ho hb HXn HZn HBn hS
  clear HX0 HZ0 HO0 HB0
  go_wp2_with fail
  clear hE x0 x1 x2 o0 o1 o2 ofn HOn
  refine (q2 _ HB1.out).mono ?_
  clear q2
  rintro x w2 ⟨a2, c2, rfl, ho, hb⟩
  have HZn : Hid (X3 w2 (w.heap.size + 1) (.int .i64 0) (.slice none 0 0) (.slice none 0 0)) := HZ1.out.later hb
  have HOn : Hid (X3 w2 (w.heap.size + 2) (.int .i64 f) (.slice a1 sn c1) (.slice none 0 0)) := HO1.out.later hb
  have HBn : Hid (Below w.heap.size w w2) := HB1.out.trans (hb.mono HB1.out.size)
  have HO2 : Hid (X3 (w2.setCell ⟨w.heap.size + 2, 2, none⟩ (.slice a2 ln c2)) (w.heap.size + 2) (.int .i64 f) (.slice a1 sn c1) (.slice a2 ln c2)) := HOn.out.set2 _
  have HZ2 : Hid (X3 (w2.setCell ⟨w.heap.size + 2, 2, none⟩ (.slice a2 ln c2)) (w.heap.size + 1) (.int .i64 0) (.slice none 0 0) (.slice none 0 0)) := HZn.out.other (by omega)
  have HB2 : Hid (Below w.heap.size w (w2.setCell ⟨w.heap.size + 2, 2, none⟩ (.slice a2 ln c2))) := HBn.out.setCell (by show w.heap.size ≤ w.heap.size + 2; omega) _
  have hge : w2.heap.size ≤ (w2.setCell ⟨w.heap.size + 2, 2, none⟩ (.slice a2 ln c2)).heap.size := (grown_setCell _ _ _ _).size
  have S2 : Hid (OwnIP (w2.setCell ⟨w.heap.size + 2, 2, none⟩ (.slice a2 ln c2)) (w.heap.size + 3) (fun k => w.heap.size + 3 ≤ k ∧ k < w1.heap.size) (.slice a1 sn c1) ps) := (S1.out.later hb).setBox (by omega) _
  have hR := ho.mono (show w1.heap.size ≤ E1.heap.size from M1.out)
  have R2 : Hid (Own (w2.setCell ⟨w.heap.size + 2, 2, none⟩ (.slice a2 ln c2)) w1.heap.size (.slice a2 ln c2) cs) := hR.setBox (by have := N1.out; omega) _
  have I2 : Hid (∀ k, (Value.slice a2 ln c2).ownBlock = some k → w1.heap.size ≤ k ∧ k < w2.heap.size) := fun k h => ⟨own_block_ge hR k h, (World.ownsRow.lt ho k h).2⟩
  have N2 : Hid (w.heap.size + 3 ≤ w1.heap.size ∧ w1.heap.size ≤ w2.heap.size) := by show _ ∧ _; have h8 := N1.out; have h9 := M1.out; have h7 := hb.size; omega
  obtain ⟨E2, hE⟩ : ∃ E, w2.setCell ⟨w.heap.size + 2, 2, none⟩ (.slice a2 ln c2) = E := ⟨_, rfl⟩
  rw [hE] at HO2 HZ2 HB2 hge S2 R2
  have M2 : Hid (w2.heap.size ≤ E2.heap.size) := hge
  obtain ⟨⟨o0, o1, o2⟩, of⟩ := HOn.out
  obtain ⟨⟨v0, v1, v2⟩, _⟩ := HO2.out
  have ofn := of 2
  clear of ho hb HBn hR HOn HZn
  have hZF := ((HZ2.out.set0 (.int .i64 f)).set1 (.slice a1 sn c1)).set2 (.slice a2 ln c2)
  have hBF : Below w.heap.size w (((E2.setCell ⟨w.heap.size + 1, 0, none⟩ (.int .i64 f)).setCell ⟨w.heap.size + 1, 1, none⟩ (.slice a1 sn c1)).setCell ⟨w.heap.size + 1, 2, none⟩ (.slice a2 ln c2)) := ((HB2.out.setCell (by show w.heap.size ≤ w.heap.size + 1; omega) _).setCell (by show w.heap.size ≤ w.heap.size + 1; omega) _).setCell (by show w.heap.size ≤ w.heap.size + 1; omega) _
  have hSF := ((S2.out.setBox (r := w.heap.size + 1) (j := 0) (by omega) (.int .i64 f)).setBox (r := w.heap.size + 1) (j := 1) (by omega) (.slice a1 sn c1)).setBox (r := w.heap.size + 1) (j := 2) (by omega) (.slice a2 ln c2)
  have hR2 := ((R2.out.setBox (r := w.heap.size + 1) (j := 0) (by have := N1.out; omega) (.int .i64 f)).setBox (r := w.heap.size + 1) (j := 1) (by have := N1.out; omega) (.slice a1 sn c1)).setBox (r := w.heap.size + 1) (j := 2) (by have := N1.out; omega) (.slice a2 ln c2)
  have hsz : E2.heap.size ≤ (((E2.setCell ⟨w.heap.size + 1, 0, none⟩ (.int .i64 f)).setCell ⟨w.heap.size + 1, 1, none⟩ (.slice a1 sn c1)).setCell ⟨w.heap.size + 1, 2, none⟩ (.slice a2 ln c2)).heap.size := by simp
  obtain ⟨⟨u0, u1, u2⟩, uf⟩ := HZ2.out
  have uf0 := uf 0
  have uf1 := uf 1
  have uf2 := uf 2
  obtain ⟨FW, hFW⟩ : ∃ F, ((E2.setCell ⟨w.heap.size + 1, 0, none⟩ (.int .i64 f)).setCell ⟨w.heap.size + 1, 1, none⟩ (.slice a1 sn c1)).setCell ⟨w.heap.size + 1, 2, none⟩ (.slice a2 ln c2) = F := ⟨_, rfl⟩
  rw [hFW] at hZF hBF hSF hR2 hsz
  obtain ⟨⟨t0, t1, t2⟩, _⟩ := hZF
  have HBF : Hid (Below w.heap.size w FW) := hBF
  have HOB : Hid (OwnTb FW w.heap.size FW.heap.size (.slice a1 sn c1) (.slice a2 ln c2) ⟨f, ps, cs⟩) := by
    have n2 := N2.out
    have m2 := M2.out
    refine ⟨⟨_, hSF.mono (by omega) (fun _ h => h), fun k hk => by omega, fun k h => ?_⟩, hR2.mono (by omega)⟩
    have := I2.out k h; omega
  clear hBF hSF hR2 uf HZ2 HO2 HB2 S2 R2
  go_wp2
  refine bodyPost_ret (v := .agg #[.int .i64 f, .slice a1 sn c1, .slice a2 ln c2]) (by simp [results, Try.results40, go_sem, t0, t1, t2]; try rfl) rfl ?_
  exact ⟨_, _, _, _, rfl, HOB.out, HBF.out⟩

end Go.Proofs.Ytheagikallnppaa
