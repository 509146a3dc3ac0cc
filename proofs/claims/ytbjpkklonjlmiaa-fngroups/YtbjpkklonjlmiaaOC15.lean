/- Chapter 15: OtherCoins of the program. -/
import Derived.Test.YtbjpkklonjlmiaaCT15
namespace Go.Proofs.Ytbjpkklonjlmiaa
set_option linter.unusedVariables false
set_option maxRecDepth 1000000
set_option linter.unusedSimpArgs false
open Go.RowKit Go.Sort

/-- The coins of a way, other by a word. -/
def flipL (cs : List Int) (way : List Int) (x : Int) : List Int := way.foldl (fun l k => l.set k.toNat (xr (l.getD k.toNat 0) x)) cs
theorem flipL_length (x : Int) : ∀ (way cs : List Int), (flipL cs way x).length = cs.length
  | [], _ => rfl
  | k :: r, cs => by
    show (flipL (cs.set k.toNat (xr (cs.getD k.toNat 0) x)) r x).length = _
    rw [flipL_length x r, List.length_set]
theorem flipL_take {cs way : List Int} {x : Int} {k : Nat} (h : k < way.length) : flipL cs (way.take (k + 1)) x = (flipL cs (way.take k) x).set (way.getD k 0).toNat (xr ((flipL cs (way.take k) x).getD (way.getD k 0).toNat 0) x) := by
  rw [take_snoc 0 h]
  unfold flipL
  rw [List.foldl_append]
  rfl
def othB (t : TbV) (a b x : Int) : Bool := wayB t a b && byB x
def othV (t : TbV) (a b x : Int) : TbV := if othB t a b x = true then ⟨t.s, t.ps, flipL t.cs (wayV t a b) x⟩ else ⟨0, [], []⟩
theorem wayV_mem {t : TbV} {a b x : Int} (h : x ∈ wayV t a b) : 0 ≤ x ∧ x < t.ps.length := by
  unfold wayV at h
  split at h
  · exact wayF_mem _ _ _ _ _ x h
  · simp at h
theorem wayB_good {t : TbV} {a b : Int} (h : wayB t a b = true) : GoodT t := by
  unfold wayB at h
  rw [Bool.and_eq_true, twoB_eq, Bool.and_eq_true] at h
  exact goodTb_iff t h.1.1

/-- What a call that tells a table and a bool tells. -/
def TellT (r : Ending) (w w' : World) (b : TbV) (fb : Bool) : Prop := ∃ sa' sc' la' lc', r = .returned (.tuple #[.agg #[.int .i64 b.s, .slice sa' b.ps.length sc', .slice la' b.cs.length lc'], .bool fb]) ∧ OwnTb w' w.heap.size w'.heap.size (.slice sa' b.ps.length sc') (.slice la' b.cs.length lc') b ∧ Below w.heap.size w w'
theorem tellT_none {w w' : World} (hb : Below w.heap.size w w') : TellT (.returned (.tuple #[.agg #[.int .i64 0, .slice none 0 0, .slice none 0 0], .bool false])) w w' ⟨0, [], []⟩ false :=
  ⟨none, 0, none, 0, rfl, ⟨⟨fun _ => False, nilIP w' w.heap.size _, fun k h => h.elim, fun k h => by simp [Value.ownBlock] at h⟩, World.ownsRow_nil _ _ _ _⟩, hb⟩
theorem OwnTb.setCoin {w : World} {lo hi : Nat} {S : Value} {g ln lc : Nat} {s : Int} {ps : List (List Int)} {cs : List Int} (h : OwnTb w lo hi S (.slice (some ⟨g, 0, none⟩) ln lc) ⟨s, ps, cs⟩) (j : Nat) (x : Int) : OwnTb (w.setCell ⟨g, j, none⟩ (.int .i64 x)) lo hi S (.slice (some ⟨g, 0, none⟩) ln lc) ⟨s, ps, cs.set j x⟩ := by
  obtain ⟨pp, h1, h2, h3⟩ := h.ex
  exact ⟨⟨pp, h1.setBox (h3 g rfl).1 _, h2, h3⟩, (h.li.set j x).1⟩
theorem OwnTb.setBox {w : World} {lo hi : Nat} {S L : Value} {b : TbV} (h : OwnTb w lo hi S L b) {r j : Nat} (hr : r < lo ∨ hi ≤ r) (u : Value) : OwnTb (w.setCell ⟨r, j, none⟩ u) lo hi S L b :=
  h.rng (qq := fun k => k = r) (RngP.ofGrown (grown_setCell w r j u) (fun k e => by simpa using e.symm)) (fun k h1 h2 e => by omega)

set_option maxHeartbeats 16000000 in
theorem implOth_c (sa : Option Addr) (sn sc : Nat) (la : Option Addr) (ln lc : Nat) (t : TbV) (a b x : Int) (w : World) (h : RdT w sa sn sc la ln lc t) :
    Calls Try.prog 13 #[.agg #[.int .i64 t.s, .slice sa sn sc, .slice la ln lc], .int .i64 a, .int .i64 b, .int .i64 x] w fun e w' => TellT e w w' (othV t a b x) (othB t a b x) := by
  have HX0 : Hid (X3 (w.alloc (.cells #[.int .i64 t.s, .slice sa sn sc, .slice la ln lc] 26)) w.heap.size (.int .i64 t.s) (.slice sa sn sc) (.slice la ln lc)) := x3_new w _ _ _ _ _ rfl
  have HB0 : Hid (Below w.heap.size w (w.alloc (.cells #[.int .i64 t.s, .slice sa sn sc, .slice la ln lc] 26))) := balloc w _
  have HQW : Hid (∀ wx, Below w.heap.size w wx → Calls Try.prog 14 #[.agg #[.int .i64 t.s, .slice sa sn sc, .slice la ln lc], .int .i64 a, .int .i64 b] wx fun e w' => TellI e wx w' (wayV t a b) (wayB t a b)) := fun wx hb => implWay_c sa sn sc la ln lc t a b wx (h.later hb)
  have HQC : Hid (∀ wx, Below w.heap.size w wx → GoodT t → Calls Try.prog 46 #[.agg #[.int .i64 t.s, .slice sa sn sc, .slice la ln lc]] wx fun e w' => ∃ sa' sc' la' lc', e = .returned (.agg #[.int .i64 t.s, .slice sa' sn sc', .slice la' ln lc']) ∧ OwnTb w' wx.heap.size w'.heap.size (.slice sa' sn sc') (.slice la' ln lc') t ∧ Below wx.heap.size wx w') := fun wx hb hg => copyOfTable_c sa sn sc la ln lc t wx (h.later hb) hg
  have HPL : Hid (t.ps.length = sn) := h.rd.sl
  have HCL : Hid (t.cs.length = ln) := h.rd.ll
  have HWM : Hid (∀ y ∈ wayV t a b, 0 ≤ y ∧ y < t.ps.length) := fun y hy => wayV_mem hy
  have HWG : Hid (wayB t a b = true → GoodT t) := wayB_good
  have hws := wayV_short t a b
  obtain ⟨V, hV⟩ : ∃ V, w.alloc (.cells #[.int .i64 t.s, .slice sa sn sc, .slice la ln lc] 26) = V := ⟨_, rfl⟩
  have hVs : w.heap.size + 1 = V.heap.size := by rw [← hV]; simp
  rw [hV] at HX0 HB0
  have hZE := x3_new V (.int .i64 0) (.slice none 0 0) (.slice none 0 0) 26 V.heap.size rfl
  have hbE := balloc V (.cells #[.int .i64 0, .slice none 0 0, .slice none 0 0] 26)
  have hEs : (V.alloc (.cells #[.int .i64 0, .slice none 0 0, .slice none 0 0] 26)).heap.size = V.heap.size + 1 := by simp
  obtain ⟨E, hE⟩ : ∃ E, V.alloc (.cells #[.int .i64 0, .slice none 0 0, .slice none 0 0] 26) = E := ⟨_, rfl⟩
  rw [hE] at hZE hbE hEs
  have HZE : Hid (X3 E V.heap.size (.int .i64 0) (.slice none 0 0) (.slice none 0 0)) := hZE
  have HXE : Hid (X3 E w.heap.size (.int .i64 t.s) (.slice sa sn sc) (.slice la ln lc)) := HX0.out.later hbE
  have HBE : Hid (Below w.heap.size w E) := HB0.out.trans (hbE.mono HB0.out.size)
  have q := HQW.out E HBE.out
  unfold othV othB
  obtain ⟨way, hway⟩ : ∃ way, wayV t a b = way := ⟨_, rfl⟩
  rw [hway] at q HWM hws ⊢
  obtain ⟨wn, hwn⟩ : ∃ wn, way.length = wn := ⟨_, rfl⟩
  unfold TellI at q
  rw [hwn] at q hws
  have HWL : Hid (way.length = wn) := hwn
  obtain ⟨s, hs⟩ : ∃ s, t.s = s := ⟨_, rfl⟩
  rw [hs] at HX0 HXE hV q HQC ⊢
  obtain ⟨⟨f0, f1, f2⟩, _⟩ := HXE.out
  clear hZE hbE HX0 HB0 h hway hwn HQW
  have q3 := fun wx => isWord_c x wx
  cases hwb : wayB t a b
  · rw [Bool.false_and, if_neg (by simp)]
    rw [hwb] at q
    clear hwb HWG
    go_enter Try.func13, Try.ntmps13
    go_wp2_with fail
    refine q.mono ?_
    clear q f0 f1 f2 hV hE
    rintro e w1 ⟨a1, c1, rfl, ho, hb⟩
    have HB1 : Hid (Below w.heap.size w w1) := HBE.out.trans (hb.mono HBE.out.size)
    have HX1 : Hid (X3 w1 w.heap.size (.int .i64 s) (.slice sa sn sc) (.slice la ln lc)) := HXE.out.later hb
    have HZ1 : Hid (X3 w1 V.heap.size (.int .i64 0) (.slice none 0 0) (.slice none 0 0)) := HZE.out.later hb
    have HO1 : Hid (Own w1 E.heap.size (.slice a1 wn c1) way) := ho
    have hs1 : E.heap.size ≤ w1.heap.size := hb.size
    clear ho hb HXE HZE HBE
    have hZ1 := HZ1.out
    have hXF := ((hZ1.set0 (.int .i64 0)).set1 (.slice none 0 0)).set2 (.slice none 0 0)
    have hB3 := ((HB1.out.setCell (p := ⟨V.heap.size, 0, none⟩) (by show w.heap.size ≤ V.heap.size; omega) (.int .i64 0)).setCell (p := ⟨V.heap.size, 1, none⟩) (by show w.heap.size ≤ V.heap.size; omega) (.slice none 0 0)).setCell (p := ⟨V.heap.size, 2, none⟩) (by show w.heap.size ≤ V.heap.size; omega) (.slice none 0 0)
    obtain ⟨⟨z0, z1, z2⟩, zf⟩ := hZ1
    have zf0 := zf 0
    have zf1 := zf 1
    have zf2 := zf 2
    clear zf
    obtain ⟨W3, hW3⟩ : ∃ X, ((w1.setCell ⟨V.heap.size, 0, none⟩ (.int .i64 0)).setCell ⟨V.heap.size, 1, none⟩ (.slice none 0 0)).setCell ⟨V.heap.size, 2, none⟩ (.slice none 0 0) = X := ⟨_, rfl⟩
    rw [hW3] at hXF hB3
    have HB3 : Hid (Below w.heap.size w W3) := hB3
    obtain ⟨⟨e0, e1, e2⟩, _⟩ := hXF
    clear hB3
    go_wp2
    refine bodyPost_ret (v := .tuple #[.agg #[.int .i64 0, .slice none 0 0, .slice none 0 0], .bool false]) (by simp [results, Try.results13, go_sem, e0, e1, e2]; try rfl) rfl ?_
    exact tellT_none HB3.out
  rw [Bool.true_and]
  rw [hwb] at q
  have HG : Hid (GoodT t) := HWG.out hwb
  clear hwb HWG
  cases hby : byB x
  · rw [if_neg (by simp)]
    rw [hby] at q3
    clear hby
    go_enter Try.func13, Try.ntmps13
    go_wp2_with fail
    refine q.mono ?_
    clear q f0 f1 f2 hV hE
    rintro e w1 ⟨a1, c1, rfl, ho, hb⟩
    have HB1 : Hid (Below w.heap.size w w1) := HBE.out.trans (hb.mono HBE.out.size)
    have HX1 : Hid (X3 w1 w.heap.size (.int .i64 s) (.slice sa sn sc) (.slice la ln lc)) := HXE.out.later hb
    have HZ1 : Hid (X3 w1 V.heap.size (.int .i64 0) (.slice none 0 0) (.slice none 0 0)) := HZE.out.later hb
    have HO1 : Hid (Own w1 E.heap.size (.slice a1 wn c1) way) := ho
    have hs1 : E.heap.size ≤ w1.heap.size := hb.size
    clear ho hb HXE HZE HBE
    have hZ1 := HZ1.out
    have hXF := ((hZ1.set0 (.int .i64 0)).set1 (.slice none 0 0)).set2 (.slice none 0 0)
    have hB3 := ((HB1.out.setCell (p := ⟨V.heap.size, 0, none⟩) (by show w.heap.size ≤ V.heap.size; omega) (.int .i64 0)).setCell (p := ⟨V.heap.size, 1, none⟩) (by show w.heap.size ≤ V.heap.size; omega) (.slice none 0 0)).setCell (p := ⟨V.heap.size, 2, none⟩) (by show w.heap.size ≤ V.heap.size; omega) (.slice none 0 0)
    obtain ⟨⟨z0, z1, z2⟩, zf⟩ := hZ1
    have zf0 := zf 0
    have zf1 := zf 1
    have zf2 := zf 2
    clear zf
    obtain ⟨W3, hW3⟩ : ∃ X, ((w1.setCell ⟨V.heap.size, 0, none⟩ (.int .i64 0)).setCell ⟨V.heap.size, 1, none⟩ (.slice none 0 0)).setCell ⟨V.heap.size, 2, none⟩ (.slice none 0 0) = X := ⟨_, rfl⟩
    rw [hW3] at hXF hB3
    have HB3 : Hid (Below w.heap.size w W3) := hB3
    obtain ⟨⟨e0, e1, e2⟩, _⟩ := hXF
    clear hB3
    go_wp2_with fail
    refine (q3 _).mono ?_
    clear q3
    rintro e w3 ⟨rfl, hw⟩
    have hw2 := hw.symm
    clear hw
    subst hw2
    go_wp2
    refine bodyPost_ret (v := .tuple #[.agg #[.int .i64 0, .slice none 0 0, .slice none 0 0], .bool false]) (by simp [results, Try.results13, go_sem, e0, e1, e2]; try rfl) rfl ?_
    exact tellT_none HB3.out
  rw [if_pos rfl]
  rw [hby] at q3
  have HBY : Hid (byB x = true) := hby
  have HLN : Hid (sn = ln) := by have := HG.out.cl; rw [HPL.out, HCL.out] at this; exact this.symm
  have HCB : Hid (∀ j, j < ln → byB (t.cs.getD j 0) = true) := fun j hj => HG.out.by' j (by rw [HCL.out]; exact hj)
  have hsn15 : sn ≤ 15 := by have := HG.out.pl; rw [HPL.out] at this; exact this
  have hln15 : ln ≤ 15 := by have := HLN.out; omega
  clear hby
  go_enter Try.func13, Try.ntmps13
  go_wp2_with fail
  refine q.mono ?_
  clear q f0 f1 f2 hV hE
  rintro e w1 ⟨a1, c1, rfl, ho, hb⟩
  have HB1 : Hid (Below w.heap.size w w1) := HBE.out.trans (hb.mono HBE.out.size)
  have HX1 : Hid (X3 w1 w.heap.size (.int .i64 s) (.slice sa sn sc) (.slice la ln lc)) := HXE.out.later hb
  have HZ1 : Hid (X3 w1 V.heap.size (.int .i64 0) (.slice none 0 0) (.slice none 0 0)) := HZE.out.later hb
  have HO1 : Hid (Own w1 E.heap.size (.slice a1 wn c1) way) := ho
  have hs1 : E.heap.size ≤ w1.heap.size := hb.size
  clear ho hb HXE HZE HBE
  go_wp2_with fail
  refine (q3 _).mono ?_
  clear q3
  rintro e w3 ⟨rfl, hw⟩
  have hw2 := hw.symm
  clear hw
  subst hw2
  obtain ⟨⟨f0, f1, f2⟩, _⟩ := HX1.out
  go_wp2_with fail
  refine (HQC.out w1 HB1.out HG.out).mono ?_
  clear f0 f1 f2
  rintro e w2 ⟨a2, c2, a3, c3, rfl, ho, hb⟩
  have HT2 : Hid (OwnTb w2 w1.heap.size w2.heap.size (.slice a2 sn c2) (.slice a3 ln c3) t) := ho
  have HB2 : Hid (Below w1.heap.size w1 w2) := hb
  have hs2 : w1.heap.size ≤ w2.heap.size := hb.size
  clear ho hb
  -- the other table
  have hX := x3_new w2 (.int .i64 0) (.slice none 0 0) (.slice none 0 0) 26 w2.heap.size rfl
  have hbU := balloc w2 (.cells #[.int .i64 0, .slice none 0 0, .slice none 0 0] 26)
  obtain ⟨U, hU⟩ : ∃ X, w2.alloc (.cells #[.int .i64 0, .slice none 0 0, .slice none 0 0] 26) = X := ⟨_, rfl⟩
  rw [hU] at hX hbU
  have hXF := ((hX.set0 (.int .i64 s)).set1 (.slice a2 sn c2)).set2 (.slice a3 ln c3)
  have hbV : Below w2.heap.size w2 (((U.setCell ⟨w2.heap.size, 0, none⟩ (.int .i64 s)).setCell ⟨w2.heap.size, 1, none⟩ (.slice a2 sn c2)).setCell ⟨w2.heap.size, 2, none⟩ (.slice a3 ln c3)) := ((hbU.setCell (Nat.le_refl _) _).setCell (Nat.le_refl _) _).setCell (Nat.le_refl _) _
  obtain ⟨⟨c0, c1x, c2x⟩, fz⟩ := hX
  have y0 := fz 0
  have y1 := fz 1
  have y2 := fz 2
  clear fz
  obtain ⟨G, hG⟩ : ∃ X, ((U.setCell ⟨w2.heap.size, 0, none⟩ (.int .i64 s)).setCell ⟨w2.heap.size, 1, none⟩ (.slice a2 sn c2)).setCell ⟨w2.heap.size, 2, none⟩ (.slice a3 ln c3) = X := ⟨_, rfl⟩
  rw [hG] at hXF hbV
  have HXG : Hid (X3 G w2.heap.size (.int .i64 s) (.slice a2 sn c2) (.slice a3 ln c3)) := hXF
  have HTG : Hid (OwnTb G w1.heap.size w2.heap.size (.slice a2 sn c2) (.slice a3 ln c3) ⟨s, t.ps, flipL t.cs (way.take 0) x⟩) := by have h1 := HT2.out.later hbV; rw [List.take_zero]; have e : t = ⟨s, t.ps, t.cs⟩ := (by rw [← hs]); rw [e] at h1; exact h1
  have HBG : Hid (Below w1.heap.size w1 G) := HB2.out.trans (hbV.mono HB2.out.size)
  have hsG : w2.heap.size < G.heap.size := World.block_lt_of_cell? G _ hXF.1.1
  have HBI : Hid (∀ j, j < ln → byB ((flipL t.cs (way.take 0) x).getD j 0) = true) := by rw [List.take_zero]; exact HCB.out
  clear hbU hbV hXF HT2 HB2 HQC HCB
  go_wp2_with fail
  clear hG hU c0 c1x c2x y0 y1 y2
  go_loopw [34] (fun iv wr => ∃ k : Nat, k ≤ wn ∧ iv = .int .i64 k ∧ Hid (OwnTb wr w1.heap.size w2.heap.size (.slice a2 sn c2) (.slice a3 ln c3) ⟨s, t.ps, flipL t.cs (way.take k) x⟩) ∧ Hid (X3 wr w2.heap.size (.int .i64 s) (.slice a2 sn c2) (.slice a3 ln c3)) ∧ Hid (Below w1.heap.size w1 wr) ∧ w2.heap.size < wr.heap.size ∧ Hid (∀ j, j < ln → byB ((flipL t.cs (way.take k) x).getD j 0) = true)) (fun iv _ => wn - (intOf iv).toNat)
  case atStart => exact ⟨0, Nat.zero_le _, rfl, HTG, HXG, HBG, hsG, HBI⟩
  case round =>
    clear HTG HXG HBG hsG HBI
    obtain ⟨k, hk, rfl, HT, HX, HB, hsz, HBI⟩ := hrel
    have HFL : Hid ((flipL t.cs (way.take k) x).length = ln) := by show _ = _; rw [flipL_length, HCL.out]
    obtain ⟨⟨f0, f1, f2⟩, _⟩ := HX.out
    by_cases hlt : k < wn
    case neg =>
      have hkw := Nat.le_antisymm (Nat.not_lt.1 hlt) hk
      have HZR : Hid (X3 wr V.heap.size (.int .i64 0) (.slice none 0 0) (.slice none 0 0)) := HZ1.out.later HB.out
      have hZ2 := HZR.out
      have hXF := ((hZ2.set0 (.int .i64 s)).set1 (.slice a2 sn c2)).set2 (.slice a3 ln c3)
      have hBw : Below w.heap.size w wr := HB1.out.trans (HB.out.mono HB1.out.size)
      have hB3 := ((hBw.setCell (p := ⟨V.heap.size, 0, none⟩) (by show w.heap.size ≤ V.heap.size; omega) (.int .i64 s)).setCell (p := ⟨V.heap.size, 1, none⟩) (by show w.heap.size ≤ V.heap.size; omega) (.slice a2 sn c2)).setCell (p := ⟨V.heap.size, 2, none⟩) (by show w.heap.size ≤ V.heap.size; omega) (.slice a3 ln c3)
      have hT3 := ((HT.out.setBox (r := V.heap.size) (j := 0) (Or.inl (by omega)) (.int .i64 s)).setBox (r := V.heap.size) (j := 1) (Or.inl (by omega)) (.slice a2 sn c2)).setBox (r := V.heap.size) (j := 2) (Or.inl (by omega)) (.slice a3 ln c3)
      have hsz3 : wr.heap.size ≤ (((wr.setCell ⟨V.heap.size, 0, none⟩ (.int .i64 s)).setCell ⟨V.heap.size, 1, none⟩ (.slice a2 sn c2)).setCell ⟨V.heap.size, 2, none⟩ (.slice a3 ln c3)).heap.size := by rw [World.size_setCell, World.size_setCell, World.size_setCell]; exact Nat.le_refl _
      obtain ⟨⟨z0, z1, z2⟩, zf⟩ := hZ2
      have zf0 := zf 0
      have zf1 := zf 1
      have zf2 := zf 2
      clear zf
      obtain ⟨W3, hW3⟩ : ∃ X, ((wr.setCell ⟨V.heap.size, 0, none⟩ (.int .i64 s)).setCell ⟨V.heap.size, 1, none⟩ (.slice a2 sn c2)).setCell ⟨V.heap.size, 2, none⟩ (.slice a3 ln c3) = X := ⟨_, rfl⟩
      rw [hW3] at hXF hB3 hT3 hsz3
      rw [← hkw, List.take_of_length_le (by rw [HWL.out]; exact Nat.le_refl _)] at hT3
      have HT3 : Hid (OwnTb W3 w.heap.size W3.heap.size (.slice a2 sn c2) (.slice a3 ln c3) ⟨s, t.ps, flipL t.cs way x⟩) := hT3.mono (by omega) (by omega)
      have HB3 : Hid (Below w.heap.size w W3) := hB3
      obtain ⟨⟨e0, e1, e2⟩, _⟩ := hXF
      have hge : ¬ (k : Int) < (wn : Int) := by omega
      clear hB3 hT3 HT hkw
      go_wp2
      refine bodyPost_ret (v := .tuple #[.agg #[.int .i64 s, .slice a2 sn c2, .slice a3 ln c3], .bool true]) (by simp [results, Try.results13, go_sem, e0, e1, e2]; try rfl) rfl ?_
      refine ⟨a2, c2, a3, c3, ?_, ?_, HB3.out⟩
      · show _ = Ending.returned (.tuple #[.agg #[.int .i64 s, .slice a2 t.ps.length c2, .slice a3 (flipL t.cs way x).length c3], .bool true])
        rw [HPL.out, flipL_length, HCL.out]
      · show OwnTb _ _ _ (.slice a2 t.ps.length c2) (.slice a3 (flipL t.cs way x).length c3) _
        rw [HPL.out, flipL_length, HCL.out]
        exact HT3.out
    have hkl : k < way.length := by rw [HWL.out]; exact hlt
    obtain ⟨wb, wo, rfl, gw⟩ := (HO1.out.later HB.out).rd'.2.get hkl
    have hwm := HWM.out _ (mem_getD 0 hkl)
    have hft := flipL_take (cs := t.cs) (x := x) hkl
    generalize way.getD k 0 = y at gw hwm hft
    obtain ⟨p, rfl⟩ : ∃ p : Nat, y = (p : Int) := ⟨y.toNat, by omega⟩
    have hpl : p < ln := by have := HLN.out; have := HPL.out; omega
    rcases HT.out.li.addr with ⟨_, h0, _⟩ | ⟨g, rfl, hg1, hg2⟩
    · exfalso; omega
    have hgb : g < w2.heap.size := by obtain ⟨pp, _, _, h3⟩ := HT.out.ex; exact (h3 g rfl).2
    rw [Int.toNat_natCast] at hft
    have gs := Own.cell (g := g) (cap := c3) (xs := flipL t.cs (way.take k) x) (by rw [HFL.out]; exact HT.out.li) p (by rw [HFL.out]; exact hpl)
    have hfz := Own.free (g := g) (cap := c3) (xs := flipL t.cs (way.take k) x) (by rw [HFL.out]; exact HT.out.li) p
    have hsb := HBI.out p hpl
    have hxr := bits_xr hsb HBY.out
    have hxb := xr_by hsb HBY.out
    have HFT : Hid (flipL t.cs (way.take (k + 1)) x = (flipL t.cs (way.take k) x).set p (xr ((flipL t.cs (way.take k) x).getD p 0) x)) := hft
    generalize flipL t.cs (way.take k) x = F at HT HFL HBI gs hfz hsb hxr hxb HFT
    generalize F.getD p 0 = v at gs hxr hxb HFT
    generalize xr v x = z at hxr hxb HFT
    have HBI2 : Hid (∀ j, j < ln → byB ((flipL t.cs (way.take (k + 1)) x).getD j 0) = true) := fun j hj => by
        rw [HFT.out, getD_set9 _ _ _ _ (by rw [HFL.out]; exact hpl)]
        split
        · exact hxb
        · exact HBI.out j hj
    have HT3 : Hid (OwnTb (wr.setCell ⟨g, p, none⟩ (.int .i64 z)) w1.heap.size w2.heap.size (.slice a2 sn c2) (.slice (some ⟨g, 0, none⟩) ln c3) ⟨s, t.ps, flipL t.cs (way.take (k + 1)) x⟩) := by show OwnTb _ _ _ _ _ _; rw [HFT.out]; exact HT.out.setCoin p z
    have HX3 : Hid (X3 (wr.setCell ⟨g, p, none⟩ (.int .i64 z)) w2.heap.size (.int .i64 s) (.slice a2 sn c2) (.slice (some ⟨g, 0, none⟩) ln c3)) := HX.out.other (by omega)
    have HB3 : Hid (Below w1.heap.size w1 (wr.setCell ⟨g, p, none⟩ (.int .i64 z))) := HB.out.setCell (by show _ ≤ g; omega) _
    have hsz3 : w2.heap.size < (wr.setCell ⟨g, p, none⟩ (.int .i64 z)).heap.size := by rw [World.size_setCell]; exact hsz
    have k0 : (0 : Int) ≤ (k : Int) := by omega
    have k1 : (k : Int) < (wn : Int) := by omega
    have p0 : (0 : Int) ≤ (p : Int) := by omega
    have p1 : (p : Int) < (ln : Int) := by omega
    clear hkl hwm hft hsb hxb HT HX HB HFT HBI
    go_wp2
    go_roundw
    case rel => exact ⟨k + 1, by omega, by go_num, HT3, HX3, HB3, hsz3, HBI2⟩
    case measure => simp [intOf]; omega

end Go.Proofs.Ytbjpkklonjlmiaa
