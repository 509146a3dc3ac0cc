/- Chapter 15: OtherCoins of the specification. -/
import Derived.Test.YtbjpkklonjlmiaaOC15
import Derived.Test.YtbjpkklonjlmiaaSWB15
namespace Go.Proofs.Ytbjpkklonjlmiaa
set_option linter.unusedVariables false
set_option maxRecDepth 1000000
set_option linter.unusedSimpArgs false
open Go.RowKit Go.Sort

theorem l15WayV_c (sa : Option Addr) (sn sc : Nat) (la : Option Addr) (ln lc : Nat) (t : TbV) (a b : Int) (w : World) (h : RdT w sa sn sc la ln lc t) (htw : twoB t a b = true) :
    Calls Try.prog 52 #[.agg #[.int .i64 t.s, .slice sa sn sc, .slice la ln lc], .int .i64 a, .int .i64 b] w fun e w' => TellI e w w' (wayV t a b) (wayB t a b) := by
  have htw2 := htw
  rw [twoB_eq, Bool.and_eq_true, Bool.and_eq_true] at htw2
  have hg := goodTb_iff t htw2.1
  obtain ⟨n, hn⟩ : ∃ n : Nat, t.s = (n : Int) := ⟨t.s.toNat, by have := hg.s1; omega⟩
  have ha2 : 0 ≤ a ∧ a < n := by have := htw2.2.1; unfold seatB at this; rw [hn] at this; exact of_decide_eq_true this
  have hb2 : 0 ≤ b ∧ b < n := by have := htw2.2.2; unfold seatB at this; rw [hn] at this; exact of_decide_eq_true this
  obtain ⟨i, rfl⟩ : ∃ i : Nat, a = (i : Int) := ⟨a.toNat, by omega⟩
  obtain ⟨j, rfl⟩ : ∃ j : Nat, b = (j : Int) := ⟨b.toNat, by omega⟩
  have q := l15Way_c sa sn sc la ln lc t i j n w h hg hn (by omega) (by omega)
  have hok : FarOk (stT t.ps t.ps.length) n j n (farT t j) := by
    have h2 := hg.stB (Nat.le_refl t.ps.length)
    unfold farT farL
    rw [hn, Int.toNat_natCast] at h2 ⊢
    exact farN_ok h2 (by omega) n
  have hlo := hok.lo i (by omega)
  have hd : wayB t i j = decide (0 ≤ (farT t j).getD i 0) := by
    unfold wayB
    rw [htw, Bool.true_and, Int.toNat_natCast, Int.toNat_natCast, decide_eq_decide]
    omega
  have hv : wayV t i j = if 0 ≤ (farT t j).getD i 0 then wayL t.ps (farT t j) n i else [] := by
    unfold wayV
    rw [hd, Int.toNat_natCast, Int.toNat_natCast, hn, Int.toNat_natCast]
    simp only [decide_eq_true_eq]
  rw [hd, hv]
  exact q
theorem wayB_two {t : TbV} {a b : Int} (h : twoB t a b = false) : wayB t a b = false := by unfold wayB; rw [h]; rfl
theorem own_box15 {w : World} {base : Nat} {v : Value} {xs : List Int} {r : Nat} {cs : Array Value} {fr : Nat × Nat} (h : Own w base v xs) (hb : w.heap[r]? = some (.cells cs 26 fr)) : v.ownBlock ≠ some r := by
  intro e
  rcases h.2 with ⟨rfl, _⟩ | ⟨g, cap, cur, rfl, _, hg, _⟩
  · simp [Value.ownBlock] at e
  · simp only [Value.ownBlock, Option.some.injEq] at e
    subst e
    rw [hb] at hg
    simp at hg
theorem box_obj15 (w : World) (cs : Array Value) : (w.alloc (.cells cs 26)).heap[w.heap.size]? = some (.cells cs 26 (0, 0)) := by
  show (w.heap.push _)[w.heap.size]? = _
  simp

set_option maxHeartbeats 16000000 in
theorem specOth_c (sa : Option Addr) (sn sc : Nat) (la : Option Addr) (ln lc : Nat) (t : TbV) (a b x : Int) (w : World) (h : RdT w sa sn sc la ln lc t) :
    Calls Try.prog 16 #[.agg #[.int .i64 t.s, .slice sa sn sc, .slice la ln lc], .int .i64 a, .int .i64 b, .int .i64 x] w fun e w' => TellT e w w' (othV t a b x) (othB t a b x) := by
  have HX0 : Hid (X3 (w.alloc (.cells #[.int .i64 t.s, .slice sa sn sc, .slice la ln lc] 26)) w.heap.size (.int .i64 t.s) (.slice sa sn sc) (.slice la ln lc)) := x3_new w _ _ _ _ _ rfl
  have HB0 : Hid (Below w.heap.size w (w.alloc (.cells #[.int .i64 t.s, .slice sa sn sc, .slice la ln lc] 26))) := balloc w _
  have HR : Hid (∀ wx, Below w.heap.size w wx → RdT wx sa sn sc la ln lc t) := fun wx hb => h.later hb
  have HQW : Hid (∀ wx, twoB t a b = true → Below w.heap.size w wx → Calls Try.prog 52 #[.agg #[.int .i64 t.s, .slice sa sn sc, .slice la ln lc], .int .i64 a, .int .i64 b] wx fun e w' => TellI e wx w' (wayV t a b) (wayB t a b)) := fun wx h2 hb => l15WayV_c sa sn sc la ln lc t a b wx (h.later hb) h2
  have HPL : Hid (t.ps.length = sn) := h.rd.sl
  have HCL : Hid (t.cs.length = ln) := h.rd.ll
  have HRP : Hid (∀ wx, Below w.heap.size w wx → RdNN wx sa t.ps) := fun wx hb => (h.rd.later hb).s
  have HRL : Hid (∀ wx, Below w.heap.size w wx → Rd wx la t.cs) := fun wx hb => (h.rd.later hb).l
  have HLZ : Hid (la = none → ln = 0 ∧ lc = 0) := h.rd.lz
  have HWM : Hid (∀ y ∈ wayV t a b, 0 ≤ y ∧ y < t.ps.length) := fun y hy => wayV_mem hy
  have HWG : Hid (wayB t a b = true → GoodT t) := wayB_good
  have hws := wayV_short t a b
  obtain ⟨V, hV⟩ : ∃ V, w.alloc (.cells #[.int .i64 t.s, .slice sa sn sc, .slice la ln lc] 26) = V := ⟨_, rfl⟩
  have hVs : w.heap.size + 1 = V.heap.size := by rw [← hV]; simp
  rw [hV] at HX0 HB0
  have hZE := x3_new V (.int .i64 0) (.slice none 0 0) (.slice none 0 0) 26 V.heap.size rfl
  have hbE := balloc V (.cells #[.int .i64 0, .slice none 0 0, .slice none 0 0] 26)
  have hEs : (V.alloc (.cells #[.int .i64 0, .slice none 0 0, .slice none 0 0] 26)).heap.size = V.heap.size + 1 := by simp
  obtain ⟨E, hE⟩ : ∃ E, V.alloc (.cells #[.int .i64 0, .slice none 0 0, .slice none 0 0] 26) = E := ⟨_, rfl⟩
  rw [hE] at hZE hbE hEs
  have HZE : Hid (X3 E V.heap.size (.int .i64 0) (.slice none 0 0) (.slice none 0 0)) := hZE
  have HXE : Hid (X3 E w.heap.size (.int .i64 t.s) (.slice sa sn sc) (.slice la ln lc)) := HX0.out.later hbE
  have HBE : Hid (Below w.heap.size w E) := HB0.out.trans (hbE.mono HB0.out.size)
  have q := l15Two_c sa sn sc la ln lc t a b E (HR.out E HBE.out)
  have q3 := fun wx => l15Byte_c x wx
  unfold othV othB
  cases htw : twoB t a b
  · rw [wayB_two htw, Bool.false_and, if_neg (by simp)]
    rw [htw] at q
    clear htw HWG
    obtain ⟨s, hs⟩ : ∃ s, t.s = s := ⟨_, rfl⟩
    rw [hs] at HX0 HXE hV q HQW ⊢
    obtain ⟨⟨f0, f1, f2⟩, _⟩ := HXE.out
    clear hZE hbE HX0 HB0 h
    go_enter Try.func16, Try.ntmps16
    go_wp2_with fail
    refine q.mono ?_
    clear q f0 f1 f2 hV hE
    rintro e w1 ⟨rfl, hb⟩
    have HB1 : Hid (Below w.heap.size w w1) := HBE.out.trans (hb.mono HBE.out.size)
    have HX1 : Hid (X3 w1 w.heap.size (.int .i64 s) (.slice sa sn sc) (.slice la ln lc)) := HXE.out.later hb
    have HZ1 : Hid (X3 w1 V.heap.size (.int .i64 0) (.slice none 0 0) (.slice none 0 0)) := HZE.out.later hb
    have hs1 : E.heap.size ≤ w1.heap.size := hb.size
    clear hb HXE HZE HBE
    have hZ9 := HZ1.out
    have hXF := ((hZ9.set0 (.int .i64 0)).set1 (.slice none 0 0)).set2 (.slice none 0 0)
    have hB3 := ((HB1.out.setCell (p := ⟨V.heap.size, 0, none⟩) (by show w.heap.size ≤ V.heap.size; omega) (.int .i64 0)).setCell (p := ⟨V.heap.size, 1, none⟩) (by show w.heap.size ≤ V.heap.size; omega) (.slice none 0 0)).setCell (p := ⟨V.heap.size, 2, none⟩) (by show w.heap.size ≤ V.heap.size; omega) (.slice none 0 0)
    obtain ⟨⟨z0, z1, z2⟩, zf⟩ := hZ9
    have zf0 := zf 0
    have zf1 := zf 1
    have zf2 := zf 2
    clear zf
    obtain ⟨W3, hW3⟩ : ∃ X, ((w1.setCell ⟨V.heap.size, 0, none⟩ (.int .i64 0)).setCell ⟨V.heap.size, 1, none⟩ (.slice none 0 0)).setCell ⟨V.heap.size, 2, none⟩ (.slice none 0 0) = X := ⟨_, rfl⟩
    rw [hW3] at hXF hB3
    have HB3 : Hid (Below w.heap.size w W3) := hB3
    obtain ⟨⟨e0, e1, e2⟩, _⟩ := hXF
    clear hB3
    go_wp2
    refine bodyPost_ret (v := .tuple #[.agg #[.int .i64 0, .slice none 0 0, .slice none 0 0], .bool false]) (by simp [results, Try.results16, go_sem, e0, e1, e2]; try rfl) rfl ?_
    exact tellT_none HB3.out
  rw [htw] at q
  have q4 := fun wx hb => HQW.out wx htw hb
  cases hby : byB x
  · rw [Bool.and_false, if_neg (by simp)]
    rw [hby] at q3
    clear hby q4 htw
    obtain ⟨s, hs⟩ : ∃ s, t.s = s := ⟨_, rfl⟩
    rw [hs] at HX0 HXE hV q HQW ⊢
    obtain ⟨⟨f0, f1, f2⟩, _⟩ := HXE.out
    clear hZE hbE HX0 HB0 h
    go_enter Try.func16, Try.ntmps16
    go_wp2_with fail
    refine q.mono ?_
    clear q f0 f1 f2 hV hE
    rintro e w1 ⟨rfl, hb⟩
    have HB1 : Hid (Below w.heap.size w w1) := HBE.out.trans (hb.mono HBE.out.size)
    have HX1 : Hid (X3 w1 w.heap.size (.int .i64 s) (.slice sa sn sc) (.slice la ln lc)) := HXE.out.later hb
    have HZ1 : Hid (X3 w1 V.heap.size (.int .i64 0) (.slice none 0 0) (.slice none 0 0)) := HZE.out.later hb
    have hs1 : E.heap.size ≤ w1.heap.size := hb.size
    clear hb HXE HZE HBE
    have hZ9 := HZ1.out
    have hXF := ((hZ9.set0 (.int .i64 0)).set1 (.slice none 0 0)).set2 (.slice none 0 0)
    have hB3 := ((HB1.out.setCell (p := ⟨V.heap.size, 0, none⟩) (by show w.heap.size ≤ V.heap.size; omega) (.int .i64 0)).setCell (p := ⟨V.heap.size, 1, none⟩) (by show w.heap.size ≤ V.heap.size; omega) (.slice none 0 0)).setCell (p := ⟨V.heap.size, 2, none⟩) (by show w.heap.size ≤ V.heap.size; omega) (.slice none 0 0)
    obtain ⟨⟨z0, z1, z2⟩, zf⟩ := hZ9
    have zf0 := zf 0
    have zf1 := zf 1
    have zf2 := zf 2
    clear zf
    obtain ⟨W3, hW3⟩ : ∃ X, ((w1.setCell ⟨V.heap.size, 0, none⟩ (.int .i64 0)).setCell ⟨V.heap.size, 1, none⟩ (.slice none 0 0)).setCell ⟨V.heap.size, 2, none⟩ (.slice none 0 0) = X := ⟨_, rfl⟩
    rw [hW3] at hXF hB3
    have HB3 : Hid (Below w.heap.size w W3) := hB3
    obtain ⟨⟨e0, e1, e2⟩, _⟩ := hXF
    clear hB3
    go_wp2_with fail
    refine (q3 _).mono ?_
    clear q3
    rintro e w3 ⟨rfl, hw⟩
    have hw2 := hw.symm
    clear hw
    subst hw2
    go_wp2
    refine bodyPost_ret (v := .tuple #[.agg #[.int .i64 0, .slice none 0 0, .slice none 0 0], .bool false]) (by simp [results, Try.results16, go_sem, e0, e1, e2]; try rfl) rfl ?_
    exact tellT_none HB3.out
  rw [hby] at q3
  have HBY : Hid (byB x = true) := hby
  clear hby htw HQW
  obtain ⟨way, hway⟩ : ∃ way, wayV t a b = way := ⟨_, rfl⟩
  rw [hway] at q4 HWM hws ⊢
  obtain ⟨wn, hwn⟩ : ∃ wn, way.length = wn := ⟨_, rfl⟩
  unfold TellI at q4
  rw [hwn] at q4 hws
  have HWL : Hid (way.length = wn) := hwn
  clear hway hwn
  cases hwb : wayB t a b
  · rw [Bool.false_and, if_neg (by simp)]
    rw [hwb] at q4
    clear hwb HWG
    obtain ⟨s, hs⟩ : ∃ s, t.s = s := ⟨_, rfl⟩
    rw [hs] at HX0 HXE hV q q4 ⊢
    obtain ⟨⟨f0, f1, f2⟩, _⟩ := HXE.out
    clear hZE hbE HX0 HB0 h
    go_enter Try.func16, Try.ntmps16
    go_wp2_with fail
    refine q.mono ?_
    clear q f0 f1 f2 hV hE
    rintro e w1 ⟨rfl, hb⟩
    have HB1 : Hid (Below w.heap.size w w1) := HBE.out.trans (hb.mono HBE.out.size)
    have HX1 : Hid (X3 w1 w.heap.size (.int .i64 s) (.slice sa sn sc) (.slice la ln lc)) := HXE.out.later hb
    have HZ1 : Hid (X3 w1 V.heap.size (.int .i64 0) (.slice none 0 0) (.slice none 0 0)) := HZE.out.later hb
    have hs1 : E.heap.size ≤ w1.heap.size := hb.size
    clear hb HXE HZE HBE
    go_wp2_with fail
    refine (q3 _).mono ?_
    clear q3
    rintro e w3 ⟨rfl, hw⟩
    have hw2 := hw.symm
    clear hw
    subst hw2
    obtain ⟨⟨f0, f1, f2⟩, _⟩ := HX1.out
    go_wp2_with fail
    refine (q4 w1 HB1.out).mono ?_
    clear f0 f1 f2 q4
    rintro e w2 ⟨a1, c1, rfl, ho, hb⟩
    have HB2 : Hid (Below w.heap.size w w2) := HB1.out.trans (hb.mono HB1.out.size)
    have HX2 : Hid (X3 w2 w.heap.size (.int .i64 s) (.slice sa sn sc) (.slice la ln lc)) := HX1.out.later hb
    have HZ2 : Hid (X3 w2 V.heap.size (.int .i64 0) (.slice none 0 0) (.slice none 0 0)) := HZ1.out.later hb
    have HO2 : Hid (Own w2 w1.heap.size (.slice a1 wn c1) way) := ho
    have hs2 : w1.heap.size ≤ w2.heap.size := hb.size
    clear ho hb HX1 HZ1 HR
    have hZ9 := HZ2.out
    have hXF := ((hZ9.set0 (.int .i64 0)).set1 (.slice none 0 0)).set2 (.slice none 0 0)
    have hB3 := ((HB2.out.setCell (p := ⟨V.heap.size, 0, none⟩) (by show w.heap.size ≤ V.heap.size; omega) (.int .i64 0)).setCell (p := ⟨V.heap.size, 1, none⟩) (by show w.heap.size ≤ V.heap.size; omega) (.slice none 0 0)).setCell (p := ⟨V.heap.size, 2, none⟩) (by show w.heap.size ≤ V.heap.size; omega) (.slice none 0 0)
    obtain ⟨⟨z0, z1, z2⟩, zf⟩ := hZ9
    have zf0 := zf 0
    have zf1 := zf 1
    have zf2 := zf 2
    clear zf
    obtain ⟨W3, hW3⟩ : ∃ X, ((w2.setCell ⟨V.heap.size, 0, none⟩ (.int .i64 0)).setCell ⟨V.heap.size, 1, none⟩ (.slice none 0 0)).setCell ⟨V.heap.size, 2, none⟩ (.slice none 0 0) = X := ⟨_, rfl⟩
    rw [hW3] at hXF hB3
    have HB3 : Hid (Below w.heap.size w W3) := hB3
    obtain ⟨⟨e0, e1, e2⟩, _⟩ := hXF
    clear hB3
    go_wp2
    refine bodyPost_ret (v := .tuple #[.agg #[.int .i64 0, .slice none 0 0, .slice none 0 0], .bool false]) (by simp [results, Try.results16, go_sem, e0, e1, e2]; try rfl) rfl ?_
    exact tellT_none HB3.out
  rw [Bool.true_and, if_pos rfl]
  rw [hwb] at q4
  have HG : Hid (GoodT t) := HWG.out hwb
  clear hwb HWG
  have HLN : Hid (sn = ln) := by have := HG.out.cl; rw [HPL.out, HCL.out] at this; exact this.symm
  have HCB : Hid (∀ j, j < ln → byB (t.cs.getD j 0) = true) := fun j hj => HG.out.by' j (by rw [HCL.out]; exact hj)
  have H2 : Hid (∀ k, k < sn → (t.ps.getD k []).length = 2) := fun k hk => (HG.out.two k (by rw [HPL.out]; exact hk)).1
  have hsn15 : sn ≤ 15 := by have := HG.out.pl; rw [HPL.out] at this; exact this
  have hln15 : ln ≤ 15 := by have := HLN.out; omega
  obtain ⟨s, hs⟩ : ∃ s, t.s = s := ⟨_, rfl⟩
  rw [hs] at HX0 HXE hV q q4 ⊢
  obtain ⟨⟨f0, f1, f2⟩, _⟩ := HXE.out
  clear hZE hbE HX0 HB0 h
  go_enter Try.func16, Try.ntmps16
  go_wp2_with fail
  refine q.mono ?_
  clear q f0 f1 f2 hV hE
  rintro e w1 ⟨rfl, hb⟩
  have HB1 : Hid (Below w.heap.size w w1) := HBE.out.trans (hb.mono HBE.out.size)
  have HX1 : Hid (X3 w1 w.heap.size (.int .i64 s) (.slice sa sn sc) (.slice la ln lc)) := HXE.out.later hb
  have HZ1 : Hid (X3 w1 V.heap.size (.int .i64 0) (.slice none 0 0) (.slice none 0 0)) := HZE.out.later hb
  have hs1 : E.heap.size ≤ w1.heap.size := hb.size
  clear hb HXE HZE HBE
  go_wp2_with fail
  refine (q3 _).mono ?_
  clear q3
  rintro e w3 ⟨rfl, hw⟩
  have hw2 := hw.symm
  clear hw
  subst hw2
  obtain ⟨⟨f0, f1, f2⟩, _⟩ := HX1.out
  go_wp2_with fail
  refine (q4 w1 HB1.out).mono ?_
  clear f0 f1 f2 q4
  rintro e w2 ⟨a1, c1, rfl, ho, hb⟩
  have HB2 : Hid (Below w.heap.size w w2) := HB1.out.trans (hb.mono HB1.out.size)
  have HX2 : Hid (X3 w2 w.heap.size (.int .i64 s) (.slice sa sn sc) (.slice la ln lc)) := HX1.out.later hb
  have HZ2 : Hid (X3 w2 V.heap.size (.int .i64 0) (.slice none 0 0) (.slice none 0 0)) := HZ1.out.later hb
  have HO2 : Hid (Own w2 w1.heap.size (.slice a1 wn c1) way) := ho
  have hs2 : w1.heap.size ≤ w2.heap.size := hb.size
  clear ho hb HX1 HZ1 HR
  obtain ⟨⟨f0, f1, f2⟩, _⟩ := HX2.out
  go_wp2_with fail
  clear f0 f1 f2
  obtain ⟨D, hD⟩ : ∃ D, w2.drew = D := ⟨_, rfl⟩
  have hbD : Below w2.heap.size w2 D := by rw [← hD]; exact (Below.refl _ _).drew
  have HXD : Hid (X3 D w.heap.size (.int .i64 s) (.slice sa sn sc) (.slice la ln lc)) := HX2.out.later hbD
  have HBD : Hid (Below w2.heap.size w2 D) := hbD
  have hsD : w2.heap.size ≤ D.heap.size := hbD.size
  clear hbD
  refine wp_region_held_drew (S := (fun X => X.cell? ⟨w.heap.size, 0, none⟩ = some (.int .i64 s) ∧ X.cell? ⟨w.heap.size, 1, none⟩ = some (.slice sa sn sc) ∧ X.cell? ⟨w.heap.size, 2, none⟩ = some (.slice la ln lc))) (by kernel_rfl) ?_ (fun hHeld => ?_)
  · (try rw [hD]); exact HXD.out.1
  rw [hD] at hHeld ⊢
  clear hD
  refine takeSO15 (i := 0) (oi := _) (v := ?_) (d := some 38) rfl (by kernel_rfl) (by kernel_rfl) (by kernel_rfl) (by kernel_rfl) (fun _ _ _ h => h) (Or.inl ⟨by rfl, ?_⟩) (by assumption) ?_
  rotate_left
  · (intro w hSw; (try dsimp only at hSw); go_simp <;> with_reducible rfl)
  try simp only [Act.put, List.setIfInBounds_toArray, List.set_cons_zero, List.set_cons_succ]
  refine takeSO15 (i := 1) (oi := _) (v := ?_) (d := some 39) rfl (by kernel_rfl) (by kernel_rfl) (by kernel_rfl) (by kernel_rfl) (fun _ _ _ h => h) (Or.inl ⟨by rfl, ?_⟩) (by assumption) ?_
  rotate_left
  · (intro w hSw; (try dsimp only at hSw); go_simp <;> with_reducible rfl)
  try simp only [Act.put, List.setIfInBounds_toArray, List.set_cons_zero, List.set_cons_succ]
  refine takeSO15 (i := 3) (oi := _) (v := ?_) (d := some 41) rfl (by kernel_rfl) (by kernel_rfl) (by kernel_rfl) (by kernel_rfl) (fun _ _ _ h => h) (Or.inl ⟨by rfl, ?_⟩) (by assumption) ?_
  rotate_left
  · (intro w hSw; (try dsimp only at hSw); go_simp <;> with_reducible rfl)
  try simp only [Act.put, List.setIfInBounds_toArray, List.set_cons_zero, List.set_cons_succ]
  refine takeSO15 (i := 4) (oi := _) (v := ?_) (d := some 42) rfl (by kernel_rfl) (by kernel_rfl) (by kernel_rfl) (by kernel_rfl) (fun _ _ _ h => h) (Or.inl ⟨by rfl, ?_⟩) (by assumption) ?_
  rotate_left
  · (intro w hSw; (try dsimp only at hSw); go_simp <;> with_reducible rfl)
  try simp only [Act.put, List.setIfInBounds_toArray, List.set_cons_zero, List.set_cons_succ]
  have HXD0 := HXD
  refine wpAnyH_ready (rs := [2, 7]) (by kernel_rfl) (by simp) ?_
  refine AllReadyH.cons (o := _) rfl (fun K hK => ?_) (AllReadyH.cons (o := _) rfl (fun K hK => ?_) AllReadyH.nil)
  · have hbn := balloc D (.cells #[] 3)
    have hrow := emptyI D
    obtain ⟨Y1, hY1⟩ : ∃ X, D.alloc (.cells #[] 3) = X := ⟨_, rfl⟩
    rw [hY1] at hbn hrow
    have HXY1 : Hid (X3 Y1 w.heap.size (.int .i64 s) (.slice sa sn sc) (.slice la ln lc)) := HXD.out.later hbn
    have HBY1 : Hid (Below w2.heap.size w2 Y1) := HBD.out.trans (hbn.mono HBD.out.size)
    have HEY1 : Hid (Own Y1 w2.heap.size (.slice (some ⟨D.heap.size, 0, none⟩) 0 0) []) := hrow.mono HBD.out.size
    clear hbn hrow
    go_simp
    refine hK.out _ _ ?_ (fun hHeld => ?_)
    · (try rw [hY1]); exact HXY1.out.1
    clear hK K
    try simp only [Act.put, List.setIfInBounds_toArray, List.set_cons_zero, List.set_cons_succ]
    try rw [hY1] at hHeld
    try rw [hY1]
    clear hY1
    refine wpAnyH_ready (rs := [5, 7]) (by kernel_rfl) (by simp) ?_
    refine AllReadyH.cons (o := _) rfl (fun K hK => ?_) (AllReadyH.cons (o := _) rfl (fun K hK => ?_) AllReadyH.nil)
    · rw [if_pos (by rfl)]
      obtain ⟨v', Y2, r1, o1, gg, b1⟩ := appendI_run Y1 w2.heap.size (.slice (some ⟨D.heap.size, 0, none⟩) 0 0) [] t.cs la ln lc HEY1.out (HRL.out Y1 (HB2.out.trans (HBY1.out.mono HB2.out.size))) HCL.out HLZ.out (by simp; omega) HBY1.out.size
      obtain ⟨a4, c4, hv4⟩ := o1.shape
      rw [List.nil_append] at o1 hv4
      rw [HCL.out] at hv4
      subst hv4
      have HCY2 : Hid (Own Y2 w2.heap.size (.slice a4 ln c4) t.cs) := o1
      have HXY2 : Hid (X3 Y2 w.heap.size (.int .i64 s) (.slice sa sn sc) (.slice la ln lc)) := HXY1.out.grown gg (fun e => by have h1 := own_block_ge HEY1.out _ e.symm; have h2 := HX2.out.lt; omega)
      have HBY2 : Hid (Below w2.heap.size w2 Y2) := HBY1.out.trans b1
      clear o1 gg b1
      refine Lib.wp_append_run _ _ _ _ _ rfl (.slice (some ⟨D.heap.size, 0, none⟩) 0 0) (.slice la ln lc) (by rfl) (by rfl) (.slice a4 ln c4) Y2 (r1 _) ?_
      clear r1
      refine hK.out _ _ ?_ (fun hHeld => ?_)
      · exact HXY2.out.1
      clear hK K
      simp only [List.getElem_toArray, List.getElem_cons_succ, List.getElem_cons_zero, Act.put, List.setIfInBounds_toArray, List.set_cons_zero, List.set_cons_succ]
      refine takeSO15 (i := 6) (oi := _) (v := ?_) (d := some 44) rfl (by kernel_rfl) (by kernel_rfl) (by kernel_rfl) (by kernel_rfl) (fun _ _ _ h => h) (Or.inl ⟨by rfl, ?_⟩) (by assumption) ?_
      rotate_left
      · (intro w hSw; (try dsimp only at hSw); go_simp <;> with_reducible rfl)
      try simp only [Act.put, List.setIfInBounds_toArray, List.set_cons_zero, List.set_cons_succ]
      refine wpAnyH_ready (rs := [7]) (by kernel_rfl) (by simp) ?_
      refine AllReadyH.cons (o := _) rfl (fun K hK => ?_) AllReadyH.nil
      have hbn := balloc Y2 (.cells #[.int .i64 0, .slice none 0 0, .slice none 0 0] 26)
      have hbox := x3_new Y2 (.int .i64 0) (.slice none 0 0) (.slice none 0 0) 26 Y2.heap.size rfl
      have hobj := box_obj15 Y2 #[.int .i64 0, .slice none 0 0, .slice none 0 0]
      obtain ⟨Y3, hY3⟩ : ∃ X, Y2.alloc (.cells #[.int .i64 0, .slice none 0 0, .slice none 0 0] 26) = X := ⟨_, rfl⟩
      rw [hY3] at hbn hbox hobj
      have HXY3 : Hid (X3 Y3 w.heap.size (.int .i64 s) (.slice sa sn sc) (.slice la ln lc)) := HXY2.out.later hbn
      have HBY3 : Hid (Below w2.heap.size w2 Y3) := HBY2.out.trans (hbn.mono HBY2.out.size)
      have HCY3 : Hid (Own Y3 w2.heap.size (.slice a4 ln c4) t.cs) := HCY2.out.later hbn
      have HTY3 : Hid (X3 Y3 Y2.heap.size (.int .i64 0) (.slice none 0 0) (.slice none 0 0)) := hbox
      have HJY3 : Hid (Y3.heap[Y2.heap.size]? = some (.cells #[.int .i64 0, .slice none 0 0, .slice none 0 0] 26 (0, 0))) := hobj
      have hrb1 : w2.heap.size ≤ Y2.heap.size := HBY2.out.size
      clear hbn hbox hobj
      go_simp
      refine hK.out _ _ ?_ (fun hHeld => ?_)
      · (try rw [hY3]); exact HXY3.out.1
      clear hK K
      try simp only [Act.put, List.setIfInBounds_toArray, List.set_cons_zero, List.set_cons_succ]
      try rw [hY3] at hHeld
      try rw [hY3]
      clear hY3
      have hne4 : (Value.slice a4 ln c4).ownBlock ≠ some (Y2.heap.size) := own_box15 HCY3.out HJY3.out
      have hT := HTY3.out
      have hXF := ((hT.set0 (.int .i64 s)).set1 (.slice none 0 0)).set2 (.slice a4 ln c4)
      have hw2w := HX2.out.lt
      have hX3 : X3 (((Y3.setCell ⟨Y2.heap.size, 0, none⟩ (.int .i64 s)).setCell ⟨Y2.heap.size, 1, none⟩ (.slice none 0 0)).setCell ⟨Y2.heap.size, 2, none⟩ (.slice a4 ln c4)) w.heap.size (.int .i64 s) (.slice sa sn sc) (.slice la ln lc) := ((HXY3.out.other (by omega)).other (by omega)).other (by omega)
      have hC3 : Own (((Y3.setCell ⟨Y2.heap.size, 0, none⟩ (.int .i64 s)).setCell ⟨Y2.heap.size, 1, none⟩ (.slice none 0 0)).setCell ⟨Y2.heap.size, 2, none⟩ (.slice a4 ln c4)) w2.heap.size (.slice a4 ln c4) t.cs := ((HCY3.out.kept (grown_setCell _ _ _ _) (Or.inr hne4)).kept (grown_setCell _ _ _ _) (Or.inr hne4)).kept (grown_setCell _ _ _ _) (Or.inr hne4)
      have hB3 : Below w2.heap.size w2 (((Y3.setCell ⟨Y2.heap.size, 0, none⟩ (.int .i64 s)).setCell ⟨Y2.heap.size, 1, none⟩ (.slice none 0 0)).setCell ⟨Y2.heap.size, 2, none⟩ (.slice a4 ln c4)) := ((HBY3.out.setCell (by show w2.heap.size ≤ Y2.heap.size; omega) _).setCell (by show w2.heap.size ≤ Y2.heap.size; omega) _).setCell (by show w2.heap.size ≤ Y2.heap.size; omega) _
      obtain ⟨⟨z0, z1, z2⟩, zf⟩ := hT
      have zf0 := zf 0
      have zf1 := zf 1
      have zf2 := zf 2
      clear zf
      obtain ⟨Z, hZ⟩ : ∃ X, ((Y3.setCell ⟨Y2.heap.size, 0, none⟩ (.int .i64 s)).setCell ⟨Y2.heap.size, 1, none⟩ (.slice none 0 0)).setCell ⟨Y2.heap.size, 2, none⟩ (.slice a4 ln c4) = X := ⟨_, rfl⟩
      rw [hZ] at hXF hX3 hC3 hB3
      have HXZ : Hid (X3 Z w.heap.size (.int .i64 s) (.slice sa sn sc) (.slice la ln lc)) := hX3
      have hrb2 := hXF.lt
      refine wpAnyH_ready (rs := [8]) (by kernel_rfl) (by simp) ?_
      refine AllReadyH.cons (o := _) rfl (fun K hK => ?_) AllReadyH.nil
      go_simp
      refine hK.out _ _ ?_ (fun hHeld => ?_)
      · (try rw [hZ]); exact HXZ.out.1
      clear hK K
      try simp only [Act.put, List.setIfInBounds_toArray, List.set_cons_zero, List.set_cons_succ]
      try rw [hZ] at hHeld
      try rw [hZ]
      refine wpAnyH_done (by kernel_rfl) ?_ _
      clear hHeld hZ z0 z1 z2 zf0 zf1 zf2
      obtain ⟨rb, hrb⟩ : ∃ r, Y2.heap.size = r := ⟨_, rfl⟩
      rw [hrb] at hXF hrb1 hrb2 hne4 ⊢
      have HOT : Hid (X3 Z rb (.int .i64 s) (.slice none 0 0) (.slice a4 ln c4)) := hXF
      have HCZ : Hid (Own Z w2.heap.size (.slice a4 ln c4) t.cs) := hC3
      have HBZ : Hid (Below w2.heap.size w2 Z) := hB3
      have HNE : Hid ((Value.slice a4 ln c4).ownBlock ≠ some rb) := hne4
      clear hXF hX3 hC3 hB3 hrb hne4 
      obtain ⟨⟨f0, f1, f2⟩, _⟩ := HXZ.out
      have HCB2 : Hid (∀ k, (Value.slice a4 ln c4).ownBlock = some k → k < Z.heap.size) := fun k e => (World.ownsRow.lt HCZ.out k e).2
      have hwZ : w2.heap.size ≤ Z.heap.size := HBZ.out.size
      go_wp2_with fail
      clear f0 f1 f2
      go_loopw [48] (fun iv wr => ∃ (k : Nat) (a' : Option Addr) (c' : Nat), k ≤ sn ∧ iv = .int .i64 k ∧ Hid (OwnIP wr Z.heap.size (fun q => Z.heap.size ≤ q ∧ q < wr.heap.size) (.slice a' k c') (t.ps.take k)) ∧ Hid (X3 wr rb (.int .i64 s) (.slice a' k c') (.slice a4 ln c4)) ∧ Hid (Own wr w2.heap.size (.slice a4 ln c4) t.cs) ∧ Hid (Below w2.heap.size w2 wr) ∧ Z.heap.size ≤ wr.heap.size) (fun iv _ => sn - (intOf iv).toNat)
      case atStart => exact ⟨0, none, 0, Nat.zero_le _, rfl, (by show OwnIP _ _ _ _ _; rw [List.take_zero]; exact nilIP Z Z.heap.size _), HOT, HCZ, HBZ, Nat.le_refl _⟩
      case round =>
        clear HOT HCZ HBZ
        obtain ⟨k, a', c', hk, rfl, HP, HX, HC, HB, hsz⟩ := hrel
        by_cases hlt : k < sn
        case neg =>
          have hks := Nat.le_antisymm (Nat.not_lt.1 hlt) hk
          have hge0 : ¬ (k : Int) < (sn : Int) := by omega
          have HTE : Hid (OwnTb wr w2.heap.size wr.heap.size (.slice a' sn c') (.slice a4 ln c4) ⟨s, t.ps, flipL t.cs (way.take 0) x⟩) := by
            have hp := HP.out
            rw [← hks, List.take_of_length_le (by rw [HPL.out]; exact Nat.le_refl _)] at hp
            rw [List.take_zero]
            exact ⟨⟨_, hp.mono (by omega) (fun _ h => h), fun q hq => by omega, fun q e => by have := HCB2.out q e; omega⟩, HC.out⟩
          have HXE2 : Hid (X3 wr rb (.int .i64 s) (.slice a' sn c') (.slice a4 ln c4)) := by have := HX.out; rw [← hks] at this; exact this
          have HBI : Hid (∀ j, j < ln → byB ((flipL t.cs (way.take 0) x).getD j 0) = true) := by rw [List.take_zero]; exact HCB.out
          obtain ⟨wE, hwE⟩ : ∃ X, X = wr := ⟨_, rfl⟩
          rw [← hwE] at HTE HXE2 HB ⊢
          obtain ⟨aP, haP⟩ : ∃ x, a' = x := ⟨_, rfl⟩
          obtain ⟨cP, hcP⟩ : ∃ x, c' = x := ⟨_, rfl⟩
          rw [haP, hcP] at HTE HXE2
          have HSE : Hid (rb < wE.heap.size) := HXE2.out.lt
          clear HP HX HC hwE haP hcP hks
          go_wp2_with fail
          go_loopw [63] (fun iv wr => ∃ k : Nat, k ≤ wn ∧ iv = .int .i64 k ∧ Hid (OwnTb wr w2.heap.size wE.heap.size (.slice aP sn cP) (.slice a4 ln c4) ⟨s, t.ps, flipL t.cs (way.take k) x⟩) ∧ Hid (X3 wr rb (.int .i64 s) (.slice aP sn cP) (.slice a4 ln c4)) ∧ Hid (Below w2.heap.size w2 wr) ∧ wE.heap.size ≤ wr.heap.size ∧ Hid (∀ j, j < ln → byB ((flipL t.cs (way.take k) x).getD j 0) = true)) (fun iv _ => wn - (intOf iv).toNat)
          case atStart => exact ⟨0, Nat.zero_le _, rfl, HTE, HXE2, HB, Nat.le_refl _, HBI⟩
          case round =>
            clear HTE HXE2 HB HBI hsz
            clear hge0
            clear hlt
            clear hk
            obtain ⟨k, hk, rfl, HT, HX, HB, hsz, HBI⟩ := hrel
            have HFL : Hid ((flipL t.cs (way.take k) x).length = ln) := by show _ = _; rw [flipL_length, HCL.out]
            obtain ⟨⟨f0, f1, f2⟩, _⟩ := HX.out
            by_cases hlt : k < wn
            case neg =>
              have hkw := Nat.le_antisymm (Nat.not_lt.1 hlt) hk
              have HZR : Hid (X3 wr V.heap.size (.int .i64 0) (.slice none 0 0) (.slice none 0 0)) := HZ2.out.later HB.out
              have hZ2 := HZR.out
              have hXF := ((hZ2.set0 (.int .i64 s)).set1 (.slice aP sn cP)).set2 (.slice a4 ln c4)
              have hBw : Below w.heap.size w wr := HB2.out.trans (HB.out.mono HB2.out.size)
              have hB3 := ((hBw.setCell (p := ⟨V.heap.size, 0, none⟩) (by show w.heap.size ≤ V.heap.size; omega) (.int .i64 s)).setCell (p := ⟨V.heap.size, 1, none⟩) (by show w.heap.size ≤ V.heap.size; omega) (.slice aP sn cP)).setCell (p := ⟨V.heap.size, 2, none⟩) (by show w.heap.size ≤ V.heap.size; omega) (.slice a4 ln c4)
              have hT3 := ((HT.out.setBox (r := V.heap.size) (j := 0) (Or.inl (by omega)) (.int .i64 s)).setBox (r := V.heap.size) (j := 1) (Or.inl (by omega)) (.slice aP sn cP)).setBox (r := V.heap.size) (j := 2) (Or.inl (by omega)) (.slice a4 ln c4)
              have hsz3 : wr.heap.size ≤ (((wr.setCell ⟨V.heap.size, 0, none⟩ (.int .i64 s)).setCell ⟨V.heap.size, 1, none⟩ (.slice aP sn cP)).setCell ⟨V.heap.size, 2, none⟩ (.slice a4 ln c4)).heap.size := by rw [World.size_setCell, World.size_setCell, World.size_setCell]; exact Nat.le_refl _
              obtain ⟨⟨z0, z1, z2⟩, zf⟩ := hZ2
              have zf0 := zf 0
              have zf1 := zf 1
              have zf2 := zf 2
              clear zf
              obtain ⟨W3, hW3⟩ : ∃ X, ((wr.setCell ⟨V.heap.size, 0, none⟩ (.int .i64 s)).setCell ⟨V.heap.size, 1, none⟩ (.slice aP sn cP)).setCell ⟨V.heap.size, 2, none⟩ (.slice a4 ln c4) = X := ⟨_, rfl⟩
              rw [hW3] at hXF hB3 hT3 hsz3
              rw [← hkw, List.take_of_length_le (by rw [HWL.out]; exact Nat.le_refl _)] at hT3
              have HT3 : Hid (OwnTb W3 w.heap.size W3.heap.size (.slice aP sn cP) (.slice a4 ln c4) ⟨s, t.ps, flipL t.cs way x⟩) := hT3.mono (by omega) (by omega)
              have HB3 : Hid (Below w.heap.size w W3) := hB3
              obtain ⟨⟨e0, e1, e2⟩, _⟩ := hXF
              have hge : ¬ (k : Int) < (wn : Int) := by omega
              clear hB3 hT3 HT hkw
              go_wp2
              refine bodyPost_ret (v := .tuple #[.agg #[.int .i64 s, .slice aP sn cP, .slice a4 ln c4], .bool true]) (by simp [results, Try.results16, go_sem, e0, e1, e2]; try rfl) rfl ?_
              refine ⟨aP, cP, a4, c4, ?_, ?_, HB3.out⟩
              · show _ = Ending.returned (.tuple #[.agg #[.int .i64 s, .slice aP t.ps.length cP, .slice a4 (flipL t.cs way x).length c4], .bool true])
                rw [HPL.out, flipL_length, HCL.out]
              · show OwnTb _ _ _ (.slice aP t.ps.length cP) (.slice a4 (flipL t.cs way x).length c4) _
                rw [HPL.out, flipL_length, HCL.out]
                exact HT3.out
            have hkl : k < way.length := by rw [HWL.out]; exact hlt
            obtain ⟨wb, wo, rfl, gw⟩ := (HO2.out.later HB.out).rd'.2.get hkl
            have hwm := HWM.out _ (mem_getD 0 hkl)
            have hft := flipL_take (cs := t.cs) (x := x) hkl
            generalize way.getD k 0 = y at gw hwm hft
            obtain ⟨p, rfl⟩ : ∃ p : Nat, y = (p : Int) := ⟨y.toNat, by omega⟩
            have hpl : p < ln := by have := HLN.out; have := HPL.out; omega
            rcases HT.out.li.addr with ⟨_, h0, _⟩ | ⟨g, rfl, hg1, hg2⟩
            · exfalso; omega
            have hgb : g < wE.heap.size := by obtain ⟨pp, _, _, h3⟩ := HT.out.ex; exact (h3 g rfl).2
            have hgr : rb ≠ g := fun e => HNE.out (by rw [e]; rfl)
            rw [Int.toNat_natCast] at hft
            have gs := Own.cell (g := g) (cap := c4) (xs := flipL t.cs (way.take k) x) (by rw [HFL.out]; exact HT.out.li) p (by rw [HFL.out]; exact hpl)
            have hfz := Own.free (g := g) (cap := c4) (xs := flipL t.cs (way.take k) x) (by rw [HFL.out]; exact HT.out.li) p
            have hsb := HBI.out p hpl
            have hxr := bits_xr hsb HBY.out
            have hxb := xr_by hsb HBY.out
            have HFT : Hid (flipL t.cs (way.take (k + 1)) x = (flipL t.cs (way.take k) x).set p (xr ((flipL t.cs (way.take k) x).getD p 0) x)) := hft
            generalize flipL t.cs (way.take k) x = F at HT HFL HBI gs hfz hsb hxr hxb HFT
            generalize F.getD p 0 = v at gs hxr hxb HFT
            generalize xr v x = z at hxr hxb HFT
            have HBI2 : Hid (∀ j, j < ln → byB ((flipL t.cs (way.take (k + 1)) x).getD j 0) = true) := fun j hj => by
              rw [HFT.out, getD_set9 _ _ _ _ (by rw [HFL.out]; exact hpl)]
              split
              · exact hxb
              · exact HBI.out j hj
            have HT3 : Hid (OwnTb (wr.setCell ⟨g, p, none⟩ (.int .i64 z)) w2.heap.size wE.heap.size (.slice aP sn cP) (.slice (some ⟨g, 0, none⟩) ln c4) ⟨s, t.ps, flipL t.cs (way.take (k + 1)) x⟩) := by show OwnTb _ _ _ _ _ _; rw [HFT.out]; exact HT.out.setCoin p z
            have HX3 : Hid (X3 (wr.setCell ⟨g, p, none⟩ (.int .i64 z)) rb (.int .i64 s) (.slice aP sn cP) (.slice (some ⟨g, 0, none⟩) ln c4)) := HX.out.other (by omega)
            have HB3 : Hid (Below w2.heap.size w2 (wr.setCell ⟨g, p, none⟩ (.int .i64 z))) := HB.out.setCell (by show _ ≤ g; omega) _
            have hsz3 : wE.heap.size ≤ (wr.setCell ⟨g, p, none⟩ (.int .i64 z)).heap.size := by rw [World.size_setCell]; exact hsz
            have k0 : (0 : Int) ≤ (k : Int) := by omega
            have k1 : (k : Int) < (wn : Int) := by omega
            have p0 : (0 : Int) ≤ (p : Int) := by omega
            have p1 : (p : Int) < (ln : Int) := by omega
            clear hkl hwm hft hsb hxb HT HX HB HFT HBI
            go_wp2
            go_roundw
            case rel => exact ⟨k + 1, by omega, by go_num, HT3, HX3, HB3, hsz3, HBI2⟩
            case measure => simp [intOf]; omega
        have hkl : k < t.ps.length := by rw [HPL.out]; exact hlt
        obtain ⟨b, o, ro, rc, rfl, g0, hro, hnil⟩ := (HRP.out wr (HB2.out.trans (HB.out.mono HB2.out.size))).get hkl
        have h2 := H2.out k hlt
        have HTK : Hid (t.ps.take (k + 1) = t.ps.take k ++ [t.ps.getD k []]) := take_snoc [] hkl
        have HTL : Hid ((t.ps.take k).length = k) := by show _ = _; rw [List.length_take]; omega
        generalize t.ps.getD k [] = p at g0 hro hnil h2 HTK
        rw [h2] at g0 hnil
        have k0 : (0 : Int) ≤ (k : Int) := by omega
        have k1 : (k : Int) < (sn : Int) := by omega
        clear hkl
        have HRO : Hid (Rd wr ro p) := hro
        have HNI : Hid (ro = none → 2 = 0 ∧ rc = 0) := hnil
        have HP2 : Hid (p.length = 2) := h2
        clear hro hnil h2
        obtain ⟨⟨f0, f1, f2⟩, _⟩ := HX.out
        go_wp2_with fail
        obtain ⟨D2, hD2⟩ : ∃ D, wr.drew = D := ⟨_, rfl⟩
        have hbD2 : Below wr.heap.size wr D2 := by rw [← hD2]; exact (Below.refl _ _).drew
        have HXD2 : Hid (X3 D2 rb (.int .i64 s) (.slice a' k c') (.slice a4 ln c4)) := HX.out.later hbD2
        have HBD2 : Hid (Below wr.heap.size wr D2) := hbD2
        clear hbD2 f0 f1 f2
        refine wp_region_held_drew (S := (fun X => True)) (by kernel_rfl) ?_ (fun hHeld => ?_)
        · trivial
        rw [hD2]
        clear hD2
        refine takeSO15 (i := 0) (oi := _) (v := ?_) (d := some 52) rfl (by kernel_rfl) (by kernel_rfl) (by kernel_rfl) (by kernel_rfl) (fun _ _ _ h => h) (Or.inl ⟨by rfl, ?_⟩) (by assumption) ?_
        rotate_left
        · (intro w hSw; (try dsimp only at hSw); go_simp <;> with_reducible rfl)
        try simp only [Act.put, List.setIfInBounds_toArray, List.set_cons_zero, List.set_cons_succ]
        refine takeSO15 (i := 3) (oi := _) (v := ?_) (d := some 55) rfl (by kernel_rfl) (by kernel_rfl) (by kernel_rfl) (by kernel_rfl) (fun _ _ _ h => h) (Or.inl ⟨by rfl, ?_⟩) (by assumption) ?_
        rotate_left
        · (intro w hSw; (try dsimp only at hSw); go_simp <;> with_reducible rfl)
        try simp only [Act.put, List.setIfInBounds_toArray, List.set_cons_zero, List.set_cons_succ]
        refine wpAnyH_ready (rs := [1, 2]) (by kernel_rfl) (by simp) ?_
        refine AllReadyH.cons (o := _) rfl (fun K hK => ?_) (AllReadyH.cons (o := _) rfl (fun K hK => ?_) AllReadyH.nil)
        · have cc := HXD2.out.1.2.1
          go_simp
          refine hK.out _ _ ?_ (fun hHeld => ?_)
          · trivial
          clear hK K cc
          try simp only [Act.put, List.setIfInBounds_toArray, List.set_cons_zero, List.set_cons_succ]
          refine wpAnyH_ready (rs := [2]) (by kernel_rfl) (by simp) ?_
          refine AllReadyH.cons (o := _) rfl (fun K hK => ?_) AllReadyH.nil
          have hb1 := balloc D2 (.cells #[] 3)
          have hE1 := emptyI D2
          obtain ⟨T1, hT1⟩ : ∃ X, D2.alloc (.cells #[] 3) = X := ⟨_, rfl⟩
          rw [hT1] at hb1 hE1
          have HX1b : Hid (X3 T1 rb (.int .i64 s) (.slice a' k c') (.slice a4 ln c4)) := HXD2.out.later hb1
          have HB1b : Hid (Below wr.heap.size wr T1) := HBD2.out.trans (hb1.mono HBD2.out.size)
          have HE1 : Hid (Own T1 D2.heap.size (.slice (some ⟨D2.heap.size, 0, none⟩) 0 0) []) := hE1
          have hs3 : D2.heap.size ≤ T1.heap.size := hb1.size
          clear hb1 hE1
          go_simp
          refine hK.out _ _ ?_ (fun hHeld => ?_)
          · trivial
          clear hK K
          try simp only [Act.put, List.setIfInBounds_toArray, List.set_cons_zero, List.set_cons_succ]
          try rw [hT1] at hHeld
          try rw [hT1]
          clear hT1
          refine wpAnyH_ready (rs := [4]) (by kernel_rfl) (by simp) ?_
          refine AllReadyH.cons (o := _) rfl (fun K hK => ?_) AllReadyH.nil
          rw [if_pos (by rfl)]
          obtain ⟨v', T2, r1, o1, gg, b1⟩ := appendI_run T1 D2.heap.size (.slice (some ⟨D2.heap.size, 0, none⟩) 0 0) [] p ro 2 rc HE1.out (HRO.out.later HB1b.out) HP2.out HNI.out (by simp) hs3
          obtain ⟨ua, uc, hv4⟩ := o1.shape
          rw [List.nil_append] at o1 hv4
          rw [HP2.out] at hv4
          subst hv4
          have HU : Hid (Own T2 D2.heap.size (.slice ua 2 uc) p) := o1
          have HX2b : Hid (X3 T2 rb (.int .i64 s) (.slice a' k c') (.slice a4 ln c4)) := HX1b.out.grown gg (fun e => by have h1 := own_block_ge HE1.out _ e.symm; have h2 := HX.out.lt; have h3 := HBD2.out.size; omega)
          have HB2b : Hid (Below wr.heap.size wr T2) := HB1b.out.trans (b1.mono HBD2.out.size)
          clear o1 gg b1
          refine Lib.wp_append_run _ _ _ _ _ rfl (.slice (some ⟨D2.heap.size, 0, none⟩) 0 0) (.slice ro 2 rc) (by rfl) (by rfl) (.slice ua 2 uc) T2 (r1 _) ?_
          clear r1
          refine hK.out _ _ ?_ (fun hHeld => ?_)
          · trivial
          clear hK K
          simp only [List.getElem_toArray, List.getElem_cons_succ, List.getElem_cons_zero, Act.put, List.setIfInBounds_toArray, List.set_cons_zero, List.set_cons_succ]
          refine wpAnyH_ready (rs := [5]) (by kernel_rfl) (by simp) ?_
          refine AllReadyH.cons (o := _) rfl (fun K hK => ?_) AllReadyH.nil
          have hbl : ∀ q, (Value.slice ua 2 uc).ownBlock = some q → D2.heap.size ≤ q ∧ q < T2.heap.size := World.ownsRow.lt HU.out
          have hsD : wr.heap.size ≤ D2.heap.size := HBD2.out.size
          have hsT : wr.heap.size ≤ T2.heap.size := HB2b.out.size
          obtain ⟨g, cap, T4, r1, o1, rg⟩ := pushIP_run T2 Z.heap.size (fun q => Z.heap.size ≤ q ∧ q < wr.heap.size) (.slice a' k c') (t.ps.take k) ua 2 uc p (HP.out.later HB2b.out) (HU.out.mono (by omega)) (fun q hq h => by have := hbl q hq; omega) (by rw [HTL.out]; omega) (by omega) (fun q hq => by omega)
          rw [HTL.out] at r1 o1
          rw [← HTK.out] at o1
          have hb3 := balloc T2 (.cells #[.slice ua 2 uc] 24)
          obtain ⟨T3, hT3⟩ : ∃ X, T2.alloc (.cells #[.slice ua 2 uc] 24) = X := ⟨_, rfl⟩
          rw [hT3] at hb3 r1
          have HX3b : Hid (X3 T3 rb (.int .i64 s) (.slice a' k c') (.slice a4 ln c4)) := HX2b.out.later hb3
          clear hb3
          go_simp
          refine hK.out _ _ ?_ (fun hHeld => ?_)
          · trivial
          clear hK K
          try simp only [Act.put, List.setIfInBounds_toArray, List.set_cons_zero, List.set_cons_succ]
          try rw [hT3] at hHeld
          try rw [hT3]
          clear hT3
          have hlt4 : ∀ q, (Value.slice (some ⟨g, 0, none⟩) (k + 1) cap).ownBlock = some q → q < T4.heap.size := by
            obtain ⟨vs, _, hvo, _⟩ := o1
            exact fun q hq => (World.ownsRow.lt hvo q hq).2
          have HP4 : Hid (OwnIP T4 Z.heap.size (fun q => Z.heap.size ≤ q ∧ q < T4.heap.size) (.slice (some ⟨g, 0, none⟩) (k + 1) cap) (t.ps.take (k + 1))) := by
            obtain ⟨vs, h1, h2, h3, h4, h5, h6⟩ := o1
            exact ⟨vs, h1, h2, h3, h4, fun q hq => World.ownsRow.lt h2 q hq, fun j hj q hq => World.ownsRow.lt (h3 j hj) q hq⟩
          have HX4 : Hid (X3 T4 rb (.int .i64 s) (.slice a' k c') (.slice a4 ln c4)) := HX2b.out.rngP rg (fun h => by omega)
          have HC4 : Hid (Own T4 w2.heap.size (.slice a4 ln c4) t.cs) := (HC.out.later HB2b.out).rngP rg (fun q e h => by have := HCB2.out q e; omega)
          have hw2s := HB.out.size
          have HB4 : Hid (Below w2.heap.size w2 T4) := (HB.out.trans (HB2b.out.mono HB.out.size)).trans (rg.below (fun q hq => by omega) (by omega))
          have hs4 : T2.heap.size ≤ T4.heap.size := rg.size
          clear hlt4 hbl rg o1
          refine wpAnyH_ready (rs := [6]) (by kernel_rfl) (by simp) ?_
          refine AllReadyH.cons (o := _) rfl (fun K hK => ?_) AllReadyH.nil
          rw [if_pos (by rfl)]
          refine Lib.wp_append_run _ _ _ _ _ rfl (.slice a' k c') (.slice (some ⟨T2.heap.size, 0, none⟩) 1 1) (by rfl) (by rfl) (.slice (some ⟨g, 0, none⟩) (k + 1) cap) T4 (r1 _) ?_
          clear r1
          refine hK.out _ _ ?_ (fun hHeld => ?_)
          · trivial
          clear hK K
          try simp only [Act.put, List.setIfInBounds_toArray, List.set_cons_zero, List.set_cons_succ]
          try simp only [List.getElem_toArray, List.getElem_cons_succ, List.getElem_cons_zero, Act.put, List.setIfInBounds_toArray, List.set_cons_zero, List.set_cons_succ]
          refine takeSO15 (i := 7) (oi := _) (v := ?_) (d := some 59) rfl (by kernel_rfl) (by kernel_rfl) (by kernel_rfl) (by kernel_rfl) (fun _ _ _ h => h) (Or.inl ⟨by rfl, ?_⟩) (by assumption) ?_
          rotate_left
          · (intro w hSw; (try dsimp only at hSw); go_simp <;> with_reducible rfl)
          try simp only [Act.put, List.setIfInBounds_toArray, List.set_cons_zero, List.set_cons_succ]
          have hT := HX4.out
          have hXF := hT.set1 (.slice (some ⟨g, 0, none⟩) (k + 1) cap)
          have hP5 := HP4.out.setBox (r := rb) (j := 1) (by omega) (.slice (some ⟨g, 0, none⟩) (k + 1) cap)
          have hC5 := HC4.out.kept (grown_setCell T4 rb 1 (.slice (some ⟨g, 0, none⟩) (k + 1) cap)) (Or.inr HNE.out)
          have hB5 := HB4.out.setCell (p := ⟨rb, 1, none⟩) (by show w2.heap.size ≤ rb; exact hrb1) (.slice (some ⟨g, 0, none⟩) (k + 1) cap)
          have hs5 : (T4.setCell ⟨rb, 1, none⟩ (.slice (some ⟨g, 0, none⟩) (k + 1) cap)).heap.size = T4.heap.size := World.size_setCell ..
          obtain ⟨⟨z0, z1, z2⟩, zf⟩ := hT
          have zf1 := zf 1
          clear zf
          obtain ⟨T5, hT5⟩ : ∃ X, T4.setCell ⟨rb, 1, none⟩ (.slice (some ⟨g, 0, none⟩) (k + 1) cap) = X := ⟨_, rfl⟩
          rw [hT5] at hXF hP5 hC5 hB5 hs5
          rw [← hs5] at hP5
          have HP5 : Hid (OwnIP T5 Z.heap.size (fun q => Z.heap.size ≤ q ∧ q < T5.heap.size) (.slice (some ⟨g, 0, none⟩) (k + 1) cap) (t.ps.take (k + 1))) := hP5
          have HX5 : Hid (X3 T5 rb (.int .i64 s) (.slice (some ⟨g, 0, none⟩) (k + 1) cap) (.slice a4 ln c4)) := hXF
          have HC5 : Hid (Own T5 w2.heap.size (.slice a4 ln c4) t.cs) := hC5
          have HB5 : Hid (Below w2.heap.size w2 T5) := hB5
          have hsz5 : Z.heap.size ≤ T5.heap.size := by omega
          clear hXF hP5 hC5 hB5
          refine wpAnyH_ready (rs := [8]) (by kernel_rfl) (by simp) ?_
          refine AllReadyH.cons (o := _) rfl (fun K hK => ?_) AllReadyH.nil
          go_simp
          refine hK.out _ _ ?_ (fun hHeld => ?_)
          · trivial
          clear hK K
          try simp only [Act.put, List.setIfInBounds_toArray, List.set_cons_zero, List.set_cons_succ]
          try rw [hT5] at hHeld
          try rw [hT5]
          refine wpAnyH_done (by kernel_rfl) ?_ _
          clear hHeld hT5 z0 z1 z2 zf1 g0 HP HX HC HB hs5 hs4 hw2s hsT hsD hs3 HX1b HB1b HE1 HU HX2b HB2b HX3b HP4 HX4 HC4 HB4 HXD2 HBD2 HRO HNI HP2 HTK HTL
          go_wp2
          go_roundw
          case rel => exact ⟨k + 1, _, cap, by omega, by go_num, HP5, HX5, HC5, HB5, hsz5⟩
          case measure => simp [intOf]; omega
        · have hb1 := balloc D2 (.cells #[] 3)
          have hE1 := emptyI D2
          obtain ⟨T1, hT1⟩ : ∃ X, D2.alloc (.cells #[] 3) = X := ⟨_, rfl⟩
          rw [hT1] at hb1 hE1
          have HX1b : Hid (X3 T1 rb (.int .i64 s) (.slice a' k c') (.slice a4 ln c4)) := HXD2.out.later hb1
          have HB1b : Hid (Below wr.heap.size wr T1) := HBD2.out.trans (hb1.mono HBD2.out.size)
          have HE1 : Hid (Own T1 D2.heap.size (.slice (some ⟨D2.heap.size, 0, none⟩) 0 0) []) := hE1
          have hs3 : D2.heap.size ≤ T1.heap.size := hb1.size
          clear hb1 hE1
          go_simp
          refine hK.out _ _ ?_ (fun hHeld => ?_)
          · trivial
          clear hK K
          try simp only [Act.put, List.setIfInBounds_toArray, List.set_cons_zero, List.set_cons_succ]
          try rw [hT1] at hHeld
          try rw [hT1]
          clear hT1
          refine wpAnyH_ready (rs := [1, 4]) (by kernel_rfl) (by simp) ?_
          refine AllReadyH.cons (o := _) rfl (fun K hK => ?_) (AllReadyH.cons (o := _) rfl (fun K hK => ?_) AllReadyH.nil)
          · have cc := HX1b.out.1.2.1
            go_simp
            refine hK.out _ _ ?_ (fun hHeld => ?_)
            · trivial
            clear hK K cc
            try simp only [Act.put, List.setIfInBounds_toArray, List.set_cons_zero, List.set_cons_succ]
            refine wpAnyH_ready (rs := [4]) (by kernel_rfl) (by simp) ?_
            refine AllReadyH.cons (o := _) rfl (fun K hK => ?_) AllReadyH.nil
            rw [if_pos (by rfl)]
            obtain ⟨v', T2, r1, o1, gg, b1⟩ := appendI_run T1 D2.heap.size (.slice (some ⟨D2.heap.size, 0, none⟩) 0 0) [] p ro 2 rc HE1.out (HRO.out.later HB1b.out) HP2.out HNI.out (by simp) hs3
            obtain ⟨ua, uc, hv4⟩ := o1.shape
            rw [List.nil_append] at o1 hv4
            rw [HP2.out] at hv4
            subst hv4
            have HU : Hid (Own T2 D2.heap.size (.slice ua 2 uc) p) := o1
            have HX2b : Hid (X3 T2 rb (.int .i64 s) (.slice a' k c') (.slice a4 ln c4)) := HX1b.out.grown gg (fun e => by have h1 := own_block_ge HE1.out _ e.symm; have h2 := HX.out.lt; have h3 := HBD2.out.size; omega)
            have HB2b : Hid (Below wr.heap.size wr T2) := HB1b.out.trans (b1.mono HBD2.out.size)
            clear o1 gg b1
            refine Lib.wp_append_run _ _ _ _ _ rfl (.slice (some ⟨D2.heap.size, 0, none⟩) 0 0) (.slice ro 2 rc) (by rfl) (by rfl) (.slice ua 2 uc) T2 (r1 _) ?_
            clear r1
            refine hK.out _ _ ?_ (fun hHeld => ?_)
            · trivial
            clear hK K
            simp only [List.getElem_toArray, List.getElem_cons_succ, List.getElem_cons_zero, Act.put, List.setIfInBounds_toArray, List.set_cons_zero, List.set_cons_succ]
            refine wpAnyH_ready (rs := [5]) (by kernel_rfl) (by simp) ?_
            refine AllReadyH.cons (o := _) rfl (fun K hK => ?_) AllReadyH.nil
            have hbl : ∀ q, (Value.slice ua 2 uc).ownBlock = some q → D2.heap.size ≤ q ∧ q < T2.heap.size := World.ownsRow.lt HU.out
            have hsD : wr.heap.size ≤ D2.heap.size := HBD2.out.size
            have hsT : wr.heap.size ≤ T2.heap.size := HB2b.out.size
            obtain ⟨g, cap, T4, r1, o1, rg⟩ := pushIP_run T2 Z.heap.size (fun q => Z.heap.size ≤ q ∧ q < wr.heap.size) (.slice a' k c') (t.ps.take k) ua 2 uc p (HP.out.later HB2b.out) (HU.out.mono (by omega)) (fun q hq h => by have := hbl q hq; omega) (by rw [HTL.out]; omega) (by omega) (fun q hq => by omega)
            rw [HTL.out] at r1 o1
            rw [← HTK.out] at o1
            have hb3 := balloc T2 (.cells #[.slice ua 2 uc] 24)
            obtain ⟨T3, hT3⟩ : ∃ X, T2.alloc (.cells #[.slice ua 2 uc] 24) = X := ⟨_, rfl⟩
            rw [hT3] at hb3 r1
            have HX3b : Hid (X3 T3 rb (.int .i64 s) (.slice a' k c') (.slice a4 ln c4)) := HX2b.out.later hb3
            clear hb3
            go_simp
            refine hK.out _ _ ?_ (fun hHeld => ?_)
            · trivial
            clear hK K
            try simp only [Act.put, List.setIfInBounds_toArray, List.set_cons_zero, List.set_cons_succ]
            try rw [hT3] at hHeld
            try rw [hT3]
            clear hT3
            have hlt4 : ∀ q, (Value.slice (some ⟨g, 0, none⟩) (k + 1) cap).ownBlock = some q → q < T4.heap.size := by
              obtain ⟨vs, _, hvo, _⟩ := o1
              exact fun q hq => (World.ownsRow.lt hvo q hq).2
            have HP4 : Hid (OwnIP T4 Z.heap.size (fun q => Z.heap.size ≤ q ∧ q < T4.heap.size) (.slice (some ⟨g, 0, none⟩) (k + 1) cap) (t.ps.take (k + 1))) := by
              obtain ⟨vs, h1, h2, h3, h4, h5, h6⟩ := o1
              exact ⟨vs, h1, h2, h3, h4, fun q hq => World.ownsRow.lt h2 q hq, fun j hj q hq => World.ownsRow.lt (h3 j hj) q hq⟩
            have HX4 : Hid (X3 T4 rb (.int .i64 s) (.slice a' k c') (.slice a4 ln c4)) := HX2b.out.rngP rg (fun h => by omega)
            have HC4 : Hid (Own T4 w2.heap.size (.slice a4 ln c4) t.cs) := (HC.out.later HB2b.out).rngP rg (fun q e h => by have := HCB2.out q e; omega)
            have hw2s := HB.out.size
            have HB4 : Hid (Below w2.heap.size w2 T4) := (HB.out.trans (HB2b.out.mono HB.out.size)).trans (rg.below (fun q hq => by omega) (by omega))
            have hs4 : T2.heap.size ≤ T4.heap.size := rg.size
            clear hlt4 hbl rg o1
            refine wpAnyH_ready (rs := [6]) (by kernel_rfl) (by simp) ?_
            refine AllReadyH.cons (o := _) rfl (fun K hK => ?_) AllReadyH.nil
            rw [if_pos (by rfl)]
            refine Lib.wp_append_run _ _ _ _ _ rfl (.slice a' k c') (.slice (some ⟨T2.heap.size, 0, none⟩) 1 1) (by rfl) (by rfl) (.slice (some ⟨g, 0, none⟩) (k + 1) cap) T4 (r1 _) ?_
            clear r1
            refine hK.out _ _ ?_ (fun hHeld => ?_)
            · trivial
            clear hK K
            try simp only [Act.put, List.setIfInBounds_toArray, List.set_cons_zero, List.set_cons_succ]
            try simp only [List.getElem_toArray, List.getElem_cons_succ, List.getElem_cons_zero, Act.put, List.setIfInBounds_toArray, List.set_cons_zero, List.set_cons_succ]
            refine takeSO15 (i := 7) (oi := _) (v := ?_) (d := some 59) rfl (by kernel_rfl) (by kernel_rfl) (by kernel_rfl) (by kernel_rfl) (fun _ _ _ h => h) (Or.inl ⟨by rfl, ?_⟩) (by assumption) ?_
            rotate_left
            · (intro w hSw; (try dsimp only at hSw); go_simp <;> with_reducible rfl)
            try simp only [Act.put, List.setIfInBounds_toArray, List.set_cons_zero, List.set_cons_succ]
            have hT := HX4.out
            have hXF := hT.set1 (.slice (some ⟨g, 0, none⟩) (k + 1) cap)
            have hP5 := HP4.out.setBox (r := rb) (j := 1) (by omega) (.slice (some ⟨g, 0, none⟩) (k + 1) cap)
            have hC5 := HC4.out.kept (grown_setCell T4 rb 1 (.slice (some ⟨g, 0, none⟩) (k + 1) cap)) (Or.inr HNE.out)
            have hB5 := HB4.out.setCell (p := ⟨rb, 1, none⟩) (by show w2.heap.size ≤ rb; exact hrb1) (.slice (some ⟨g, 0, none⟩) (k + 1) cap)
            have hs5 : (T4.setCell ⟨rb, 1, none⟩ (.slice (some ⟨g, 0, none⟩) (k + 1) cap)).heap.size = T4.heap.size := World.size_setCell ..
            obtain ⟨⟨z0, z1, z2⟩, zf⟩ := hT
            have zf1 := zf 1
            clear zf
            obtain ⟨T5, hT5⟩ : ∃ X, T4.setCell ⟨rb, 1, none⟩ (.slice (some ⟨g, 0, none⟩) (k + 1) cap) = X := ⟨_, rfl⟩
            rw [hT5] at hXF hP5 hC5 hB5 hs5
            rw [← hs5] at hP5
            have HP5 : Hid (OwnIP T5 Z.heap.size (fun q => Z.heap.size ≤ q ∧ q < T5.heap.size) (.slice (some ⟨g, 0, none⟩) (k + 1) cap) (t.ps.take (k + 1))) := hP5
            have HX5 : Hid (X3 T5 rb (.int .i64 s) (.slice (some ⟨g, 0, none⟩) (k + 1) cap) (.slice a4 ln c4)) := hXF
            have HC5 : Hid (Own T5 w2.heap.size (.slice a4 ln c4) t.cs) := hC5
            have HB5 : Hid (Below w2.heap.size w2 T5) := hB5
            have hsz5 : Z.heap.size ≤ T5.heap.size := by omega
            clear hXF hP5 hC5 hB5
            refine wpAnyH_ready (rs := [8]) (by kernel_rfl) (by simp) ?_
            refine AllReadyH.cons (o := _) rfl (fun K hK => ?_) AllReadyH.nil
            go_simp
            refine hK.out _ _ ?_ (fun hHeld => ?_)
            · trivial
            clear hK K
            try simp only [Act.put, List.setIfInBounds_toArray, List.set_cons_zero, List.set_cons_succ]
            try rw [hT5] at hHeld
            try rw [hT5]
            refine wpAnyH_done (by kernel_rfl) ?_ _
            clear hHeld hT5 z0 z1 z2 zf1 g0 HP HX HC HB hs5 hs4 hw2s hsT hsD hs3 HX1b HB1b HE1 HU HX2b HB2b HX3b HP4 HX4 HC4 HB4 HXD2 HBD2 HRO HNI HP2 HTK HTL
            go_wp2
            go_roundw
            case rel => exact ⟨k + 1, _, cap, by omega, by go_num, HP5, HX5, HC5, HB5, hsz5⟩
            case measure => simp [intOf]; omega
          · rw [if_pos (by rfl)]
            obtain ⟨v', T2, r1, o1, gg, b1⟩ := appendI_run T1 D2.heap.size (.slice (some ⟨D2.heap.size, 0, none⟩) 0 0) [] p ro 2 rc HE1.out (HRO.out.later HB1b.out) HP2.out HNI.out (by simp) hs3
            obtain ⟨ua, uc, hv4⟩ := o1.shape
            rw [List.nil_append] at o1 hv4
            rw [HP2.out] at hv4
            subst hv4
            have HU : Hid (Own T2 D2.heap.size (.slice ua 2 uc) p) := o1
            have HX2b : Hid (X3 T2 rb (.int .i64 s) (.slice a' k c') (.slice a4 ln c4)) := HX1b.out.grown gg (fun e => by have h1 := own_block_ge HE1.out _ e.symm; have h2 := HX.out.lt; have h3 := HBD2.out.size; omega)
            have HB2b : Hid (Below wr.heap.size wr T2) := HB1b.out.trans (b1.mono HBD2.out.size)
            clear o1 gg b1
            refine Lib.wp_append_run _ _ _ _ _ rfl (.slice (some ⟨D2.heap.size, 0, none⟩) 0 0) (.slice ro 2 rc) (by rfl) (by rfl) (.slice ua 2 uc) T2 (r1 _) ?_
            clear r1
            refine hK.out _ _ ?_ (fun hHeld => ?_)
            · trivial
            clear hK K
            simp only [List.getElem_toArray, List.getElem_cons_succ, List.getElem_cons_zero, Act.put, List.setIfInBounds_toArray, List.set_cons_zero, List.set_cons_succ]
            refine wpAnyH_ready (rs := [1, 5]) (by kernel_rfl) (by simp) ?_
            refine AllReadyH.cons (o := _) rfl (fun K hK => ?_) (AllReadyH.cons (o := _) rfl (fun K hK => ?_) AllReadyH.nil)
            · have cc := HX2b.out.1.2.1
              go_simp
              refine hK.out _ _ ?_ (fun hHeld => ?_)
              · trivial
              clear hK K cc
              try simp only [Act.put, List.setIfInBounds_toArray, List.set_cons_zero, List.set_cons_succ]
              refine wpAnyH_ready (rs := [5]) (by kernel_rfl) (by simp) ?_
              refine AllReadyH.cons (o := _) rfl (fun K hK => ?_) AllReadyH.nil
              have hbl : ∀ q, (Value.slice ua 2 uc).ownBlock = some q → D2.heap.size ≤ q ∧ q < T2.heap.size := World.ownsRow.lt HU.out
              have hsD : wr.heap.size ≤ D2.heap.size := HBD2.out.size
              have hsT : wr.heap.size ≤ T2.heap.size := HB2b.out.size
              obtain ⟨g, cap, T4, r1, o1, rg⟩ := pushIP_run T2 Z.heap.size (fun q => Z.heap.size ≤ q ∧ q < wr.heap.size) (.slice a' k c') (t.ps.take k) ua 2 uc p (HP.out.later HB2b.out) (HU.out.mono (by omega)) (fun q hq h => by have := hbl q hq; omega) (by rw [HTL.out]; omega) (by omega) (fun q hq => by omega)
              rw [HTL.out] at r1 o1
              rw [← HTK.out] at o1
              have hb3 := balloc T2 (.cells #[.slice ua 2 uc] 24)
              obtain ⟨T3, hT3⟩ : ∃ X, T2.alloc (.cells #[.slice ua 2 uc] 24) = X := ⟨_, rfl⟩
              rw [hT3] at hb3 r1
              have HX3b : Hid (X3 T3 rb (.int .i64 s) (.slice a' k c') (.slice a4 ln c4)) := HX2b.out.later hb3
              clear hb3
              go_simp
              refine hK.out _ _ ?_ (fun hHeld => ?_)
              · trivial
              clear hK K
              try simp only [Act.put, List.setIfInBounds_toArray, List.set_cons_zero, List.set_cons_succ]
              try rw [hT3] at hHeld
              try rw [hT3]
              clear hT3
              have hlt4 : ∀ q, (Value.slice (some ⟨g, 0, none⟩) (k + 1) cap).ownBlock = some q → q < T4.heap.size := by
                obtain ⟨vs, _, hvo, _⟩ := o1
                exact fun q hq => (World.ownsRow.lt hvo q hq).2
              have HP4 : Hid (OwnIP T4 Z.heap.size (fun q => Z.heap.size ≤ q ∧ q < T4.heap.size) (.slice (some ⟨g, 0, none⟩) (k + 1) cap) (t.ps.take (k + 1))) := by
                obtain ⟨vs, h1, h2, h3, h4, h5, h6⟩ := o1
                exact ⟨vs, h1, h2, h3, h4, fun q hq => World.ownsRow.lt h2 q hq, fun j hj q hq => World.ownsRow.lt (h3 j hj) q hq⟩
              have HX4 : Hid (X3 T4 rb (.int .i64 s) (.slice a' k c') (.slice a4 ln c4)) := HX2b.out.rngP rg (fun h => by omega)
              have HC4 : Hid (Own T4 w2.heap.size (.slice a4 ln c4) t.cs) := (HC.out.later HB2b.out).rngP rg (fun q e h => by have := HCB2.out q e; omega)
              have hw2s := HB.out.size
              have HB4 : Hid (Below w2.heap.size w2 T4) := (HB.out.trans (HB2b.out.mono HB.out.size)).trans (rg.below (fun q hq => by omega) (by omega))
              have hs4 : T2.heap.size ≤ T4.heap.size := rg.size
              clear hlt4 hbl rg o1
              refine wpAnyH_ready (rs := [6]) (by kernel_rfl) (by simp) ?_
              refine AllReadyH.cons (o := _) rfl (fun K hK => ?_) AllReadyH.nil
              rw [if_pos (by rfl)]
              refine Lib.wp_append_run _ _ _ _ _ rfl (.slice a' k c') (.slice (some ⟨T2.heap.size, 0, none⟩) 1 1) (by rfl) (by rfl) (.slice (some ⟨g, 0, none⟩) (k + 1) cap) T4 (r1 _) ?_
              clear r1
              refine hK.out _ _ ?_ (fun hHeld => ?_)
              · trivial
              clear hK K
              try simp only [Act.put, List.setIfInBounds_toArray, List.set_cons_zero, List.set_cons_succ]
              try simp only [List.getElem_toArray, List.getElem_cons_succ, List.getElem_cons_zero, Act.put, List.setIfInBounds_toArray, List.set_cons_zero, List.set_cons_succ]
              refine takeSO15 (i := 7) (oi := _) (v := ?_) (d := some 59) rfl (by kernel_rfl) (by kernel_rfl) (by kernel_rfl) (by kernel_rfl) (fun _ _ _ h => h) (Or.inl ⟨by rfl, ?_⟩) (by assumption) ?_
              rotate_left
              · (intro w hSw; (try dsimp only at hSw); go_simp <;> with_reducible rfl)
              try simp only [Act.put, List.setIfInBounds_toArray, List.set_cons_zero, List.set_cons_succ]
              have hT := HX4.out
              have hXF := hT.set1 (.slice (some ⟨g, 0, none⟩) (k + 1) cap)
              have hP5 := HP4.out.setBox (r := rb) (j := 1) (by omega) (.slice (some ⟨g, 0, none⟩) (k + 1) cap)
              have hC5 := HC4.out.kept (grown_setCell T4 rb 1 (.slice (some ⟨g, 0, none⟩) (k + 1) cap)) (Or.inr HNE.out)
              have hB5 := HB4.out.setCell (p := ⟨rb, 1, none⟩) (by show w2.heap.size ≤ rb; exact hrb1) (.slice (some ⟨g, 0, none⟩) (k + 1) cap)
              have hs5 : (T4.setCell ⟨rb, 1, none⟩ (.slice (some ⟨g, 0, none⟩) (k + 1) cap)).heap.size = T4.heap.size := World.size_setCell ..
              obtain ⟨⟨z0, z1, z2⟩, zf⟩ := hT
              have zf1 := zf 1
              clear zf
              obtain ⟨T5, hT5⟩ : ∃ X, T4.setCell ⟨rb, 1, none⟩ (.slice (some ⟨g, 0, none⟩) (k + 1) cap) = X := ⟨_, rfl⟩
              rw [hT5] at hXF hP5 hC5 hB5 hs5
              rw [← hs5] at hP5
              have HP5 : Hid (OwnIP T5 Z.heap.size (fun q => Z.heap.size ≤ q ∧ q < T5.heap.size) (.slice (some ⟨g, 0, none⟩) (k + 1) cap) (t.ps.take (k + 1))) := hP5
              have HX5 : Hid (X3 T5 rb (.int .i64 s) (.slice (some ⟨g, 0, none⟩) (k + 1) cap) (.slice a4 ln c4)) := hXF
              have HC5 : Hid (Own T5 w2.heap.size (.slice a4 ln c4) t.cs) := hC5
              have HB5 : Hid (Below w2.heap.size w2 T5) := hB5
              have hsz5 : Z.heap.size ≤ T5.heap.size := by omega
              clear hXF hP5 hC5 hB5
              refine wpAnyH_ready (rs := [8]) (by kernel_rfl) (by simp) ?_
              refine AllReadyH.cons (o := _) rfl (fun K hK => ?_) AllReadyH.nil
              go_simp
              refine hK.out _ _ ?_ (fun hHeld => ?_)
              · trivial
              clear hK K
              try simp only [Act.put, List.setIfInBounds_toArray, List.set_cons_zero, List.set_cons_succ]
              try rw [hT5] at hHeld
              try rw [hT5]
              refine wpAnyH_done (by kernel_rfl) ?_ _
              clear hHeld hT5 z0 z1 z2 zf1 g0 HP HX HC HB hs5 hs4 hw2s hsT hsD hs3 HX1b HB1b HE1 HU HX2b HB2b HX3b HP4 HX4 HC4 HB4 HXD2 HBD2 HRO HNI HP2 HTK HTL
              go_wp2
              go_roundw
              case rel => exact ⟨k + 1, _, cap, by omega, by go_num, HP5, HX5, HC5, HB5, hsz5⟩
              case measure => simp [intOf]; omega
            · have hbl : ∀ q, (Value.slice ua 2 uc).ownBlock = some q → D2.heap.size ≤ q ∧ q < T2.heap.size := World.ownsRow.lt HU.out
              have hsD : wr.heap.size ≤ D2.heap.size := HBD2.out.size
              have hsT : wr.heap.size ≤ T2.heap.size := HB2b.out.size
              obtain ⟨g, cap, T4, r1, o1, rg⟩ := pushIP_run T2 Z.heap.size (fun q => Z.heap.size ≤ q ∧ q < wr.heap.size) (.slice a' k c') (t.ps.take k) ua 2 uc p (HP.out.later HB2b.out) (HU.out.mono (by omega)) (fun q hq h => by have := hbl q hq; omega) (by rw [HTL.out]; omega) (by omega) (fun q hq => by omega)
              rw [HTL.out] at r1 o1
              rw [← HTK.out] at o1
              have hb3 := balloc T2 (.cells #[.slice ua 2 uc] 24)
              obtain ⟨T3, hT3⟩ : ∃ X, T2.alloc (.cells #[.slice ua 2 uc] 24) = X := ⟨_, rfl⟩
              rw [hT3] at hb3 r1
              have HX3b : Hid (X3 T3 rb (.int .i64 s) (.slice a' k c') (.slice a4 ln c4)) := HX2b.out.later hb3
              clear hb3
              go_simp
              refine hK.out _ _ ?_ (fun hHeld => ?_)
              · trivial
              clear hK K
              try simp only [Act.put, List.setIfInBounds_toArray, List.set_cons_zero, List.set_cons_succ]
              try rw [hT3] at hHeld
              try rw [hT3]
              clear hT3
              refine wpAnyH_ready (rs := [1]) (by kernel_rfl) (by simp) ?_
              refine AllReadyH.cons (o := _) rfl (fun K hK => ?_) AllReadyH.nil
              have cc := HX3b.out.1.2.1
              go_simp
              refine hK.out _ _ ?_ (fun hHeld => ?_)
              · trivial
              clear hK K cc
              try simp only [Act.put, List.setIfInBounds_toArray, List.set_cons_zero, List.set_cons_succ]
              have hlt4 : ∀ q, (Value.slice (some ⟨g, 0, none⟩) (k + 1) cap).ownBlock = some q → q < T4.heap.size := by
                obtain ⟨vs, _, hvo, _⟩ := o1
                exact fun q hq => (World.ownsRow.lt hvo q hq).2
              have HP4 : Hid (OwnIP T4 Z.heap.size (fun q => Z.heap.size ≤ q ∧ q < T4.heap.size) (.slice (some ⟨g, 0, none⟩) (k + 1) cap) (t.ps.take (k + 1))) := by
                obtain ⟨vs, h1, h2, h3, h4, h5, h6⟩ := o1
                exact ⟨vs, h1, h2, h3, h4, fun q hq => World.ownsRow.lt h2 q hq, fun j hj q hq => World.ownsRow.lt (h3 j hj) q hq⟩
              have HX4 : Hid (X3 T4 rb (.int .i64 s) (.slice a' k c') (.slice a4 ln c4)) := HX2b.out.rngP rg (fun h => by omega)
              have HC4 : Hid (Own T4 w2.heap.size (.slice a4 ln c4) t.cs) := (HC.out.later HB2b.out).rngP rg (fun q e h => by have := HCB2.out q e; omega)
              have hw2s := HB.out.size
              have HB4 : Hid (Below w2.heap.size w2 T4) := (HB.out.trans (HB2b.out.mono HB.out.size)).trans (rg.below (fun q hq => by omega) (by omega))
              have hs4 : T2.heap.size ≤ T4.heap.size := rg.size
              clear hlt4 hbl rg o1
              refine wpAnyH_ready (rs := [6]) (by kernel_rfl) (by simp) ?_
              refine AllReadyH.cons (o := _) rfl (fun K hK => ?_) AllReadyH.nil
              rw [if_pos (by rfl)]
              refine Lib.wp_append_run _ _ _ _ _ rfl (.slice a' k c') (.slice (some ⟨T2.heap.size, 0, none⟩) 1 1) (by rfl) (by rfl) (.slice (some ⟨g, 0, none⟩) (k + 1) cap) T4 (r1 _) ?_
              clear r1
              refine hK.out _ _ ?_ (fun hHeld => ?_)
              · trivial
              clear hK K
              try simp only [Act.put, List.setIfInBounds_toArray, List.set_cons_zero, List.set_cons_succ]
              try simp only [List.getElem_toArray, List.getElem_cons_succ, List.getElem_cons_zero, Act.put, List.setIfInBounds_toArray, List.set_cons_zero, List.set_cons_succ]
              refine takeSO15 (i := 7) (oi := _) (v := ?_) (d := some 59) rfl (by kernel_rfl) (by kernel_rfl) (by kernel_rfl) (by kernel_rfl) (fun _ _ _ h => h) (Or.inl ⟨by rfl, ?_⟩) (by assumption) ?_
              rotate_left
              · (intro w hSw; (try dsimp only at hSw); go_simp <;> with_reducible rfl)
              try simp only [Act.put, List.setIfInBounds_toArray, List.set_cons_zero, List.set_cons_succ]
              have hT := HX4.out
              have hXF := hT.set1 (.slice (some ⟨g, 0, none⟩) (k + 1) cap)
              have hP5 := HP4.out.setBox (r := rb) (j := 1) (by omega) (.slice (some ⟨g, 0, none⟩) (k + 1) cap)
              have hC5 := HC4.out.kept (grown_setCell T4 rb 1 (.slice (some ⟨g, 0, none⟩) (k + 1) cap)) (Or.inr HNE.out)
              have hB5 := HB4.out.setCell (p := ⟨rb, 1, none⟩) (by show w2.heap.size ≤ rb; exact hrb1) (.slice (some ⟨g, 0, none⟩) (k + 1) cap)
              have hs5 : (T4.setCell ⟨rb, 1, none⟩ (.slice (some ⟨g, 0, none⟩) (k + 1) cap)).heap.size = T4.heap.size := World.size_setCell ..
              obtain ⟨⟨z0, z1, z2⟩, zf⟩ := hT
              have zf1 := zf 1
              clear zf
              obtain ⟨T5, hT5⟩ : ∃ X, T4.setCell ⟨rb, 1, none⟩ (.slice (some ⟨g, 0, none⟩) (k + 1) cap) = X := ⟨_, rfl⟩
              rw [hT5] at hXF hP5 hC5 hB5 hs5
              rw [← hs5] at hP5
              have HP5 : Hid (OwnIP T5 Z.heap.size (fun q => Z.heap.size ≤ q ∧ q < T5.heap.size) (.slice (some ⟨g, 0, none⟩) (k + 1) cap) (t.ps.take (k + 1))) := hP5
              have HX5 : Hid (X3 T5 rb (.int .i64 s) (.slice (some ⟨g, 0, none⟩) (k + 1) cap) (.slice a4 ln c4)) := hXF
              have HC5 : Hid (Own T5 w2.heap.size (.slice a4 ln c4) t.cs) := hC5
              have HB5 : Hid (Below w2.heap.size w2 T5) := hB5
              have hsz5 : Z.heap.size ≤ T5.heap.size := by omega
              clear hXF hP5 hC5 hB5
              refine wpAnyH_ready (rs := [8]) (by kernel_rfl) (by simp) ?_
              refine AllReadyH.cons (o := _) rfl (fun K hK => ?_) AllReadyH.nil
              go_simp
              refine hK.out _ _ ?_ (fun hHeld => ?_)
              · trivial
              clear hK K
              try simp only [Act.put, List.setIfInBounds_toArray, List.set_cons_zero, List.set_cons_succ]
              try rw [hT5] at hHeld
              try rw [hT5]
              refine wpAnyH_done (by kernel_rfl) ?_ _
              clear hHeld hT5 z0 z1 z2 zf1 g0 HP HX HC HB hs5 hs4 hw2s hsT hsD hs3 HX1b HB1b HE1 HU HX2b HB2b HX3b HP4 HX4 HC4 HB4 HXD2 HBD2 HRO HNI HP2 HTK HTL
              go_wp2
              go_roundw
              case rel => exact ⟨k + 1, _, cap, by omega, by go_num, HP5, HX5, HC5, HB5, hsz5⟩
              case measure => simp [intOf]; omega
    · have hbn := balloc Y1 (.cells #[.int .i64 0, .slice none 0 0, .slice none 0 0] 26)
      have hbox := x3_new Y1 (.int .i64 0) (.slice none 0 0) (.slice none 0 0) 26 Y1.heap.size rfl
      have hobj := box_obj15 Y1 #[.int .i64 0, .slice none 0 0, .slice none 0 0]
      obtain ⟨Y2, hY2⟩ : ∃ X, Y1.alloc (.cells #[.int .i64 0, .slice none 0 0, .slice none 0 0] 26) = X := ⟨_, rfl⟩
      rw [hY2] at hbn hbox hobj
      have HXY2 : Hid (X3 Y2 w.heap.size (.int .i64 s) (.slice sa sn sc) (.slice la ln lc)) := HXY1.out.later hbn
      have HBY2 : Hid (Below w2.heap.size w2 Y2) := HBY1.out.trans (hbn.mono HBY1.out.size)
      have HEY2 : Hid (Own Y2 w2.heap.size (.slice (some ⟨D.heap.size, 0, none⟩) 0 0) []) := HEY1.out.later hbn
      have HTY2 : Hid (X3 Y2 Y1.heap.size (.int .i64 0) (.slice none 0 0) (.slice none 0 0)) := hbox
      have HJY2 : Hid (Y2.heap[Y1.heap.size]? = some (.cells #[.int .i64 0, .slice none 0 0, .slice none 0 0] 26 (0, 0))) := hobj
      have hrb1 : w2.heap.size ≤ Y1.heap.size := HBY1.out.size
      clear hbn hbox hobj
      go_simp
      refine hK.out _ _ ?_ (fun hHeld => ?_)
      · (try rw [hY2]); exact HXY2.out.1
      clear hK K
      try simp only [Act.put, List.setIfInBounds_toArray, List.set_cons_zero, List.set_cons_succ]
      try rw [hY2] at hHeld
      try rw [hY2]
      clear hY2
      refine wpAnyH_ready (rs := [5]) (by kernel_rfl) (by simp) ?_
      refine AllReadyH.cons (o := _) rfl (fun K hK => ?_) AllReadyH.nil
      rw [if_pos (by rfl)]
      obtain ⟨v', Y3, r1, o1, gg, b1⟩ := appendI_run Y2 w2.heap.size (.slice (some ⟨D.heap.size, 0, none⟩) 0 0) [] t.cs la ln lc HEY2.out (HRL.out Y2 (HB2.out.trans (HBY2.out.mono HB2.out.size))) HCL.out HLZ.out (by simp; omega) HBY2.out.size
      obtain ⟨a4, c4, hv4⟩ := o1.shape
      rw [List.nil_append] at o1 hv4
      rw [HCL.out] at hv4
      subst hv4
      have HCY3 : Hid (Own Y3 w2.heap.size (.slice a4 ln c4) t.cs) := o1
      have HXY3 : Hid (X3 Y3 w.heap.size (.int .i64 s) (.slice sa sn sc) (.slice la ln lc)) := HXY2.out.grown gg (fun e => by have h1 := own_block_ge HEY2.out _ e.symm; have h2 := HX2.out.lt; omega)
      have HBY3 : Hid (Below w2.heap.size w2 Y3) := HBY2.out.trans b1
      have hne : (some (Y1.heap.size) : Option Nat) ≠ (Value.slice (some ⟨D.heap.size, 0, none⟩) 0 0).ownBlock := fun e => own_box15 HEY2.out HJY2.out e.symm
      have HTY3 : Hid (X3 Y3 Y1.heap.size (.int .i64 0) (.slice none 0 0) (.slice none 0 0)) := HTY2.out.grown gg hne
      have HJY3 : Hid (Y3.heap[Y1.heap.size]? = some (.cells #[.int .i64 0, .slice none 0 0, .slice none 0 0] 26 (0, 0))) := (gg.block _ HTY2.out.lt hne).trans HJY2.out
      clear hne
      clear o1 gg b1
      refine Lib.wp_append_run _ _ _ _ _ rfl (.slice (some ⟨D.heap.size, 0, none⟩) 0 0) (.slice la ln lc) (by rfl) (by rfl) (.slice a4 ln c4) Y3 (r1 _) ?_
      clear r1
      refine hK.out _ _ ?_ (fun hHeld => ?_)
      · exact HXY3.out.1
      clear hK K
      simp only [List.getElem_toArray, List.getElem_cons_succ, List.getElem_cons_zero, Act.put, List.setIfInBounds_toArray, List.set_cons_zero, List.set_cons_succ]
      refine takeSO15 (i := 6) (oi := _) (v := ?_) (d := some 44) rfl (by kernel_rfl) (by kernel_rfl) (by kernel_rfl) (by kernel_rfl) (fun _ _ _ h => h) (Or.inl ⟨by rfl, ?_⟩) (by assumption) ?_
      rotate_left
      · (intro w hSw; (try dsimp only at hSw); go_simp <;> with_reducible rfl)
      try simp only [Act.put, List.setIfInBounds_toArray, List.set_cons_zero, List.set_cons_succ]
      have hne4 : (Value.slice a4 ln c4).ownBlock ≠ some (Y1.heap.size) := own_box15 HCY3.out HJY3.out
      have hT := HTY3.out
      have hXF := ((hT.set0 (.int .i64 s)).set1 (.slice none 0 0)).set2 (.slice a4 ln c4)
      have hw2w := HX2.out.lt
      have hX3 : X3 (((Y3.setCell ⟨Y1.heap.size, 0, none⟩ (.int .i64 s)).setCell ⟨Y1.heap.size, 1, none⟩ (.slice none 0 0)).setCell ⟨Y1.heap.size, 2, none⟩ (.slice a4 ln c4)) w.heap.size (.int .i64 s) (.slice sa sn sc) (.slice la ln lc) := ((HXY3.out.other (by omega)).other (by omega)).other (by omega)
      have hC3 : Own (((Y3.setCell ⟨Y1.heap.size, 0, none⟩ (.int .i64 s)).setCell ⟨Y1.heap.size, 1, none⟩ (.slice none 0 0)).setCell ⟨Y1.heap.size, 2, none⟩ (.slice a4 ln c4)) w2.heap.size (.slice a4 ln c4) t.cs := ((HCY3.out.kept (grown_setCell _ _ _ _) (Or.inr hne4)).kept (grown_setCell _ _ _ _) (Or.inr hne4)).kept (grown_setCell _ _ _ _) (Or.inr hne4)
      have hB3 : Below w2.heap.size w2 (((Y3.setCell ⟨Y1.heap.size, 0, none⟩ (.int .i64 s)).setCell ⟨Y1.heap.size, 1, none⟩ (.slice none 0 0)).setCell ⟨Y1.heap.size, 2, none⟩ (.slice a4 ln c4)) := ((HBY3.out.setCell (by show w2.heap.size ≤ Y1.heap.size; omega) _).setCell (by show w2.heap.size ≤ Y1.heap.size; omega) _).setCell (by show w2.heap.size ≤ Y1.heap.size; omega) _
      obtain ⟨⟨z0, z1, z2⟩, zf⟩ := hT
      have zf0 := zf 0
      have zf1 := zf 1
      have zf2 := zf 2
      clear zf
      obtain ⟨Z, hZ⟩ : ∃ X, ((Y3.setCell ⟨Y1.heap.size, 0, none⟩ (.int .i64 s)).setCell ⟨Y1.heap.size, 1, none⟩ (.slice none 0 0)).setCell ⟨Y1.heap.size, 2, none⟩ (.slice a4 ln c4) = X := ⟨_, rfl⟩
      rw [hZ] at hXF hX3 hC3 hB3
      have HXZ : Hid (X3 Z w.heap.size (.int .i64 s) (.slice sa sn sc) (.slice la ln lc)) := hX3
      have hrb2 := hXF.lt
      refine wpAnyH_ready (rs := [8]) (by kernel_rfl) (by simp) ?_
      refine AllReadyH.cons (o := _) rfl (fun K hK => ?_) AllReadyH.nil
      go_simp
      refine hK.out _ _ ?_ (fun hHeld => ?_)
      · (try rw [hZ]); exact HXZ.out.1
      clear hK K
      try simp only [Act.put, List.setIfInBounds_toArray, List.set_cons_zero, List.set_cons_succ]
      try rw [hZ] at hHeld
      try rw [hZ]
      refine wpAnyH_done (by kernel_rfl) ?_ _
      clear hHeld hZ z0 z1 z2 zf0 zf1 zf2
      obtain ⟨rb, hrb⟩ : ∃ r, Y1.heap.size = r := ⟨_, rfl⟩
      rw [hrb] at hXF hrb1 hrb2 hne4 ⊢
      have HOT : Hid (X3 Z rb (.int .i64 s) (.slice none 0 0) (.slice a4 ln c4)) := hXF
      have HCZ : Hid (Own Z w2.heap.size (.slice a4 ln c4) t.cs) := hC3
      have HBZ : Hid (Below w2.heap.size w2 Z) := hB3
      have HNE : Hid ((Value.slice a4 ln c4).ownBlock ≠ some rb) := hne4
      clear hXF hX3 hC3 hB3 hrb hne4 
      obtain ⟨⟨f0, f1, f2⟩, _⟩ := HXZ.out
      have HCB2 : Hid (∀ k, (Value.slice a4 ln c4).ownBlock = some k → k < Z.heap.size) := fun k e => (World.ownsRow.lt HCZ.out k e).2
      have hwZ : w2.heap.size ≤ Z.heap.size := HBZ.out.size
      go_wp2_with fail
      clear f0 f1 f2
      go_loopw [48] (fun iv wr => ∃ (k : Nat) (a' : Option Addr) (c' : Nat), k ≤ sn ∧ iv = .int .i64 k ∧ Hid (OwnIP wr Z.heap.size (fun q => Z.heap.size ≤ q ∧ q < wr.heap.size) (.slice a' k c') (t.ps.take k)) ∧ Hid (X3 wr rb (.int .i64 s) (.slice a' k c') (.slice a4 ln c4)) ∧ Hid (Own wr w2.heap.size (.slice a4 ln c4) t.cs) ∧ Hid (Below w2.heap.size w2 wr) ∧ Z.heap.size ≤ wr.heap.size) (fun iv _ => sn - (intOf iv).toNat)
      case atStart => exact ⟨0, none, 0, Nat.zero_le _, rfl, (by show OwnIP _ _ _ _ _; rw [List.take_zero]; exact nilIP Z Z.heap.size _), HOT, HCZ, HBZ, Nat.le_refl _⟩
      case round =>
        clear HOT HCZ HBZ
        obtain ⟨k, a', c', hk, rfl, HP, HX, HC, HB, hsz⟩ := hrel
        by_cases hlt : k < sn
        case neg =>
          have hks := Nat.le_antisymm (Nat.not_lt.1 hlt) hk
          have hge0 : ¬ (k : Int) < (sn : Int) := by omega
          have HTE : Hid (OwnTb wr w2.heap.size wr.heap.size (.slice a' sn c') (.slice a4 ln c4) ⟨s, t.ps, flipL t.cs (way.take 0) x⟩) := by
            have hp := HP.out
            rw [← hks, List.take_of_length_le (by rw [HPL.out]; exact Nat.le_refl _)] at hp
            rw [List.take_zero]
            exact ⟨⟨_, hp.mono (by omega) (fun _ h => h), fun q hq => by omega, fun q e => by have := HCB2.out q e; omega⟩, HC.out⟩
          have HXE2 : Hid (X3 wr rb (.int .i64 s) (.slice a' sn c') (.slice a4 ln c4)) := by have := HX.out; rw [← hks] at this; exact this
          have HBI : Hid (∀ j, j < ln → byB ((flipL t.cs (way.take 0) x).getD j 0) = true) := by rw [List.take_zero]; exact HCB.out
          obtain ⟨wE, hwE⟩ : ∃ X, X = wr := ⟨_, rfl⟩
          rw [← hwE] at HTE HXE2 HB ⊢
          obtain ⟨aP, haP⟩ : ∃ x, a' = x := ⟨_, rfl⟩
          obtain ⟨cP, hcP⟩ : ∃ x, c' = x := ⟨_, rfl⟩
          rw [haP, hcP] at HTE HXE2
          have HSE : Hid (rb < wE.heap.size) := HXE2.out.lt
          clear HP HX HC hwE haP hcP hks
          go_wp2_with fail
          go_loopw [63] (fun iv wr => ∃ k : Nat, k ≤ wn ∧ iv = .int .i64 k ∧ Hid (OwnTb wr w2.heap.size wE.heap.size (.slice aP sn cP) (.slice a4 ln c4) ⟨s, t.ps, flipL t.cs (way.take k) x⟩) ∧ Hid (X3 wr rb (.int .i64 s) (.slice aP sn cP) (.slice a4 ln c4)) ∧ Hid (Below w2.heap.size w2 wr) ∧ wE.heap.size ≤ wr.heap.size ∧ Hid (∀ j, j < ln → byB ((flipL t.cs (way.take k) x).getD j 0) = true)) (fun iv _ => wn - (intOf iv).toNat)
          case atStart => exact ⟨0, Nat.zero_le _, rfl, HTE, HXE2, HB, Nat.le_refl _, HBI⟩
          case round =>
            clear HTE HXE2 HB HBI hsz
            clear hge0
            clear hlt
            clear hk
            obtain ⟨k, hk, rfl, HT, HX, HB, hsz, HBI⟩ := hrel
            have HFL : Hid ((flipL t.cs (way.take k) x).length = ln) := by show _ = _; rw [flipL_length, HCL.out]
            obtain ⟨⟨f0, f1, f2⟩, _⟩ := HX.out
            by_cases hlt : k < wn
            case neg =>
              have hkw := Nat.le_antisymm (Nat.not_lt.1 hlt) hk
              have HZR : Hid (X3 wr V.heap.size (.int .i64 0) (.slice none 0 0) (.slice none 0 0)) := HZ2.out.later HB.out
              have hZ2 := HZR.out
              have hXF := ((hZ2.set0 (.int .i64 s)).set1 (.slice aP sn cP)).set2 (.slice a4 ln c4)
              have hBw : Below w.heap.size w wr := HB2.out.trans (HB.out.mono HB2.out.size)
              have hB3 := ((hBw.setCell (p := ⟨V.heap.size, 0, none⟩) (by show w.heap.size ≤ V.heap.size; omega) (.int .i64 s)).setCell (p := ⟨V.heap.size, 1, none⟩) (by show w.heap.size ≤ V.heap.size; omega) (.slice aP sn cP)).setCell (p := ⟨V.heap.size, 2, none⟩) (by show w.heap.size ≤ V.heap.size; omega) (.slice a4 ln c4)
              have hT3 := ((HT.out.setBox (r := V.heap.size) (j := 0) (Or.inl (by omega)) (.int .i64 s)).setBox (r := V.heap.size) (j := 1) (Or.inl (by omega)) (.slice aP sn cP)).setBox (r := V.heap.size) (j := 2) (Or.inl (by omega)) (.slice a4 ln c4)
              have hsz3 : wr.heap.size ≤ (((wr.setCell ⟨V.heap.size, 0, none⟩ (.int .i64 s)).setCell ⟨V.heap.size, 1, none⟩ (.slice aP sn cP)).setCell ⟨V.heap.size, 2, none⟩ (.slice a4 ln c4)).heap.size := by rw [World.size_setCell, World.size_setCell, World.size_setCell]; exact Nat.le_refl _
              obtain ⟨⟨z0, z1, z2⟩, zf⟩ := hZ2
              have zf0 := zf 0
              have zf1 := zf 1
              have zf2 := zf 2
              clear zf
              obtain ⟨W3, hW3⟩ : ∃ X, ((wr.setCell ⟨V.heap.size, 0, none⟩ (.int .i64 s)).setCell ⟨V.heap.size, 1, none⟩ (.slice aP sn cP)).setCell ⟨V.heap.size, 2, none⟩ (.slice a4 ln c4) = X := ⟨_, rfl⟩
              rw [hW3] at hXF hB3 hT3 hsz3
              rw [← hkw, List.take_of_length_le (by rw [HWL.out]; exact Nat.le_refl _)] at hT3
              have HT3 : Hid (OwnTb W3 w.heap.size W3.heap.size (.slice aP sn cP) (.slice a4 ln c4) ⟨s, t.ps, flipL t.cs way x⟩) := hT3.mono (by omega) (by omega)
              have HB3 : Hid (Below w.heap.size w W3) := hB3
              obtain ⟨⟨e0, e1, e2⟩, _⟩ := hXF
              have hge : ¬ (k : Int) < (wn : Int) := by omega
              clear hB3 hT3 HT hkw
              go_wp2
              refine bodyPost_ret (v := .tuple #[.agg #[.int .i64 s, .slice aP sn cP, .slice a4 ln c4], .bool true]) (by simp [results, Try.results16, go_sem, e0, e1, e2]; try rfl) rfl ?_
              refine ⟨aP, cP, a4, c4, ?_, ?_, HB3.out⟩
              · show _ = Ending.returned (.tuple #[.agg #[.int .i64 s, .slice aP t.ps.length cP, .slice a4 (flipL t.cs way x).length c4], .bool true])
                rw [HPL.out, flipL_length, HCL.out]
              · show OwnTb _ _ _ (.slice aP t.ps.length cP) (.slice a4 (flipL t.cs way x).length c4) _
                rw [HPL.out, flipL_length, HCL.out]
                exact HT3.out
            have hkl : k < way.length := by rw [HWL.out]; exact hlt
            obtain ⟨wb, wo, rfl, gw⟩ := (HO2.out.later HB.out).rd'.2.get hkl
            have hwm := HWM.out _ (mem_getD 0 hkl)
            have hft := flipL_take (cs := t.cs) (x := x) hkl
            generalize way.getD k 0 = y at gw hwm hft
            obtain ⟨p, rfl⟩ : ∃ p : Nat, y = (p : Int) := ⟨y.toNat, by omega⟩
            have hpl : p < ln := by have := HLN.out; have := HPL.out; omega
            rcases HT.out.li.addr with ⟨_, h0, _⟩ | ⟨g, rfl, hg1, hg2⟩
            · exfalso; omega
            have hgb : g < wE.heap.size := by obtain ⟨pp, _, _, h3⟩ := HT.out.ex; exact (h3 g rfl).2
            have hgr : rb ≠ g := fun e => HNE.out (by rw [e]; rfl)
            rw [Int.toNat_natCast] at hft
            have gs := Own.cell (g := g) (cap := c4) (xs := flipL t.cs (way.take k) x) (by rw [HFL.out]; exact HT.out.li) p (by rw [HFL.out]; exact hpl)
            have hfz := Own.free (g := g) (cap := c4) (xs := flipL t.cs (way.take k) x) (by rw [HFL.out]; exact HT.out.li) p
            have hsb := HBI.out p hpl
            have hxr := bits_xr hsb HBY.out
            have hxb := xr_by hsb HBY.out
            have HFT : Hid (flipL t.cs (way.take (k + 1)) x = (flipL t.cs (way.take k) x).set p (xr ((flipL t.cs (way.take k) x).getD p 0) x)) := hft
            generalize flipL t.cs (way.take k) x = F at HT HFL HBI gs hfz hsb hxr hxb HFT
            generalize F.getD p 0 = v at gs hxr hxb HFT
            generalize xr v x = z at hxr hxb HFT
            have HBI2 : Hid (∀ j, j < ln → byB ((flipL t.cs (way.take (k + 1)) x).getD j 0) = true) := fun j hj => by
              rw [HFT.out, getD_set9 _ _ _ _ (by rw [HFL.out]; exact hpl)]
              split
              · exact hxb
              · exact HBI.out j hj
            have HT3 : Hid (OwnTb (wr.setCell ⟨g, p, none⟩ (.int .i64 z)) w2.heap.size wE.heap.size (.slice aP sn cP) (.slice (some ⟨g, 0, none⟩) ln c4) ⟨s, t.ps, flipL t.cs (way.take (k + 1)) x⟩) := by show OwnTb _ _ _ _ _ _; rw [HFT.out]; exact HT.out.setCoin p z
            have HX3 : Hid (X3 (wr.setCell ⟨g, p, none⟩ (.int .i64 z)) rb (.int .i64 s) (.slice aP sn cP) (.slice (some ⟨g, 0, none⟩) ln c4)) := HX.out.other (by omega)
            have HB3 : Hid (Below w2.heap.size w2 (wr.setCell ⟨g, p, none⟩ (.int .i64 z))) := HB.out.setCell (by show _ ≤ g; omega) _
            have hsz3 : wE.heap.size ≤ (wr.setCell ⟨g, p, none⟩ (.int .i64 z)).heap.size := by rw [World.size_setCell]; exact hsz
            have k0 : (0 : Int) ≤ (k : Int) := by omega
            have k1 : (k : Int) < (wn : Int) := by omega
            have p0 : (0 : Int) ≤ (p : Int) := by omega
            have p1 : (p : Int) < (ln : Int) := by omega
            clear hkl hwm hft hsb hxb HT HX HB HFT HBI
            go_wp2
            go_roundw
            case rel => exact ⟨k + 1, by omega, by go_num, HT3, HX3, HB3, hsz3, HBI2⟩
            case measure => simp [intOf]; omega
        have hkl : k < t.ps.length := by rw [HPL.out]; exact hlt
        obtain ⟨b, o, ro, rc, rfl, g0, hro, hnil⟩ := (HRP.out wr (HB2.out.trans (HB.out.mono HB2.out.size))).get hkl
        have h2 := H2.out k hlt
        have HTK : Hid (t.ps.take (k + 1) = t.ps.take k ++ [t.ps.getD k []]) := take_snoc [] hkl
        have HTL : Hid ((t.ps.take k).length = k) := by show _ = _; rw [List.length_take]; omega
        generalize t.ps.getD k [] = p at g0 hro hnil h2 HTK
        rw [h2] at g0 hnil
        have k0 : (0 : Int) ≤ (k : Int) := by omega
        have k1 : (k : Int) < (sn : Int) := by omega
        clear hkl
        have HRO : Hid (Rd wr ro p) := hro
        have HNI : Hid (ro = none → 2 = 0 ∧ rc = 0) := hnil
        have HP2 : Hid (p.length = 2) := h2
        clear hro hnil h2
        obtain ⟨⟨f0, f1, f2⟩, _⟩ := HX.out
        go_wp2_with fail
        obtain ⟨D2, hD2⟩ : ∃ D, wr.drew = D := ⟨_, rfl⟩
        have hbD2 : Below wr.heap.size wr D2 := by rw [← hD2]; exact (Below.refl _ _).drew
        have HXD2 : Hid (X3 D2 rb (.int .i64 s) (.slice a' k c') (.slice a4 ln c4)) := HX.out.later hbD2
        have HBD2 : Hid (Below wr.heap.size wr D2) := hbD2
        clear hbD2 f0 f1 f2
        refine wp_region_held_drew (S := (fun X => True)) (by kernel_rfl) ?_ (fun hHeld => ?_)
        · trivial
        rw [hD2]
        clear hD2
        refine takeSO15 (i := 0) (oi := _) (v := ?_) (d := some 52) rfl (by kernel_rfl) (by kernel_rfl) (by kernel_rfl) (by kernel_rfl) (fun _ _ _ h => h) (Or.inl ⟨by rfl, ?_⟩) (by assumption) ?_
        rotate_left
        · (intro w hSw; (try dsimp only at hSw); go_simp <;> with_reducible rfl)
        try simp only [Act.put, List.setIfInBounds_toArray, List.set_cons_zero, List.set_cons_succ]
        refine takeSO15 (i := 3) (oi := _) (v := ?_) (d := some 55) rfl (by kernel_rfl) (by kernel_rfl) (by kernel_rfl) (by kernel_rfl) (fun _ _ _ h => h) (Or.inl ⟨by rfl, ?_⟩) (by assumption) ?_
        rotate_left
        · (intro w hSw; (try dsimp only at hSw); go_simp <;> with_reducible rfl)
        try simp only [Act.put, List.setIfInBounds_toArray, List.set_cons_zero, List.set_cons_succ]
        refine wpAnyH_ready (rs := [1, 2]) (by kernel_rfl) (by simp) ?_
        refine AllReadyH.cons (o := _) rfl (fun K hK => ?_) (AllReadyH.cons (o := _) rfl (fun K hK => ?_) AllReadyH.nil)
        · have cc := HXD2.out.1.2.1
          go_simp
          refine hK.out _ _ ?_ (fun hHeld => ?_)
          · trivial
          clear hK K cc
          try simp only [Act.put, List.setIfInBounds_toArray, List.set_cons_zero, List.set_cons_succ]
          refine wpAnyH_ready (rs := [2]) (by kernel_rfl) (by simp) ?_
          refine AllReadyH.cons (o := _) rfl (fun K hK => ?_) AllReadyH.nil
          have hb1 := balloc D2 (.cells #[] 3)
          have hE1 := emptyI D2
          obtain ⟨T1, hT1⟩ : ∃ X, D2.alloc (.cells #[] 3) = X := ⟨_, rfl⟩
          rw [hT1] at hb1 hE1
          have HX1b : Hid (X3 T1 rb (.int .i64 s) (.slice a' k c') (.slice a4 ln c4)) := HXD2.out.later hb1
          have HB1b : Hid (Below wr.heap.size wr T1) := HBD2.out.trans (hb1.mono HBD2.out.size)
          have HE1 : Hid (Own T1 D2.heap.size (.slice (some ⟨D2.heap.size, 0, none⟩) 0 0) []) := hE1
          have hs3 : D2.heap.size ≤ T1.heap.size := hb1.size
          clear hb1 hE1
          go_simp
          refine hK.out _ _ ?_ (fun hHeld => ?_)
          · trivial
          clear hK K
          try simp only [Act.put, List.setIfInBounds_toArray, List.set_cons_zero, List.set_cons_succ]
          try rw [hT1] at hHeld
          try rw [hT1]
          clear hT1
          refine wpAnyH_ready (rs := [4]) (by kernel_rfl) (by simp) ?_
          refine AllReadyH.cons (o := _) rfl (fun K hK => ?_) AllReadyH.nil
          rw [if_pos (by rfl)]
          obtain ⟨v', T2, r1, o1, gg, b1⟩ := appendI_run T1 D2.heap.size (.slice (some ⟨D2.heap.size, 0, none⟩) 0 0) [] p ro 2 rc HE1.out (HRO.out.later HB1b.out) HP2.out HNI.out (by simp) hs3
          obtain ⟨ua, uc, hv4⟩ := o1.shape
          rw [List.nil_append] at o1 hv4
          rw [HP2.out] at hv4
          subst hv4
          have HU : Hid (Own T2 D2.heap.size (.slice ua 2 uc) p) := o1
          have HX2b : Hid (X3 T2 rb (.int .i64 s) (.slice a' k c') (.slice a4 ln c4)) := HX1b.out.grown gg (fun e => by have h1 := own_block_ge HE1.out _ e.symm; have h2 := HX.out.lt; have h3 := HBD2.out.size; omega)
          have HB2b : Hid (Below wr.heap.size wr T2) := HB1b.out.trans (b1.mono HBD2.out.size)
          clear o1 gg b1
          refine Lib.wp_append_run _ _ _ _ _ rfl (.slice (some ⟨D2.heap.size, 0, none⟩) 0 0) (.slice ro 2 rc) (by rfl) (by rfl) (.slice ua 2 uc) T2 (r1 _) ?_
          clear r1
          refine hK.out _ _ ?_ (fun hHeld => ?_)
          · trivial
          clear hK K
          simp only [List.getElem_toArray, List.getElem_cons_succ, List.getElem_cons_zero, Act.put, List.setIfInBounds_toArray, List.set_cons_zero, List.set_cons_succ]
          refine wpAnyH_ready (rs := [5]) (by kernel_rfl) (by simp) ?_
          refine AllReadyH.cons (o := _) rfl (fun K hK => ?_) AllReadyH.nil
          have hbl : ∀ q, (Value.slice ua 2 uc).ownBlock = some q → D2.heap.size ≤ q ∧ q < T2.heap.size := World.ownsRow.lt HU.out
          have hsD : wr.heap.size ≤ D2.heap.size := HBD2.out.size
          have hsT : wr.heap.size ≤ T2.heap.size := HB2b.out.size
          obtain ⟨g, cap, T4, r1, o1, rg⟩ := pushIP_run T2 Z.heap.size (fun q => Z.heap.size ≤ q ∧ q < wr.heap.size) (.slice a' k c') (t.ps.take k) ua 2 uc p (HP.out.later HB2b.out) (HU.out.mono (by omega)) (fun q hq h => by have := hbl q hq; omega) (by rw [HTL.out]; omega) (by omega) (fun q hq => by omega)
          rw [HTL.out] at r1 o1
          rw [← HTK.out] at o1
          have hb3 := balloc T2 (.cells #[.slice ua 2 uc] 24)
          obtain ⟨T3, hT3⟩ : ∃ X, T2.alloc (.cells #[.slice ua 2 uc] 24) = X := ⟨_, rfl⟩
          rw [hT3] at hb3 r1
          have HX3b : Hid (X3 T3 rb (.int .i64 s) (.slice a' k c') (.slice a4 ln c4)) := HX2b.out.later hb3
          clear hb3
          go_simp
          refine hK.out _ _ ?_ (fun hHeld => ?_)
          · trivial
          clear hK K
          try simp only [Act.put, List.setIfInBounds_toArray, List.set_cons_zero, List.set_cons_succ]
          try rw [hT3] at hHeld
          try rw [hT3]
          clear hT3
          have hlt4 : ∀ q, (Value.slice (some ⟨g, 0, none⟩) (k + 1) cap).ownBlock = some q → q < T4.heap.size := by
            obtain ⟨vs, _, hvo, _⟩ := o1
            exact fun q hq => (World.ownsRow.lt hvo q hq).2
          have HP4 : Hid (OwnIP T4 Z.heap.size (fun q => Z.heap.size ≤ q ∧ q < T4.heap.size) (.slice (some ⟨g, 0, none⟩) (k + 1) cap) (t.ps.take (k + 1))) := by
            obtain ⟨vs, h1, h2, h3, h4, h5, h6⟩ := o1
            exact ⟨vs, h1, h2, h3, h4, fun q hq => World.ownsRow.lt h2 q hq, fun j hj q hq => World.ownsRow.lt (h3 j hj) q hq⟩
          have HX4 : Hid (X3 T4 rb (.int .i64 s) (.slice a' k c') (.slice a4 ln c4)) := HX2b.out.rngP rg (fun h => by omega)
          have HC4 : Hid (Own T4 w2.heap.size (.slice a4 ln c4) t.cs) := (HC.out.later HB2b.out).rngP rg (fun q e h => by have := HCB2.out q e; omega)
          have hw2s := HB.out.size
          have HB4 : Hid (Below w2.heap.size w2 T4) := (HB.out.trans (HB2b.out.mono HB.out.size)).trans (rg.below (fun q hq => by omega) (by omega))
          have hs4 : T2.heap.size ≤ T4.heap.size := rg.size
          clear hlt4 hbl rg o1
          refine wpAnyH_ready (rs := [6]) (by kernel_rfl) (by simp) ?_
          refine AllReadyH.cons (o := _) rfl (fun K hK => ?_) AllReadyH.nil
          rw [if_pos (by rfl)]
          refine Lib.wp_append_run _ _ _ _ _ rfl (.slice a' k c') (.slice (some ⟨T2.heap.size, 0, none⟩) 1 1) (by rfl) (by rfl) (.slice (some ⟨g, 0, none⟩) (k + 1) cap) T4 (r1 _) ?_
          clear r1
          refine hK.out _ _ ?_ (fun hHeld => ?_)
          · trivial
          clear hK K
          try simp only [Act.put, List.setIfInBounds_toArray, List.set_cons_zero, List.set_cons_succ]
          try simp only [List.getElem_toArray, List.getElem_cons_succ, List.getElem_cons_zero, Act.put, List.setIfInBounds_toArray, List.set_cons_zero, List.set_cons_succ]
          refine takeSO15 (i := 7) (oi := _) (v := ?_) (d := some 59) rfl (by kernel_rfl) (by kernel_rfl) (by kernel_rfl) (by kernel_rfl) (fun _ _ _ h => h) (Or.inl ⟨by rfl, ?_⟩) (by assumption) ?_
          rotate_left
          · (intro w hSw; (try dsimp only at hSw); go_simp <;> with_reducible rfl)
          try simp only [Act.put, List.setIfInBounds_toArray, List.set_cons_zero, List.set_cons_succ]
          have hT := HX4.out
          have hXF := hT.set1 (.slice (some ⟨g, 0, none⟩) (k + 1) cap)
          have hP5 := HP4.out.setBox (r := rb) (j := 1) (by omega) (.slice (some ⟨g, 0, none⟩) (k + 1) cap)
          have hC5 := HC4.out.kept (grown_setCell T4 rb 1 (.slice (some ⟨g, 0, none⟩) (k + 1) cap)) (Or.inr HNE.out)
          have hB5 := HB4.out.setCell (p := ⟨rb, 1, none⟩) (by show w2.heap.size ≤ rb; exact hrb1) (.slice (some ⟨g, 0, none⟩) (k + 1) cap)
          have hs5 : (T4.setCell ⟨rb, 1, none⟩ (.slice (some ⟨g, 0, none⟩) (k + 1) cap)).heap.size = T4.heap.size := World.size_setCell ..
          obtain ⟨⟨z0, z1, z2⟩, zf⟩ := hT
          have zf1 := zf 1
          clear zf
          obtain ⟨T5, hT5⟩ : ∃ X, T4.setCell ⟨rb, 1, none⟩ (.slice (some ⟨g, 0, none⟩) (k + 1) cap) = X := ⟨_, rfl⟩
          rw [hT5] at hXF hP5 hC5 hB5 hs5
          rw [← hs5] at hP5
          have HP5 : Hid (OwnIP T5 Z.heap.size (fun q => Z.heap.size ≤ q ∧ q < T5.heap.size) (.slice (some ⟨g, 0, none⟩) (k + 1) cap) (t.ps.take (k + 1))) := hP5
          have HX5 : Hid (X3 T5 rb (.int .i64 s) (.slice (some ⟨g, 0, none⟩) (k + 1) cap) (.slice a4 ln c4)) := hXF
          have HC5 : Hid (Own T5 w2.heap.size (.slice a4 ln c4) t.cs) := hC5
          have HB5 : Hid (Below w2.heap.size w2 T5) := hB5
          have hsz5 : Z.heap.size ≤ T5.heap.size := by omega
          clear hXF hP5 hC5 hB5
          refine wpAnyH_ready (rs := [8]) (by kernel_rfl) (by simp) ?_
          refine AllReadyH.cons (o := _) rfl (fun K hK => ?_) AllReadyH.nil
          go_simp
          refine hK.out _ _ ?_ (fun hHeld => ?_)
          · trivial
          clear hK K
          try simp only [Act.put, List.setIfInBounds_toArray, List.set_cons_zero, List.set_cons_succ]
          try rw [hT5] at hHeld
          try rw [hT5]
          refine wpAnyH_done (by kernel_rfl) ?_ _
          clear hHeld hT5 z0 z1 z2 zf1 g0 HP HX HC HB hs5 hs4 hw2s hsT hsD hs3 HX1b HB1b HE1 HU HX2b HB2b HX3b HP4 HX4 HC4 HB4 HXD2 HBD2 HRO HNI HP2 HTK HTL
          go_wp2
          go_roundw
          case rel => exact ⟨k + 1, _, cap, by omega, by go_num, HP5, HX5, HC5, HB5, hsz5⟩
          case measure => simp [intOf]; omega
        · have hb1 := balloc D2 (.cells #[] 3)
          have hE1 := emptyI D2
          obtain ⟨T1, hT1⟩ : ∃ X, D2.alloc (.cells #[] 3) = X := ⟨_, rfl⟩
          rw [hT1] at hb1 hE1
          have HX1b : Hid (X3 T1 rb (.int .i64 s) (.slice a' k c') (.slice a4 ln c4)) := HXD2.out.later hb1
          have HB1b : Hid (Below wr.heap.size wr T1) := HBD2.out.trans (hb1.mono HBD2.out.size)
          have HE1 : Hid (Own T1 D2.heap.size (.slice (some ⟨D2.heap.size, 0, none⟩) 0 0) []) := hE1
          have hs3 : D2.heap.size ≤ T1.heap.size := hb1.size
          clear hb1 hE1
          go_simp
          refine hK.out _ _ ?_ (fun hHeld => ?_)
          · trivial
          clear hK K
          try simp only [Act.put, List.setIfInBounds_toArray, List.set_cons_zero, List.set_cons_succ]
          try rw [hT1] at hHeld
          try rw [hT1]
          clear hT1
          refine wpAnyH_ready (rs := [1, 4]) (by kernel_rfl) (by simp) ?_
          refine AllReadyH.cons (o := _) rfl (fun K hK => ?_) (AllReadyH.cons (o := _) rfl (fun K hK => ?_) AllReadyH.nil)
          · have cc := HX1b.out.1.2.1
            go_simp
            refine hK.out _ _ ?_ (fun hHeld => ?_)
            · trivial
            clear hK K cc
            try simp only [Act.put, List.setIfInBounds_toArray, List.set_cons_zero, List.set_cons_succ]
            refine wpAnyH_ready (rs := [4]) (by kernel_rfl) (by simp) ?_
            refine AllReadyH.cons (o := _) rfl (fun K hK => ?_) AllReadyH.nil
            rw [if_pos (by rfl)]
            obtain ⟨v', T2, r1, o1, gg, b1⟩ := appendI_run T1 D2.heap.size (.slice (some ⟨D2.heap.size, 0, none⟩) 0 0) [] p ro 2 rc HE1.out (HRO.out.later HB1b.out) HP2.out HNI.out (by simp) hs3
            obtain ⟨ua, uc, hv4⟩ := o1.shape
            rw [List.nil_append] at o1 hv4
            rw [HP2.out] at hv4
            subst hv4
            have HU : Hid (Own T2 D2.heap.size (.slice ua 2 uc) p) := o1
            have HX2b : Hid (X3 T2 rb (.int .i64 s) (.slice a' k c') (.slice a4 ln c4)) := HX1b.out.grown gg (fun e => by have h1 := own_block_ge HE1.out _ e.symm; have h2 := HX.out.lt; have h3 := HBD2.out.size; omega)
            have HB2b : Hid (Below wr.heap.size wr T2) := HB1b.out.trans (b1.mono HBD2.out.size)
            clear o1 gg b1
            refine Lib.wp_append_run _ _ _ _ _ rfl (.slice (some ⟨D2.heap.size, 0, none⟩) 0 0) (.slice ro 2 rc) (by rfl) (by rfl) (.slice ua 2 uc) T2 (r1 _) ?_
            clear r1
            refine hK.out _ _ ?_ (fun hHeld => ?_)
            · trivial
            clear hK K
            simp only [List.getElem_toArray, List.getElem_cons_succ, List.getElem_cons_zero, Act.put, List.setIfInBounds_toArray, List.set_cons_zero, List.set_cons_succ]
            refine wpAnyH_ready (rs := [5]) (by kernel_rfl) (by simp) ?_
            refine AllReadyH.cons (o := _) rfl (fun K hK => ?_) AllReadyH.nil
            have hbl : ∀ q, (Value.slice ua 2 uc).ownBlock = some q → D2.heap.size ≤ q ∧ q < T2.heap.size := World.ownsRow.lt HU.out
            have hsD : wr.heap.size ≤ D2.heap.size := HBD2.out.size
            have hsT : wr.heap.size ≤ T2.heap.size := HB2b.out.size
            obtain ⟨g, cap, T4, r1, o1, rg⟩ := pushIP_run T2 Z.heap.size (fun q => Z.heap.size ≤ q ∧ q < wr.heap.size) (.slice a' k c') (t.ps.take k) ua 2 uc p (HP.out.later HB2b.out) (HU.out.mono (by omega)) (fun q hq h => by have := hbl q hq; omega) (by rw [HTL.out]; omega) (by omega) (fun q hq => by omega)
            rw [HTL.out] at r1 o1
            rw [← HTK.out] at o1
            have hb3 := balloc T2 (.cells #[.slice ua 2 uc] 24)
            obtain ⟨T3, hT3⟩ : ∃ X, T2.alloc (.cells #[.slice ua 2 uc] 24) = X := ⟨_, rfl⟩
            rw [hT3] at hb3 r1
            have HX3b : Hid (X3 T3 rb (.int .i64 s) (.slice a' k c') (.slice a4 ln c4)) := HX2b.out.later hb3
            clear hb3
            go_simp
            refine hK.out _ _ ?_ (fun hHeld => ?_)
            · trivial
            clear hK K
            try simp only [Act.put, List.setIfInBounds_toArray, List.set_cons_zero, List.set_cons_succ]
            try rw [hT3] at hHeld
            try rw [hT3]
            clear hT3
            have hlt4 : ∀ q, (Value.slice (some ⟨g, 0, none⟩) (k + 1) cap).ownBlock = some q → q < T4.heap.size := by
              obtain ⟨vs, _, hvo, _⟩ := o1
              exact fun q hq => (World.ownsRow.lt hvo q hq).2
            have HP4 : Hid (OwnIP T4 Z.heap.size (fun q => Z.heap.size ≤ q ∧ q < T4.heap.size) (.slice (some ⟨g, 0, none⟩) (k + 1) cap) (t.ps.take (k + 1))) := by
              obtain ⟨vs, h1, h2, h3, h4, h5, h6⟩ := o1
              exact ⟨vs, h1, h2, h3, h4, fun q hq => World.ownsRow.lt h2 q hq, fun j hj q hq => World.ownsRow.lt (h3 j hj) q hq⟩
            have HX4 : Hid (X3 T4 rb (.int .i64 s) (.slice a' k c') (.slice a4 ln c4)) := HX2b.out.rngP rg (fun h => by omega)
            have HC4 : Hid (Own T4 w2.heap.size (.slice a4 ln c4) t.cs) := (HC.out.later HB2b.out).rngP rg (fun q e h => by have := HCB2.out q e; omega)
            have hw2s := HB.out.size
            have HB4 : Hid (Below w2.heap.size w2 T4) := (HB.out.trans (HB2b.out.mono HB.out.size)).trans (rg.below (fun q hq => by omega) (by omega))
            have hs4 : T2.heap.size ≤ T4.heap.size := rg.size
            clear hlt4 hbl rg o1
            refine wpAnyH_ready (rs := [6]) (by kernel_rfl) (by simp) ?_
            refine AllReadyH.cons (o := _) rfl (fun K hK => ?_) AllReadyH.nil
            rw [if_pos (by rfl)]
            refine Lib.wp_append_run _ _ _ _ _ rfl (.slice a' k c') (.slice (some ⟨T2.heap.size, 0, none⟩) 1 1) (by rfl) (by rfl) (.slice (some ⟨g, 0, none⟩) (k + 1) cap) T4 (r1 _) ?_
            clear r1
            refine hK.out _ _ ?_ (fun hHeld => ?_)
            · trivial
            clear hK K
            try simp only [Act.put, List.setIfInBounds_toArray, List.set_cons_zero, List.set_cons_succ]
            try simp only [List.getElem_toArray, List.getElem_cons_succ, List.getElem_cons_zero, Act.put, List.setIfInBounds_toArray, List.set_cons_zero, List.set_cons_succ]
            refine takeSO15 (i := 7) (oi := _) (v := ?_) (d := some 59) rfl (by kernel_rfl) (by kernel_rfl) (by kernel_rfl) (by kernel_rfl) (fun _ _ _ h => h) (Or.inl ⟨by rfl, ?_⟩) (by assumption) ?_
            rotate_left
            · (intro w hSw; (try dsimp only at hSw); go_simp <;> with_reducible rfl)
            try simp only [Act.put, List.setIfInBounds_toArray, List.set_cons_zero, List.set_cons_succ]
            have hT := HX4.out
            have hXF := hT.set1 (.slice (some ⟨g, 0, none⟩) (k + 1) cap)
            have hP5 := HP4.out.setBox (r := rb) (j := 1) (by omega) (.slice (some ⟨g, 0, none⟩) (k + 1) cap)
            have hC5 := HC4.out.kept (grown_setCell T4 rb 1 (.slice (some ⟨g, 0, none⟩) (k + 1) cap)) (Or.inr HNE.out)
            have hB5 := HB4.out.setCell (p := ⟨rb, 1, none⟩) (by show w2.heap.size ≤ rb; exact hrb1) (.slice (some ⟨g, 0, none⟩) (k + 1) cap)
            have hs5 : (T4.setCell ⟨rb, 1, none⟩ (.slice (some ⟨g, 0, none⟩) (k + 1) cap)).heap.size = T4.heap.size := World.size_setCell ..
            obtain ⟨⟨z0, z1, z2⟩, zf⟩ := hT
            have zf1 := zf 1
            clear zf
            obtain ⟨T5, hT5⟩ : ∃ X, T4.setCell ⟨rb, 1, none⟩ (.slice (some ⟨g, 0, none⟩) (k + 1) cap) = X := ⟨_, rfl⟩
            rw [hT5] at hXF hP5 hC5 hB5 hs5
            rw [← hs5] at hP5
            have HP5 : Hid (OwnIP T5 Z.heap.size (fun q => Z.heap.size ≤ q ∧ q < T5.heap.size) (.slice (some ⟨g, 0, none⟩) (k + 1) cap) (t.ps.take (k + 1))) := hP5
            have HX5 : Hid (X3 T5 rb (.int .i64 s) (.slice (some ⟨g, 0, none⟩) (k + 1) cap) (.slice a4 ln c4)) := hXF
            have HC5 : Hid (Own T5 w2.heap.size (.slice a4 ln c4) t.cs) := hC5
            have HB5 : Hid (Below w2.heap.size w2 T5) := hB5
            have hsz5 : Z.heap.size ≤ T5.heap.size := by omega
            clear hXF hP5 hC5 hB5
            refine wpAnyH_ready (rs := [8]) (by kernel_rfl) (by simp) ?_
            refine AllReadyH.cons (o := _) rfl (fun K hK => ?_) AllReadyH.nil
            go_simp
            refine hK.out _ _ ?_ (fun hHeld => ?_)
            · trivial
            clear hK K
            try simp only [Act.put, List.setIfInBounds_toArray, List.set_cons_zero, List.set_cons_succ]
            try rw [hT5] at hHeld
            try rw [hT5]
            refine wpAnyH_done (by kernel_rfl) ?_ _
            clear hHeld hT5 z0 z1 z2 zf1 g0 HP HX HC HB hs5 hs4 hw2s hsT hsD hs3 HX1b HB1b HE1 HU HX2b HB2b HX3b HP4 HX4 HC4 HB4 HXD2 HBD2 HRO HNI HP2 HTK HTL
            go_wp2
            go_roundw
            case rel => exact ⟨k + 1, _, cap, by omega, by go_num, HP5, HX5, HC5, HB5, hsz5⟩
            case measure => simp [intOf]; omega
          · rw [if_pos (by rfl)]
            obtain ⟨v', T2, r1, o1, gg, b1⟩ := appendI_run T1 D2.heap.size (.slice (some ⟨D2.heap.size, 0, none⟩) 0 0) [] p ro 2 rc HE1.out (HRO.out.later HB1b.out) HP2.out HNI.out (by simp) hs3
            obtain ⟨ua, uc, hv4⟩ := o1.shape
            rw [List.nil_append] at o1 hv4
            rw [HP2.out] at hv4
            subst hv4
            have HU : Hid (Own T2 D2.heap.size (.slice ua 2 uc) p) := o1
            have HX2b : Hid (X3 T2 rb (.int .i64 s) (.slice a' k c') (.slice a4 ln c4)) := HX1b.out.grown gg (fun e => by have h1 := own_block_ge HE1.out _ e.symm; have h2 := HX.out.lt; have h3 := HBD2.out.size; omega)
            have HB2b : Hid (Below wr.heap.size wr T2) := HB1b.out.trans (b1.mono HBD2.out.size)
            clear o1 gg b1
            refine Lib.wp_append_run _ _ _ _ _ rfl (.slice (some ⟨D2.heap.size, 0, none⟩) 0 0) (.slice ro 2 rc) (by rfl) (by rfl) (.slice ua 2 uc) T2 (r1 _) ?_
            clear r1
            refine hK.out _ _ ?_ (fun hHeld => ?_)
            · trivial
            clear hK K
            simp only [List.getElem_toArray, List.getElem_cons_succ, List.getElem_cons_zero, Act.put, List.setIfInBounds_toArray, List.set_cons_zero, List.set_cons_succ]
            refine wpAnyH_ready (rs := [1, 5]) (by kernel_rfl) (by simp) ?_
            refine AllReadyH.cons (o := _) rfl (fun K hK => ?_) (AllReadyH.cons (o := _) rfl (fun K hK => ?_) AllReadyH.nil)
            · have cc := HX2b.out.1.2.1
              go_simp
              refine hK.out _ _ ?_ (fun hHeld => ?_)
              · trivial
              clear hK K cc
              try simp only [Act.put, List.setIfInBounds_toArray, List.set_cons_zero, List.set_cons_succ]
              refine wpAnyH_ready (rs := [5]) (by kernel_rfl) (by simp) ?_
              refine AllReadyH.cons (o := _) rfl (fun K hK => ?_) AllReadyH.nil
              have hbl : ∀ q, (Value.slice ua 2 uc).ownBlock = some q → D2.heap.size ≤ q ∧ q < T2.heap.size := World.ownsRow.lt HU.out
              have hsD : wr.heap.size ≤ D2.heap.size := HBD2.out.size
              have hsT : wr.heap.size ≤ T2.heap.size := HB2b.out.size
              obtain ⟨g, cap, T4, r1, o1, rg⟩ := pushIP_run T2 Z.heap.size (fun q => Z.heap.size ≤ q ∧ q < wr.heap.size) (.slice a' k c') (t.ps.take k) ua 2 uc p (HP.out.later HB2b.out) (HU.out.mono (by omega)) (fun q hq h => by have := hbl q hq; omega) (by rw [HTL.out]; omega) (by omega) (fun q hq => by omega)
              rw [HTL.out] at r1 o1
              rw [← HTK.out] at o1
              have hb3 := balloc T2 (.cells #[.slice ua 2 uc] 24)
              obtain ⟨T3, hT3⟩ : ∃ X, T2.alloc (.cells #[.slice ua 2 uc] 24) = X := ⟨_, rfl⟩
              rw [hT3] at hb3 r1
              have HX3b : Hid (X3 T3 rb (.int .i64 s) (.slice a' k c') (.slice a4 ln c4)) := HX2b.out.later hb3
              clear hb3
              go_simp
              refine hK.out _ _ ?_ (fun hHeld => ?_)
              · trivial
              clear hK K
              try simp only [Act.put, List.setIfInBounds_toArray, List.set_cons_zero, List.set_cons_succ]
              try rw [hT3] at hHeld
              try rw [hT3]
              clear hT3
              have hlt4 : ∀ q, (Value.slice (some ⟨g, 0, none⟩) (k + 1) cap).ownBlock = some q → q < T4.heap.size := by
                obtain ⟨vs, _, hvo, _⟩ := o1
                exact fun q hq => (World.ownsRow.lt hvo q hq).2
              have HP4 : Hid (OwnIP T4 Z.heap.size (fun q => Z.heap.size ≤ q ∧ q < T4.heap.size) (.slice (some ⟨g, 0, none⟩) (k + 1) cap) (t.ps.take (k + 1))) := by
                obtain ⟨vs, h1, h2, h3, h4, h5, h6⟩ := o1
                exact ⟨vs, h1, h2, h3, h4, fun q hq => World.ownsRow.lt h2 q hq, fun j hj q hq => World.ownsRow.lt (h3 j hj) q hq⟩
              have HX4 : Hid (X3 T4 rb (.int .i64 s) (.slice a' k c') (.slice a4 ln c4)) := HX2b.out.rngP rg (fun h => by omega)
              have HC4 : Hid (Own T4 w2.heap.size (.slice a4 ln c4) t.cs) := (HC.out.later HB2b.out).rngP rg (fun q e h => by have := HCB2.out q e; omega)
              have hw2s := HB.out.size
              have HB4 : Hid (Below w2.heap.size w2 T4) := (HB.out.trans (HB2b.out.mono HB.out.size)).trans (rg.below (fun q hq => by omega) (by omega))
              have hs4 : T2.heap.size ≤ T4.heap.size := rg.size
              clear hlt4 hbl rg o1
              refine wpAnyH_ready (rs := [6]) (by kernel_rfl) (by simp) ?_
              refine AllReadyH.cons (o := _) rfl (fun K hK => ?_) AllReadyH.nil
              rw [if_pos (by rfl)]
              refine Lib.wp_append_run _ _ _ _ _ rfl (.slice a' k c') (.slice (some ⟨T2.heap.size, 0, none⟩) 1 1) (by rfl) (by rfl) (.slice (some ⟨g, 0, none⟩) (k + 1) cap) T4 (r1 _) ?_
              clear r1
              refine hK.out _ _ ?_ (fun hHeld => ?_)
              · trivial
              clear hK K
              try simp only [Act.put, List.setIfInBounds_toArray, List.set_cons_zero, List.set_cons_succ]
              try simp only [List.getElem_toArray, List.getElem_cons_succ, List.getElem_cons_zero, Act.put, List.setIfInBounds_toArray, List.set_cons_zero, List.set_cons_succ]
              refine takeSO15 (i := 7) (oi := _) (v := ?_) (d := some 59) rfl (by kernel_rfl) (by kernel_rfl) (by kernel_rfl) (by kernel_rfl) (fun _ _ _ h => h) (Or.inl ⟨by rfl, ?_⟩) (by assumption) ?_
              rotate_left
              · (intro w hSw; (try dsimp only at hSw); go_simp <;> with_reducible rfl)
              try simp only [Act.put, List.setIfInBounds_toArray, List.set_cons_zero, List.set_cons_succ]
              have hT := HX4.out
              have hXF := hT.set1 (.slice (some ⟨g, 0, none⟩) (k + 1) cap)
              have hP5 := HP4.out.setBox (r := rb) (j := 1) (by omega) (.slice (some ⟨g, 0, none⟩) (k + 1) cap)
              have hC5 := HC4.out.kept (grown_setCell T4 rb 1 (.slice (some ⟨g, 0, none⟩) (k + 1) cap)) (Or.inr HNE.out)
              have hB5 := HB4.out.setCell (p := ⟨rb, 1, none⟩) (by show w2.heap.size ≤ rb; exact hrb1) (.slice (some ⟨g, 0, none⟩) (k + 1) cap)
              have hs5 : (T4.setCell ⟨rb, 1, none⟩ (.slice (some ⟨g, 0, none⟩) (k + 1) cap)).heap.size = T4.heap.size := World.size_setCell ..
              obtain ⟨⟨z0, z1, z2⟩, zf⟩ := hT
              have zf1 := zf 1
              clear zf
              obtain ⟨T5, hT5⟩ : ∃ X, T4.setCell ⟨rb, 1, none⟩ (.slice (some ⟨g, 0, none⟩) (k + 1) cap) = X := ⟨_, rfl⟩
              rw [hT5] at hXF hP5 hC5 hB5 hs5
              rw [← hs5] at hP5
              have HP5 : Hid (OwnIP T5 Z.heap.size (fun q => Z.heap.size ≤ q ∧ q < T5.heap.size) (.slice (some ⟨g, 0, none⟩) (k + 1) cap) (t.ps.take (k + 1))) := hP5
              have HX5 : Hid (X3 T5 rb (.int .i64 s) (.slice (some ⟨g, 0, none⟩) (k + 1) cap) (.slice a4 ln c4)) := hXF
              have HC5 : Hid (Own T5 w2.heap.size (.slice a4 ln c4) t.cs) := hC5
              have HB5 : Hid (Below w2.heap.size w2 T5) := hB5
              have hsz5 : Z.heap.size ≤ T5.heap.size := by omega
              clear hXF hP5 hC5 hB5
              refine wpAnyH_ready (rs := [8]) (by kernel_rfl) (by simp) ?_
              refine AllReadyH.cons (o := _) rfl (fun K hK => ?_) AllReadyH.nil
              go_simp
              refine hK.out _ _ ?_ (fun hHeld => ?_)
              · trivial
              clear hK K
              try simp only [Act.put, List.setIfInBounds_toArray, List.set_cons_zero, List.set_cons_succ]
              try rw [hT5] at hHeld
              try rw [hT5]
              refine wpAnyH_done (by kernel_rfl) ?_ _
              clear hHeld hT5 z0 z1 z2 zf1 g0 HP HX HC HB hs5 hs4 hw2s hsT hsD hs3 HX1b HB1b HE1 HU HX2b HB2b HX3b HP4 HX4 HC4 HB4 HXD2 HBD2 HRO HNI HP2 HTK HTL
              go_wp2
              go_roundw
              case rel => exact ⟨k + 1, _, cap, by omega, by go_num, HP5, HX5, HC5, HB5, hsz5⟩
              case measure => simp [intOf]; omega
            · have hbl : ∀ q, (Value.slice ua 2 uc).ownBlock = some q → D2.heap.size ≤ q ∧ q < T2.heap.size := World.ownsRow.lt HU.out
              have hsD : wr.heap.size ≤ D2.heap.size := HBD2.out.size
              have hsT : wr.heap.size ≤ T2.heap.size := HB2b.out.size
              obtain ⟨g, cap, T4, r1, o1, rg⟩ := pushIP_run T2 Z.heap.size (fun q => Z.heap.size ≤ q ∧ q < wr.heap.size) (.slice a' k c') (t.ps.take k) ua 2 uc p (HP.out.later HB2b.out) (HU.out.mono (by omega)) (fun q hq h => by have := hbl q hq; omega) (by rw [HTL.out]; omega) (by omega) (fun q hq => by omega)
              rw [HTL.out] at r1 o1
              rw [← HTK.out] at o1
              have hb3 := balloc T2 (.cells #[.slice ua 2 uc] 24)
              obtain ⟨T3, hT3⟩ : ∃ X, T2.alloc (.cells #[.slice ua 2 uc] 24) = X := ⟨_, rfl⟩
              rw [hT3] at hb3 r1
              have HX3b : Hid (X3 T3 rb (.int .i64 s) (.slice a' k c') (.slice a4 ln c4)) := HX2b.out.later hb3
              clear hb3
              go_simp
              refine hK.out _ _ ?_ (fun hHeld => ?_)
              · trivial
              clear hK K
              try simp only [Act.put, List.setIfInBounds_toArray, List.set_cons_zero, List.set_cons_succ]
              try rw [hT3] at hHeld
              try rw [hT3]
              clear hT3
              refine wpAnyH_ready (rs := [1]) (by kernel_rfl) (by simp) ?_
              refine AllReadyH.cons (o := _) rfl (fun K hK => ?_) AllReadyH.nil
              have cc := HX3b.out.1.2.1
              go_simp
              refine hK.out _ _ ?_ (fun hHeld => ?_)
              · trivial
              clear hK K cc
              try simp only [Act.put, List.setIfInBounds_toArray, List.set_cons_zero, List.set_cons_succ]
              have hlt4 : ∀ q, (Value.slice (some ⟨g, 0, none⟩) (k + 1) cap).ownBlock = some q → q < T4.heap.size := by
                obtain ⟨vs, _, hvo, _⟩ := o1
                exact fun q hq => (World.ownsRow.lt hvo q hq).2
              have HP4 : Hid (OwnIP T4 Z.heap.size (fun q => Z.heap.size ≤ q ∧ q < T4.heap.size) (.slice (some ⟨g, 0, none⟩) (k + 1) cap) (t.ps.take (k + 1))) := by
                obtain ⟨vs, h1, h2, h3, h4, h5, h6⟩ := o1
                exact ⟨vs, h1, h2, h3, h4, fun q hq => World.ownsRow.lt h2 q hq, fun j hj q hq => World.ownsRow.lt (h3 j hj) q hq⟩
              have HX4 : Hid (X3 T4 rb (.int .i64 s) (.slice a' k c') (.slice a4 ln c4)) := HX2b.out.rngP rg (fun h => by omega)
              have HC4 : Hid (Own T4 w2.heap.size (.slice a4 ln c4) t.cs) := (HC.out.later HB2b.out).rngP rg (fun q e h => by have := HCB2.out q e; omega)
              have hw2s := HB.out.size
              have HB4 : Hid (Below w2.heap.size w2 T4) := (HB.out.trans (HB2b.out.mono HB.out.size)).trans (rg.below (fun q hq => by omega) (by omega))
              have hs4 : T2.heap.size ≤ T4.heap.size := rg.size
              clear hlt4 hbl rg o1
              refine wpAnyH_ready (rs := [6]) (by kernel_rfl) (by simp) ?_
              refine AllReadyH.cons (o := _) rfl (fun K hK => ?_) AllReadyH.nil
              rw [if_pos (by rfl)]
              refine Lib.wp_append_run _ _ _ _ _ rfl (.slice a' k c') (.slice (some ⟨T2.heap.size, 0, none⟩) 1 1) (by rfl) (by rfl) (.slice (some ⟨g, 0, none⟩) (k + 1) cap) T4 (r1 _) ?_
              clear r1
              refine hK.out _ _ ?_ (fun hHeld => ?_)
              · trivial
              clear hK K
              try simp only [Act.put, List.setIfInBounds_toArray, List.set_cons_zero, List.set_cons_succ]
              try simp only [List.getElem_toArray, List.getElem_cons_succ, List.getElem_cons_zero, Act.put, List.setIfInBounds_toArray, List.set_cons_zero, List.set_cons_succ]
              refine takeSO15 (i := 7) (oi := _) (v := ?_) (d := some 59) rfl (by kernel_rfl) (by kernel_rfl) (by kernel_rfl) (by kernel_rfl) (fun _ _ _ h => h) (Or.inl ⟨by rfl, ?_⟩) (by assumption) ?_
              rotate_left
              · (intro w hSw; (try dsimp only at hSw); go_simp <;> with_reducible rfl)
              try simp only [Act.put, List.setIfInBounds_toArray, List.set_cons_zero, List.set_cons_succ]
              have hT := HX4.out
              have hXF := hT.set1 (.slice (some ⟨g, 0, none⟩) (k + 1) cap)
              have hP5 := HP4.out.setBox (r := rb) (j := 1) (by omega) (.slice (some ⟨g, 0, none⟩) (k + 1) cap)
              have hC5 := HC4.out.kept (grown_setCell T4 rb 1 (.slice (some ⟨g, 0, none⟩) (k + 1) cap)) (Or.inr HNE.out)
              have hB5 := HB4.out.setCell (p := ⟨rb, 1, none⟩) (by show w2.heap.size ≤ rb; exact hrb1) (.slice (some ⟨g, 0, none⟩) (k + 1) cap)
              have hs5 : (T4.setCell ⟨rb, 1, none⟩ (.slice (some ⟨g, 0, none⟩) (k + 1) cap)).heap.size = T4.heap.size := World.size_setCell ..
              obtain ⟨⟨z0, z1, z2⟩, zf⟩ := hT
              have zf1 := zf 1
              clear zf
              obtain ⟨T5, hT5⟩ : ∃ X, T4.setCell ⟨rb, 1, none⟩ (.slice (some ⟨g, 0, none⟩) (k + 1) cap) = X := ⟨_, rfl⟩
              rw [hT5] at hXF hP5 hC5 hB5 hs5
              rw [← hs5] at hP5
              have HP5 : Hid (OwnIP T5 Z.heap.size (fun q => Z.heap.size ≤ q ∧ q < T5.heap.size) (.slice (some ⟨g, 0, none⟩) (k + 1) cap) (t.ps.take (k + 1))) := hP5
              have HX5 : Hid (X3 T5 rb (.int .i64 s) (.slice (some ⟨g, 0, none⟩) (k + 1) cap) (.slice a4 ln c4)) := hXF
              have HC5 : Hid (Own T5 w2.heap.size (.slice a4 ln c4) t.cs) := hC5
              have HB5 : Hid (Below w2.heap.size w2 T5) := hB5
              have hsz5 : Z.heap.size ≤ T5.heap.size := by omega
              clear hXF hP5 hC5 hB5
              refine wpAnyH_ready (rs := [8]) (by kernel_rfl) (by simp) ?_
              refine AllReadyH.cons (o := _) rfl (fun K hK => ?_) AllReadyH.nil
              go_simp
              refine hK.out _ _ ?_ (fun hHeld => ?_)
              · trivial
              clear hK K
              try simp only [Act.put, List.setIfInBounds_toArray, List.set_cons_zero, List.set_cons_succ]
              try rw [hT5] at hHeld
              try rw [hT5]
              refine wpAnyH_done (by kernel_rfl) ?_ _
              clear hHeld hT5 z0 z1 z2 zf1 g0 HP HX HC HB hs5 hs4 hw2s hsT hsD hs3 HX1b HB1b HE1 HU HX2b HB2b HX3b HP4 HX4 HC4 HB4 HXD2 HBD2 HRO HNI HP2 HTK HTL
              go_wp2
              go_roundw
              case rel => exact ⟨k + 1, _, cap, by omega, by go_num, HP5, HX5, HC5, HB5, hsz5⟩
              case measure => simp [intOf]; omega
  · have hbn := balloc D (.cells #[.int .i64 0, .slice none 0 0, .slice none 0 0] 26)
    have hbox := x3_new D (.int .i64 0) (.slice none 0 0) (.slice none 0 0) 26 D.heap.size rfl
    have hobj := box_obj15 D #[.int .i64 0, .slice none 0 0, .slice none 0 0]
    obtain ⟨Y1, hY1⟩ : ∃ X, D.alloc (.cells #[.int .i64 0, .slice none 0 0, .slice none 0 0] 26) = X := ⟨_, rfl⟩
    rw [hY1] at hbn hbox hobj
    have HXY1 : Hid (X3 Y1 w.heap.size (.int .i64 s) (.slice sa sn sc) (.slice la ln lc)) := HXD.out.later hbn
    have HBY1 : Hid (Below w2.heap.size w2 Y1) := HBD.out.trans (hbn.mono HBD.out.size)
    have HTY1 : Hid (X3 Y1 D.heap.size (.int .i64 0) (.slice none 0 0) (.slice none 0 0)) := hbox
    have HJY1 : Hid (Y1.heap[D.heap.size]? = some (.cells #[.int .i64 0, .slice none 0 0, .slice none 0 0] 26 (0, 0))) := hobj
    have hrb1 : w2.heap.size ≤ D.heap.size := HBD.out.size
    clear hbn hbox hobj
    go_simp
    refine hK.out _ _ ?_ (fun hHeld => ?_)
    · (try rw [hY1]); exact HXY1.out.1
    clear hK K
    try simp only [Act.put, List.setIfInBounds_toArray, List.set_cons_zero, List.set_cons_succ]
    try rw [hY1] at hHeld
    try rw [hY1]
    clear hY1
    refine wpAnyH_ready (rs := [2]) (by kernel_rfl) (by simp) ?_
    refine AllReadyH.cons (o := _) rfl (fun K hK => ?_) AllReadyH.nil
    have hbn := balloc Y1 (.cells #[] 3)
    have hrow := emptyI Y1
    obtain ⟨Y2, hY2⟩ : ∃ X, Y1.alloc (.cells #[] 3) = X := ⟨_, rfl⟩
    rw [hY2] at hbn hrow
    have HXY2 : Hid (X3 Y2 w.heap.size (.int .i64 s) (.slice sa sn sc) (.slice la ln lc)) := HXY1.out.later hbn
    have HBY2 : Hid (Below w2.heap.size w2 Y2) := HBY1.out.trans (hbn.mono HBY1.out.size)
    have HTY2 : Hid (X3 Y2 D.heap.size (.int .i64 0) (.slice none 0 0) (.slice none 0 0)) := HTY1.out.later hbn
    have HJY2 : Hid (Y2.heap[D.heap.size]? = some (.cells #[.int .i64 0, .slice none 0 0, .slice none 0 0] 26 (0, 0))) := (hbn.block _ HTY1.out.lt).trans HJY1.out
    have HEY2 : Hid (Own Y2 w2.heap.size (.slice (some ⟨Y1.heap.size, 0, none⟩) 0 0) []) := hrow.mono HBY1.out.size
    clear hbn hrow
    go_simp
    refine hK.out _ _ ?_ (fun hHeld => ?_)
    · (try rw [hY2]); exact HXY2.out.1
    clear hK K
    try simp only [Act.put, List.setIfInBounds_toArray, List.set_cons_zero, List.set_cons_succ]
    try rw [hY2] at hHeld
    try rw [hY2]
    clear hY2
    refine wpAnyH_ready (rs := [5]) (by kernel_rfl) (by simp) ?_
    refine AllReadyH.cons (o := _) rfl (fun K hK => ?_) AllReadyH.nil
    rw [if_pos (by rfl)]
    obtain ⟨v', Y3, r1, o1, gg, b1⟩ := appendI_run Y2 w2.heap.size (.slice (some ⟨Y1.heap.size, 0, none⟩) 0 0) [] t.cs la ln lc HEY2.out (HRL.out Y2 (HB2.out.trans (HBY2.out.mono HB2.out.size))) HCL.out HLZ.out (by simp; omega) HBY2.out.size
    obtain ⟨a4, c4, hv4⟩ := o1.shape
    rw [List.nil_append] at o1 hv4
    rw [HCL.out] at hv4
    subst hv4
    have HCY3 : Hid (Own Y3 w2.heap.size (.slice a4 ln c4) t.cs) := o1
    have HXY3 : Hid (X3 Y3 w.heap.size (.int .i64 s) (.slice sa sn sc) (.slice la ln lc)) := HXY2.out.grown gg (fun e => by have h1 := own_block_ge HEY2.out _ e.symm; have h2 := HX2.out.lt; omega)
    have HBY3 : Hid (Below w2.heap.size w2 Y3) := HBY2.out.trans b1
    have hne : (some (D.heap.size) : Option Nat) ≠ (Value.slice (some ⟨Y1.heap.size, 0, none⟩) 0 0).ownBlock := fun e => own_box15 HEY2.out HJY2.out e.symm
    have HTY3 : Hid (X3 Y3 D.heap.size (.int .i64 0) (.slice none 0 0) (.slice none 0 0)) := HTY2.out.grown gg hne
    have HJY3 : Hid (Y3.heap[D.heap.size]? = some (.cells #[.int .i64 0, .slice none 0 0, .slice none 0 0] 26 (0, 0))) := (gg.block _ HTY2.out.lt hne).trans HJY2.out
    clear hne
    clear o1 gg b1
    refine Lib.wp_append_run _ _ _ _ _ rfl (.slice (some ⟨Y1.heap.size, 0, none⟩) 0 0) (.slice la ln lc) (by rfl) (by rfl) (.slice a4 ln c4) Y3 (r1 _) ?_
    clear r1
    refine hK.out _ _ ?_ (fun hHeld => ?_)
    · exact HXY3.out.1
    clear hK K
    simp only [List.getElem_toArray, List.getElem_cons_succ, List.getElem_cons_zero, Act.put, List.setIfInBounds_toArray, List.set_cons_zero, List.set_cons_succ]
    refine takeSO15 (i := 6) (oi := _) (v := ?_) (d := some 44) rfl (by kernel_rfl) (by kernel_rfl) (by kernel_rfl) (by kernel_rfl) (fun _ _ _ h => h) (Or.inl ⟨by rfl, ?_⟩) (by assumption) ?_
    rotate_left
    · (intro w hSw; (try dsimp only at hSw); go_simp <;> with_reducible rfl)
    try simp only [Act.put, List.setIfInBounds_toArray, List.set_cons_zero, List.set_cons_succ]
    have hne4 : (Value.slice a4 ln c4).ownBlock ≠ some (D.heap.size) := own_box15 HCY3.out HJY3.out
    have hT := HTY3.out
    have hXF := ((hT.set0 (.int .i64 s)).set1 (.slice none 0 0)).set2 (.slice a4 ln c4)
    have hw2w := HX2.out.lt
    have hX3 : X3 (((Y3.setCell ⟨D.heap.size, 0, none⟩ (.int .i64 s)).setCell ⟨D.heap.size, 1, none⟩ (.slice none 0 0)).setCell ⟨D.heap.size, 2, none⟩ (.slice a4 ln c4)) w.heap.size (.int .i64 s) (.slice sa sn sc) (.slice la ln lc) := ((HXY3.out.other (by omega)).other (by omega)).other (by omega)
    have hC3 : Own (((Y3.setCell ⟨D.heap.size, 0, none⟩ (.int .i64 s)).setCell ⟨D.heap.size, 1, none⟩ (.slice none 0 0)).setCell ⟨D.heap.size, 2, none⟩ (.slice a4 ln c4)) w2.heap.size (.slice a4 ln c4) t.cs := ((HCY3.out.kept (grown_setCell _ _ _ _) (Or.inr hne4)).kept (grown_setCell _ _ _ _) (Or.inr hne4)).kept (grown_setCell _ _ _ _) (Or.inr hne4)
    have hB3 : Below w2.heap.size w2 (((Y3.setCell ⟨D.heap.size, 0, none⟩ (.int .i64 s)).setCell ⟨D.heap.size, 1, none⟩ (.slice none 0 0)).setCell ⟨D.heap.size, 2, none⟩ (.slice a4 ln c4)) := ((HBY3.out.setCell (by show w2.heap.size ≤ D.heap.size; omega) _).setCell (by show w2.heap.size ≤ D.heap.size; omega) _).setCell (by show w2.heap.size ≤ D.heap.size; omega) _
    obtain ⟨⟨z0, z1, z2⟩, zf⟩ := hT
    have zf0 := zf 0
    have zf1 := zf 1
    have zf2 := zf 2
    clear zf
    obtain ⟨Z, hZ⟩ : ∃ X, ((Y3.setCell ⟨D.heap.size, 0, none⟩ (.int .i64 s)).setCell ⟨D.heap.size, 1, none⟩ (.slice none 0 0)).setCell ⟨D.heap.size, 2, none⟩ (.slice a4 ln c4) = X := ⟨_, rfl⟩
    rw [hZ] at hXF hX3 hC3 hB3
    have HXZ : Hid (X3 Z w.heap.size (.int .i64 s) (.slice sa sn sc) (.slice la ln lc)) := hX3
    have hrb2 := hXF.lt
    refine wpAnyH_ready (rs := [8]) (by kernel_rfl) (by simp) ?_
    refine AllReadyH.cons (o := _) rfl (fun K hK => ?_) AllReadyH.nil
    go_simp
    refine hK.out _ _ ?_ (fun hHeld => ?_)
    · (try rw [hZ]); exact HXZ.out.1
    clear hK K
    try simp only [Act.put, List.setIfInBounds_toArray, List.set_cons_zero, List.set_cons_succ]
    try rw [hZ] at hHeld
    try rw [hZ]
    refine wpAnyH_done (by kernel_rfl) ?_ _
    clear hHeld hZ z0 z1 z2 zf0 zf1 zf2
    obtain ⟨rb, hrb⟩ : ∃ r, D.heap.size = r := ⟨_, rfl⟩
    rw [hrb] at hXF hrb1 hrb2 hne4 ⊢
    have HOT : Hid (X3 Z rb (.int .i64 s) (.slice none 0 0) (.slice a4 ln c4)) := hXF
    have HCZ : Hid (Own Z w2.heap.size (.slice a4 ln c4) t.cs) := hC3
    have HBZ : Hid (Below w2.heap.size w2 Z) := hB3
    have HNE : Hid ((Value.slice a4 ln c4).ownBlock ≠ some rb) := hne4
    clear hXF hX3 hC3 hB3 hrb hne4 
    obtain ⟨⟨f0, f1, f2⟩, _⟩ := HXZ.out
    have HCB2 : Hid (∀ k, (Value.slice a4 ln c4).ownBlock = some k → k < Z.heap.size) := fun k e => (World.ownsRow.lt HCZ.out k e).2
    have hwZ : w2.heap.size ≤ Z.heap.size := HBZ.out.size
    go_wp2_with fail
    clear f0 f1 f2
    go_loopw [48] (fun iv wr => ∃ (k : Nat) (a' : Option Addr) (c' : Nat), k ≤ sn ∧ iv = .int .i64 k ∧ Hid (OwnIP wr Z.heap.size (fun q => Z.heap.size ≤ q ∧ q < wr.heap.size) (.slice a' k c') (t.ps.take k)) ∧ Hid (X3 wr rb (.int .i64 s) (.slice a' k c') (.slice a4 ln c4)) ∧ Hid (Own wr w2.heap.size (.slice a4 ln c4) t.cs) ∧ Hid (Below w2.heap.size w2 wr) ∧ Z.heap.size ≤ wr.heap.size) (fun iv _ => sn - (intOf iv).toNat)
    case atStart => exact ⟨0, none, 0, Nat.zero_le _, rfl, (by show OwnIP _ _ _ _ _; rw [List.take_zero]; exact nilIP Z Z.heap.size _), HOT, HCZ, HBZ, Nat.le_refl _⟩
    case round =>
      clear HOT HCZ HBZ
      obtain ⟨k, a', c', hk, rfl, HP, HX, HC, HB, hsz⟩ := hrel
      by_cases hlt : k < sn
      case neg =>
        have hks := Nat.le_antisymm (Nat.not_lt.1 hlt) hk
        have hge0 : ¬ (k : Int) < (sn : Int) := by omega
        have HTE : Hid (OwnTb wr w2.heap.size wr.heap.size (.slice a' sn c') (.slice a4 ln c4) ⟨s, t.ps, flipL t.cs (way.take 0) x⟩) := by
          have hp := HP.out
          rw [← hks, List.take_of_length_le (by rw [HPL.out]; exact Nat.le_refl _)] at hp
          rw [List.take_zero]
          exact ⟨⟨_, hp.mono (by omega) (fun _ h => h), fun q hq => by omega, fun q e => by have := HCB2.out q e; omega⟩, HC.out⟩
        have HXE2 : Hid (X3 wr rb (.int .i64 s) (.slice a' sn c') (.slice a4 ln c4)) := by have := HX.out; rw [← hks] at this; exact this
        have HBI : Hid (∀ j, j < ln → byB ((flipL t.cs (way.take 0) x).getD j 0) = true) := by rw [List.take_zero]; exact HCB.out
        obtain ⟨wE, hwE⟩ : ∃ X, X = wr := ⟨_, rfl⟩
        rw [← hwE] at HTE HXE2 HB ⊢
        obtain ⟨aP, haP⟩ : ∃ x, a' = x := ⟨_, rfl⟩
        obtain ⟨cP, hcP⟩ : ∃ x, c' = x := ⟨_, rfl⟩
        rw [haP, hcP] at HTE HXE2
        have HSE : Hid (rb < wE.heap.size) := HXE2.out.lt
        clear HP HX HC hwE haP hcP hks
        go_wp2_with fail
        go_loopw [63] (fun iv wr => ∃ k : Nat, k ≤ wn ∧ iv = .int .i64 k ∧ Hid (OwnTb wr w2.heap.size wE.heap.size (.slice aP sn cP) (.slice a4 ln c4) ⟨s, t.ps, flipL t.cs (way.take k) x⟩) ∧ Hid (X3 wr rb (.int .i64 s) (.slice aP sn cP) (.slice a4 ln c4)) ∧ Hid (Below w2.heap.size w2 wr) ∧ wE.heap.size ≤ wr.heap.size ∧ Hid (∀ j, j < ln → byB ((flipL t.cs (way.take k) x).getD j 0) = true)) (fun iv _ => wn - (intOf iv).toNat)
        case atStart => exact ⟨0, Nat.zero_le _, rfl, HTE, HXE2, HB, Nat.le_refl _, HBI⟩
        case round =>
          clear HTE HXE2 HB HBI hsz
          clear hge0
          clear hlt
          clear hk
          obtain ⟨k, hk, rfl, HT, HX, HB, hsz, HBI⟩ := hrel
          have HFL : Hid ((flipL t.cs (way.take k) x).length = ln) := by show _ = _; rw [flipL_length, HCL.out]
          obtain ⟨⟨f0, f1, f2⟩, _⟩ := HX.out
          by_cases hlt : k < wn
          case neg =>
            have hkw := Nat.le_antisymm (Nat.not_lt.1 hlt) hk
            have HZR : Hid (X3 wr V.heap.size (.int .i64 0) (.slice none 0 0) (.slice none 0 0)) := HZ2.out.later HB.out
            have hZ2 := HZR.out
            have hXF := ((hZ2.set0 (.int .i64 s)).set1 (.slice aP sn cP)).set2 (.slice a4 ln c4)
            have hBw : Below w.heap.size w wr := HB2.out.trans (HB.out.mono HB2.out.size)
            have hB3 := ((hBw.setCell (p := ⟨V.heap.size, 0, none⟩) (by show w.heap.size ≤ V.heap.size; omega) (.int .i64 s)).setCell (p := ⟨V.heap.size, 1, none⟩) (by show w.heap.size ≤ V.heap.size; omega) (.slice aP sn cP)).setCell (p := ⟨V.heap.size, 2, none⟩) (by show w.heap.size ≤ V.heap.size; omega) (.slice a4 ln c4)
            have hT3 := ((HT.out.setBox (r := V.heap.size) (j := 0) (Or.inl (by omega)) (.int .i64 s)).setBox (r := V.heap.size) (j := 1) (Or.inl (by omega)) (.slice aP sn cP)).setBox (r := V.heap.size) (j := 2) (Or.inl (by omega)) (.slice a4 ln c4)
            have hsz3 : wr.heap.size ≤ (((wr.setCell ⟨V.heap.size, 0, none⟩ (.int .i64 s)).setCell ⟨V.heap.size, 1, none⟩ (.slice aP sn cP)).setCell ⟨V.heap.size, 2, none⟩ (.slice a4 ln c4)).heap.size := by rw [World.size_setCell, World.size_setCell, World.size_setCell]; exact Nat.le_refl _
            obtain ⟨⟨z0, z1, z2⟩, zf⟩ := hZ2
            have zf0 := zf 0
            have zf1 := zf 1
            have zf2 := zf 2
            clear zf
            obtain ⟨W3, hW3⟩ : ∃ X, ((wr.setCell ⟨V.heap.size, 0, none⟩ (.int .i64 s)).setCell ⟨V.heap.size, 1, none⟩ (.slice aP sn cP)).setCell ⟨V.heap.size, 2, none⟩ (.slice a4 ln c4) = X := ⟨_, rfl⟩
            rw [hW3] at hXF hB3 hT3 hsz3
            rw [← hkw, List.take_of_length_le (by rw [HWL.out]; exact Nat.le_refl _)] at hT3
            have HT3 : Hid (OwnTb W3 w.heap.size W3.heap.size (.slice aP sn cP) (.slice a4 ln c4) ⟨s, t.ps, flipL t.cs way x⟩) := hT3.mono (by omega) (by omega)
            have HB3 : Hid (Below w.heap.size w W3) := hB3
            obtain ⟨⟨e0, e1, e2⟩, _⟩ := hXF
            have hge : ¬ (k : Int) < (wn : Int) := by omega
            clear hB3 hT3 HT hkw
            go_wp2
            refine bodyPost_ret (v := .tuple #[.agg #[.int .i64 s, .slice aP sn cP, .slice a4 ln c4], .bool true]) (by simp [results, Try.results16, go_sem, e0, e1, e2]; try rfl) rfl ?_
            refine ⟨aP, cP, a4, c4, ?_, ?_, HB3.out⟩
            · show _ = Ending.returned (.tuple #[.agg #[.int .i64 s, .slice aP t.ps.length cP, .slice a4 (flipL t.cs way x).length c4], .bool true])
              rw [HPL.out, flipL_length, HCL.out]
            · show OwnTb _ _ _ (.slice aP t.ps.length cP) (.slice a4 (flipL t.cs way x).length c4) _
              rw [HPL.out, flipL_length, HCL.out]
              exact HT3.out
          have hkl : k < way.length := by rw [HWL.out]; exact hlt
          obtain ⟨wb, wo, rfl, gw⟩ := (HO2.out.later HB.out).rd'.2.get hkl
          have hwm := HWM.out _ (mem_getD 0 hkl)
          have hft := flipL_take (cs := t.cs) (x := x) hkl
          generalize way.getD k 0 = y at gw hwm hft
          obtain ⟨p, rfl⟩ : ∃ p : Nat, y = (p : Int) := ⟨y.toNat, by omega⟩
          have hpl : p < ln := by have := HLN.out; have := HPL.out; omega
          rcases HT.out.li.addr with ⟨_, h0, _⟩ | ⟨g, rfl, hg1, hg2⟩
          · exfalso; omega
          have hgb : g < wE.heap.size := by obtain ⟨pp, _, _, h3⟩ := HT.out.ex; exact (h3 g rfl).2
          have hgr : rb ≠ g := fun e => HNE.out (by rw [e]; rfl)
          rw [Int.toNat_natCast] at hft
          have gs := Own.cell (g := g) (cap := c4) (xs := flipL t.cs (way.take k) x) (by rw [HFL.out]; exact HT.out.li) p (by rw [HFL.out]; exact hpl)
          have hfz := Own.free (g := g) (cap := c4) (xs := flipL t.cs (way.take k) x) (by rw [HFL.out]; exact HT.out.li) p
          have hsb := HBI.out p hpl
          have hxr := bits_xr hsb HBY.out
          have hxb := xr_by hsb HBY.out
          have HFT : Hid (flipL t.cs (way.take (k + 1)) x = (flipL t.cs (way.take k) x).set p (xr ((flipL t.cs (way.take k) x).getD p 0) x)) := hft
          generalize flipL t.cs (way.take k) x = F at HT HFL HBI gs hfz hsb hxr hxb HFT
          generalize F.getD p 0 = v at gs hxr hxb HFT
          generalize xr v x = z at hxr hxb HFT
          have HBI2 : Hid (∀ j, j < ln → byB ((flipL t.cs (way.take (k + 1)) x).getD j 0) = true) := fun j hj => by
            rw [HFT.out, getD_set9 _ _ _ _ (by rw [HFL.out]; exact hpl)]
            split
            · exact hxb
            · exact HBI.out j hj
          have HT3 : Hid (OwnTb (wr.setCell ⟨g, p, none⟩ (.int .i64 z)) w2.heap.size wE.heap.size (.slice aP sn cP) (.slice (some ⟨g, 0, none⟩) ln c4) ⟨s, t.ps, flipL t.cs (way.take (k + 1)) x⟩) := by show OwnTb _ _ _ _ _ _; rw [HFT.out]; exact HT.out.setCoin p z
          have HX3 : Hid (X3 (wr.setCell ⟨g, p, none⟩ (.int .i64 z)) rb (.int .i64 s) (.slice aP sn cP) (.slice (some ⟨g, 0, none⟩) ln c4)) := HX.out.other (by omega)
          have HB3 : Hid (Below w2.heap.size w2 (wr.setCell ⟨g, p, none⟩ (.int .i64 z))) := HB.out.setCell (by show _ ≤ g; omega) _
          have hsz3 : wE.heap.size ≤ (wr.setCell ⟨g, p, none⟩ (.int .i64 z)).heap.size := by rw [World.size_setCell]; exact hsz
          have k0 : (0 : Int) ≤ (k : Int) := by omega
          have k1 : (k : Int) < (wn : Int) := by omega
          have p0 : (0 : Int) ≤ (p : Int) := by omega
          have p1 : (p : Int) < (ln : Int) := by omega
          clear hkl hwm hft hsb hxb HT HX HB HFT HBI
          go_wp2
          go_roundw
          case rel => exact ⟨k + 1, by omega, by go_num, HT3, HX3, HB3, hsz3, HBI2⟩
          case measure => simp [intOf]; omega
      have hkl : k < t.ps.length := by rw [HPL.out]; exact hlt
      obtain ⟨b, o, ro, rc, rfl, g0, hro, hnil⟩ := (HRP.out wr (HB2.out.trans (HB.out.mono HB2.out.size))).get hkl
      have h2 := H2.out k hlt
      have HTK : Hid (t.ps.take (k + 1) = t.ps.take k ++ [t.ps.getD k []]) := take_snoc [] hkl
      have HTL : Hid ((t.ps.take k).length = k) := by show _ = _; rw [List.length_take]; omega
      generalize t.ps.getD k [] = p at g0 hro hnil h2 HTK
      rw [h2] at g0 hnil
      have k0 : (0 : Int) ≤ (k : Int) := by omega
      have k1 : (k : Int) < (sn : Int) := by omega
      clear hkl
      have HRO : Hid (Rd wr ro p) := hro
      have HNI : Hid (ro = none → 2 = 0 ∧ rc = 0) := hnil
      have HP2 : Hid (p.length = 2) := h2
      clear hro hnil h2
      obtain ⟨⟨f0, f1, f2⟩, _⟩ := HX.out
      go_wp2_with fail
      obtain ⟨D2, hD2⟩ : ∃ D, wr.drew = D := ⟨_, rfl⟩
      have hbD2 : Below wr.heap.size wr D2 := by rw [← hD2]; exact (Below.refl _ _).drew
      have HXD2 : Hid (X3 D2 rb (.int .i64 s) (.slice a' k c') (.slice a4 ln c4)) := HX.out.later hbD2
      have HBD2 : Hid (Below wr.heap.size wr D2) := hbD2
      clear hbD2 f0 f1 f2
      refine wp_region_held_drew (S := (fun X => True)) (by kernel_rfl) ?_ (fun hHeld => ?_)
      · trivial
      rw [hD2]
      clear hD2
      refine takeSO15 (i := 0) (oi := _) (v := ?_) (d := some 52) rfl (by kernel_rfl) (by kernel_rfl) (by kernel_rfl) (by kernel_rfl) (fun _ _ _ h => h) (Or.inl ⟨by rfl, ?_⟩) (by assumption) ?_
      rotate_left
      · (intro w hSw; (try dsimp only at hSw); go_simp <;> with_reducible rfl)
      try simp only [Act.put, List.setIfInBounds_toArray, List.set_cons_zero, List.set_cons_succ]
      refine takeSO15 (i := 3) (oi := _) (v := ?_) (d := some 55) rfl (by kernel_rfl) (by kernel_rfl) (by kernel_rfl) (by kernel_rfl) (fun _ _ _ h => h) (Or.inl ⟨by rfl, ?_⟩) (by assumption) ?_
      rotate_left
      · (intro w hSw; (try dsimp only at hSw); go_simp <;> with_reducible rfl)
      try simp only [Act.put, List.setIfInBounds_toArray, List.set_cons_zero, List.set_cons_succ]
      refine wpAnyH_ready (rs := [1, 2]) (by kernel_rfl) (by simp) ?_
      refine AllReadyH.cons (o := _) rfl (fun K hK => ?_) (AllReadyH.cons (o := _) rfl (fun K hK => ?_) AllReadyH.nil)
      · have cc := HXD2.out.1.2.1
        go_simp
        refine hK.out _ _ ?_ (fun hHeld => ?_)
        · trivial
        clear hK K cc
        try simp only [Act.put, List.setIfInBounds_toArray, List.set_cons_zero, List.set_cons_succ]
        refine wpAnyH_ready (rs := [2]) (by kernel_rfl) (by simp) ?_
        refine AllReadyH.cons (o := _) rfl (fun K hK => ?_) AllReadyH.nil
        have hb1 := balloc D2 (.cells #[] 3)
        have hE1 := emptyI D2
        obtain ⟨T1, hT1⟩ : ∃ X, D2.alloc (.cells #[] 3) = X := ⟨_, rfl⟩
        rw [hT1] at hb1 hE1
        have HX1b : Hid (X3 T1 rb (.int .i64 s) (.slice a' k c') (.slice a4 ln c4)) := HXD2.out.later hb1
        have HB1b : Hid (Below wr.heap.size wr T1) := HBD2.out.trans (hb1.mono HBD2.out.size)
        have HE1 : Hid (Own T1 D2.heap.size (.slice (some ⟨D2.heap.size, 0, none⟩) 0 0) []) := hE1
        have hs3 : D2.heap.size ≤ T1.heap.size := hb1.size
        clear hb1 hE1
        go_simp
        refine hK.out _ _ ?_ (fun hHeld => ?_)
        · trivial
        clear hK K
        try simp only [Act.put, List.setIfInBounds_toArray, List.set_cons_zero, List.set_cons_succ]
        try rw [hT1] at hHeld
        try rw [hT1]
        clear hT1
        refine wpAnyH_ready (rs := [4]) (by kernel_rfl) (by simp) ?_
        refine AllReadyH.cons (o := _) rfl (fun K hK => ?_) AllReadyH.nil
        rw [if_pos (by rfl)]
        obtain ⟨v', T2, r1, o1, gg, b1⟩ := appendI_run T1 D2.heap.size (.slice (some ⟨D2.heap.size, 0, none⟩) 0 0) [] p ro 2 rc HE1.out (HRO.out.later HB1b.out) HP2.out HNI.out (by simp) hs3
        obtain ⟨ua, uc, hv4⟩ := o1.shape
        rw [List.nil_append] at o1 hv4
        rw [HP2.out] at hv4
        subst hv4
        have HU : Hid (Own T2 D2.heap.size (.slice ua 2 uc) p) := o1
        have HX2b : Hid (X3 T2 rb (.int .i64 s) (.slice a' k c') (.slice a4 ln c4)) := HX1b.out.grown gg (fun e => by have h1 := own_block_ge HE1.out _ e.symm; have h2 := HX.out.lt; have h3 := HBD2.out.size; omega)
        have HB2b : Hid (Below wr.heap.size wr T2) := HB1b.out.trans (b1.mono HBD2.out.size)
        clear o1 gg b1
        refine Lib.wp_append_run _ _ _ _ _ rfl (.slice (some ⟨D2.heap.size, 0, none⟩) 0 0) (.slice ro 2 rc) (by rfl) (by rfl) (.slice ua 2 uc) T2 (r1 _) ?_
        clear r1
        refine hK.out _ _ ?_ (fun hHeld => ?_)
        · trivial
        clear hK K
        simp only [List.getElem_toArray, List.getElem_cons_succ, List.getElem_cons_zero, Act.put, List.setIfInBounds_toArray, List.set_cons_zero, List.set_cons_succ]
        refine wpAnyH_ready (rs := [5]) (by kernel_rfl) (by simp) ?_
        refine AllReadyH.cons (o := _) rfl (fun K hK => ?_) AllReadyH.nil
        have hbl : ∀ q, (Value.slice ua 2 uc).ownBlock = some q → D2.heap.size ≤ q ∧ q < T2.heap.size := World.ownsRow.lt HU.out
        have hsD : wr.heap.size ≤ D2.heap.size := HBD2.out.size
        have hsT : wr.heap.size ≤ T2.heap.size := HB2b.out.size
        obtain ⟨g, cap, T4, r1, o1, rg⟩ := pushIP_run T2 Z.heap.size (fun q => Z.heap.size ≤ q ∧ q < wr.heap.size) (.slice a' k c') (t.ps.take k) ua 2 uc p (HP.out.later HB2b.out) (HU.out.mono (by omega)) (fun q hq h => by have := hbl q hq; omega) (by rw [HTL.out]; omega) (by omega) (fun q hq => by omega)
        rw [HTL.out] at r1 o1
        rw [← HTK.out] at o1
        have hb3 := balloc T2 (.cells #[.slice ua 2 uc] 24)
        obtain ⟨T3, hT3⟩ : ∃ X, T2.alloc (.cells #[.slice ua 2 uc] 24) = X := ⟨_, rfl⟩
        rw [hT3] at hb3 r1
        have HX3b : Hid (X3 T3 rb (.int .i64 s) (.slice a' k c') (.slice a4 ln c4)) := HX2b.out.later hb3
        clear hb3
        go_simp
        refine hK.out _ _ ?_ (fun hHeld => ?_)
        · trivial
        clear hK K
        try simp only [Act.put, List.setIfInBounds_toArray, List.set_cons_zero, List.set_cons_succ]
        try rw [hT3] at hHeld
        try rw [hT3]
        clear hT3
        have hlt4 : ∀ q, (Value.slice (some ⟨g, 0, none⟩) (k + 1) cap).ownBlock = some q → q < T4.heap.size := by
          obtain ⟨vs, _, hvo, _⟩ := o1
          exact fun q hq => (World.ownsRow.lt hvo q hq).2
        have HP4 : Hid (OwnIP T4 Z.heap.size (fun q => Z.heap.size ≤ q ∧ q < T4.heap.size) (.slice (some ⟨g, 0, none⟩) (k + 1) cap) (t.ps.take (k + 1))) := by
          obtain ⟨vs, h1, h2, h3, h4, h5, h6⟩ := o1
          exact ⟨vs, h1, h2, h3, h4, fun q hq => World.ownsRow.lt h2 q hq, fun j hj q hq => World.ownsRow.lt (h3 j hj) q hq⟩
        have HX4 : Hid (X3 T4 rb (.int .i64 s) (.slice a' k c') (.slice a4 ln c4)) := HX2b.out.rngP rg (fun h => by omega)
        have HC4 : Hid (Own T4 w2.heap.size (.slice a4 ln c4) t.cs) := (HC.out.later HB2b.out).rngP rg (fun q e h => by have := HCB2.out q e; omega)
        have hw2s := HB.out.size
        have HB4 : Hid (Below w2.heap.size w2 T4) := (HB.out.trans (HB2b.out.mono HB.out.size)).trans (rg.below (fun q hq => by omega) (by omega))
        have hs4 : T2.heap.size ≤ T4.heap.size := rg.size
        clear hlt4 hbl rg o1
        refine wpAnyH_ready (rs := [6]) (by kernel_rfl) (by simp) ?_
        refine AllReadyH.cons (o := _) rfl (fun K hK => ?_) AllReadyH.nil
        rw [if_pos (by rfl)]
        refine Lib.wp_append_run _ _ _ _ _ rfl (.slice a' k c') (.slice (some ⟨T2.heap.size, 0, none⟩) 1 1) (by rfl) (by rfl) (.slice (some ⟨g, 0, none⟩) (k + 1) cap) T4 (r1 _) ?_
        clear r1
        refine hK.out _ _ ?_ (fun hHeld => ?_)
        · trivial
        clear hK K
        try simp only [Act.put, List.setIfInBounds_toArray, List.set_cons_zero, List.set_cons_succ]
        try simp only [List.getElem_toArray, List.getElem_cons_succ, List.getElem_cons_zero, Act.put, List.setIfInBounds_toArray, List.set_cons_zero, List.set_cons_succ]
        refine takeSO15 (i := 7) (oi := _) (v := ?_) (d := some 59) rfl (by kernel_rfl) (by kernel_rfl) (by kernel_rfl) (by kernel_rfl) (fun _ _ _ h => h) (Or.inl ⟨by rfl, ?_⟩) (by assumption) ?_
        rotate_left
        · (intro w hSw; (try dsimp only at hSw); go_simp <;> with_reducible rfl)
        try simp only [Act.put, List.setIfInBounds_toArray, List.set_cons_zero, List.set_cons_succ]
        have hT := HX4.out
        have hXF := hT.set1 (.slice (some ⟨g, 0, none⟩) (k + 1) cap)
        have hP5 := HP4.out.setBox (r := rb) (j := 1) (by omega) (.slice (some ⟨g, 0, none⟩) (k + 1) cap)
        have hC5 := HC4.out.kept (grown_setCell T4 rb 1 (.slice (some ⟨g, 0, none⟩) (k + 1) cap)) (Or.inr HNE.out)
        have hB5 := HB4.out.setCell (p := ⟨rb, 1, none⟩) (by show w2.heap.size ≤ rb; exact hrb1) (.slice (some ⟨g, 0, none⟩) (k + 1) cap)
        have hs5 : (T4.setCell ⟨rb, 1, none⟩ (.slice (some ⟨g, 0, none⟩) (k + 1) cap)).heap.size = T4.heap.size := World.size_setCell ..
        obtain ⟨⟨z0, z1, z2⟩, zf⟩ := hT
        have zf1 := zf 1
        clear zf
        obtain ⟨T5, hT5⟩ : ∃ X, T4.setCell ⟨rb, 1, none⟩ (.slice (some ⟨g, 0, none⟩) (k + 1) cap) = X := ⟨_, rfl⟩
        rw [hT5] at hXF hP5 hC5 hB5 hs5
        rw [← hs5] at hP5
        have HP5 : Hid (OwnIP T5 Z.heap.size (fun q => Z.heap.size ≤ q ∧ q < T5.heap.size) (.slice (some ⟨g, 0, none⟩) (k + 1) cap) (t.ps.take (k + 1))) := hP5
        have HX5 : Hid (X3 T5 rb (.int .i64 s) (.slice (some ⟨g, 0, none⟩) (k + 1) cap) (.slice a4 ln c4)) := hXF
        have HC5 : Hid (Own T5 w2.heap.size (.slice a4 ln c4) t.cs) := hC5
        have HB5 : Hid (Below w2.heap.size w2 T5) := hB5
        have hsz5 : Z.heap.size ≤ T5.heap.size := by omega
        clear hXF hP5 hC5 hB5
        refine wpAnyH_ready (rs := [8]) (by kernel_rfl) (by simp) ?_
        refine AllReadyH.cons (o := _) rfl (fun K hK => ?_) AllReadyH.nil
        go_simp
        refine hK.out _ _ ?_ (fun hHeld => ?_)
        · trivial
        clear hK K
        try simp only [Act.put, List.setIfInBounds_toArray, List.set_cons_zero, List.set_cons_succ]
        try rw [hT5] at hHeld
        try rw [hT5]
        refine wpAnyH_done (by kernel_rfl) ?_ _
        clear hHeld hT5 z0 z1 z2 zf1 g0 HP HX HC HB hs5 hs4 hw2s hsT hsD hs3 HX1b HB1b HE1 HU HX2b HB2b HX3b HP4 HX4 HC4 HB4 HXD2 HBD2 HRO HNI HP2 HTK HTL
        go_wp2
        go_roundw
        case rel => exact ⟨k + 1, _, cap, by omega, by go_num, HP5, HX5, HC5, HB5, hsz5⟩
        case measure => simp [intOf]; omega
      · have hb1 := balloc D2 (.cells #[] 3)
        have hE1 := emptyI D2
        obtain ⟨T1, hT1⟩ : ∃ X, D2.alloc (.cells #[] 3) = X := ⟨_, rfl⟩
        rw [hT1] at hb1 hE1
        have HX1b : Hid (X3 T1 rb (.int .i64 s) (.slice a' k c') (.slice a4 ln c4)) := HXD2.out.later hb1
        have HB1b : Hid (Below wr.heap.size wr T1) := HBD2.out.trans (hb1.mono HBD2.out.size)
        have HE1 : Hid (Own T1 D2.heap.size (.slice (some ⟨D2.heap.size, 0, none⟩) 0 0) []) := hE1
        have hs3 : D2.heap.size ≤ T1.heap.size := hb1.size
        clear hb1 hE1
        go_simp
        refine hK.out _ _ ?_ (fun hHeld => ?_)
        · trivial
        clear hK K
        try simp only [Act.put, List.setIfInBounds_toArray, List.set_cons_zero, List.set_cons_succ]
        try rw [hT1] at hHeld
        try rw [hT1]
        clear hT1
        refine wpAnyH_ready (rs := [1, 4]) (by kernel_rfl) (by simp) ?_
        refine AllReadyH.cons (o := _) rfl (fun K hK => ?_) (AllReadyH.cons (o := _) rfl (fun K hK => ?_) AllReadyH.nil)
        · have cc := HX1b.out.1.2.1
          go_simp
          refine hK.out _ _ ?_ (fun hHeld => ?_)
          · trivial
          clear hK K cc
          try simp only [Act.put, List.setIfInBounds_toArray, List.set_cons_zero, List.set_cons_succ]
          refine wpAnyH_ready (rs := [4]) (by kernel_rfl) (by simp) ?_
          refine AllReadyH.cons (o := _) rfl (fun K hK => ?_) AllReadyH.nil
          rw [if_pos (by rfl)]
          obtain ⟨v', T2, r1, o1, gg, b1⟩ := appendI_run T1 D2.heap.size (.slice (some ⟨D2.heap.size, 0, none⟩) 0 0) [] p ro 2 rc HE1.out (HRO.out.later HB1b.out) HP2.out HNI.out (by simp) hs3
          obtain ⟨ua, uc, hv4⟩ := o1.shape
          rw [List.nil_append] at o1 hv4
          rw [HP2.out] at hv4
          subst hv4
          have HU : Hid (Own T2 D2.heap.size (.slice ua 2 uc) p) := o1
          have HX2b : Hid (X3 T2 rb (.int .i64 s) (.slice a' k c') (.slice a4 ln c4)) := HX1b.out.grown gg (fun e => by have h1 := own_block_ge HE1.out _ e.symm; have h2 := HX.out.lt; have h3 := HBD2.out.size; omega)
          have HB2b : Hid (Below wr.heap.size wr T2) := HB1b.out.trans (b1.mono HBD2.out.size)
          clear o1 gg b1
          refine Lib.wp_append_run _ _ _ _ _ rfl (.slice (some ⟨D2.heap.size, 0, none⟩) 0 0) (.slice ro 2 rc) (by rfl) (by rfl) (.slice ua 2 uc) T2 (r1 _) ?_
          clear r1
          refine hK.out _ _ ?_ (fun hHeld => ?_)
          · trivial
          clear hK K
          simp only [List.getElem_toArray, List.getElem_cons_succ, List.getElem_cons_zero, Act.put, List.setIfInBounds_toArray, List.set_cons_zero, List.set_cons_succ]
          refine wpAnyH_ready (rs := [5]) (by kernel_rfl) (by simp) ?_
          refine AllReadyH.cons (o := _) rfl (fun K hK => ?_) AllReadyH.nil
          have hbl : ∀ q, (Value.slice ua 2 uc).ownBlock = some q → D2.heap.size ≤ q ∧ q < T2.heap.size := World.ownsRow.lt HU.out
          have hsD : wr.heap.size ≤ D2.heap.size := HBD2.out.size
          have hsT : wr.heap.size ≤ T2.heap.size := HB2b.out.size
          obtain ⟨g, cap, T4, r1, o1, rg⟩ := pushIP_run T2 Z.heap.size (fun q => Z.heap.size ≤ q ∧ q < wr.heap.size) (.slice a' k c') (t.ps.take k) ua 2 uc p (HP.out.later HB2b.out) (HU.out.mono (by omega)) (fun q hq h => by have := hbl q hq; omega) (by rw [HTL.out]; omega) (by omega) (fun q hq => by omega)
          rw [HTL.out] at r1 o1
          rw [← HTK.out] at o1
          have hb3 := balloc T2 (.cells #[.slice ua 2 uc] 24)
          obtain ⟨T3, hT3⟩ : ∃ X, T2.alloc (.cells #[.slice ua 2 uc] 24) = X := ⟨_, rfl⟩
          rw [hT3] at hb3 r1
          have HX3b : Hid (X3 T3 rb (.int .i64 s) (.slice a' k c') (.slice a4 ln c4)) := HX2b.out.later hb3
          clear hb3
          go_simp
          refine hK.out _ _ ?_ (fun hHeld => ?_)
          · trivial
          clear hK K
          try simp only [Act.put, List.setIfInBounds_toArray, List.set_cons_zero, List.set_cons_succ]
          try rw [hT3] at hHeld
          try rw [hT3]
          clear hT3
          have hlt4 : ∀ q, (Value.slice (some ⟨g, 0, none⟩) (k + 1) cap).ownBlock = some q → q < T4.heap.size := by
            obtain ⟨vs, _, hvo, _⟩ := o1
            exact fun q hq => (World.ownsRow.lt hvo q hq).2
          have HP4 : Hid (OwnIP T4 Z.heap.size (fun q => Z.heap.size ≤ q ∧ q < T4.heap.size) (.slice (some ⟨g, 0, none⟩) (k + 1) cap) (t.ps.take (k + 1))) := by
            obtain ⟨vs, h1, h2, h3, h4, h5, h6⟩ := o1
            exact ⟨vs, h1, h2, h3, h4, fun q hq => World.ownsRow.lt h2 q hq, fun j hj q hq => World.ownsRow.lt (h3 j hj) q hq⟩
          have HX4 : Hid (X3 T4 rb (.int .i64 s) (.slice a' k c') (.slice a4 ln c4)) := HX2b.out.rngP rg (fun h => by omega)
          have HC4 : Hid (Own T4 w2.heap.size (.slice a4 ln c4) t.cs) := (HC.out.later HB2b.out).rngP rg (fun q e h => by have := HCB2.out q e; omega)
          have hw2s := HB.out.size
          have HB4 : Hid (Below w2.heap.size w2 T4) := (HB.out.trans (HB2b.out.mono HB.out.size)).trans (rg.below (fun q hq => by omega) (by omega))
          have hs4 : T2.heap.size ≤ T4.heap.size := rg.size
          clear hlt4 hbl rg o1
          refine wpAnyH_ready (rs := [6]) (by kernel_rfl) (by simp) ?_
          refine AllReadyH.cons (o := _) rfl (fun K hK => ?_) AllReadyH.nil
          rw [if_pos (by rfl)]
          refine Lib.wp_append_run _ _ _ _ _ rfl (.slice a' k c') (.slice (some ⟨T2.heap.size, 0, none⟩) 1 1) (by rfl) (by rfl) (.slice (some ⟨g, 0, none⟩) (k + 1) cap) T4 (r1 _) ?_
          clear r1
          refine hK.out _ _ ?_ (fun hHeld => ?_)
          · trivial
          clear hK K
          try simp only [Act.put, List.setIfInBounds_toArray, List.set_cons_zero, List.set_cons_succ]
          try simp only [List.getElem_toArray, List.getElem_cons_succ, List.getElem_cons_zero, Act.put, List.setIfInBounds_toArray, List.set_cons_zero, List.set_cons_succ]
          refine takeSO15 (i := 7) (oi := _) (v := ?_) (d := some 59) rfl (by kernel_rfl) (by kernel_rfl) (by kernel_rfl) (by kernel_rfl) (fun _ _ _ h => h) (Or.inl ⟨by rfl, ?_⟩) (by assumption) ?_
          rotate_left
          · (intro w hSw; (try dsimp only at hSw); go_simp <;> with_reducible rfl)
          try simp only [Act.put, List.setIfInBounds_toArray, List.set_cons_zero, List.set_cons_succ]
          have hT := HX4.out
          have hXF := hT.set1 (.slice (some ⟨g, 0, none⟩) (k + 1) cap)
          have hP5 := HP4.out.setBox (r := rb) (j := 1) (by omega) (.slice (some ⟨g, 0, none⟩) (k + 1) cap)
          have hC5 := HC4.out.kept (grown_setCell T4 rb 1 (.slice (some ⟨g, 0, none⟩) (k + 1) cap)) (Or.inr HNE.out)
          have hB5 := HB4.out.setCell (p := ⟨rb, 1, none⟩) (by show w2.heap.size ≤ rb; exact hrb1) (.slice (some ⟨g, 0, none⟩) (k + 1) cap)
          have hs5 : (T4.setCell ⟨rb, 1, none⟩ (.slice (some ⟨g, 0, none⟩) (k + 1) cap)).heap.size = T4.heap.size := World.size_setCell ..
          obtain ⟨⟨z0, z1, z2⟩, zf⟩ := hT
          have zf1 := zf 1
          clear zf
          obtain ⟨T5, hT5⟩ : ∃ X, T4.setCell ⟨rb, 1, none⟩ (.slice (some ⟨g, 0, none⟩) (k + 1) cap) = X := ⟨_, rfl⟩
          rw [hT5] at hXF hP5 hC5 hB5 hs5
          rw [← hs5] at hP5
          have HP5 : Hid (OwnIP T5 Z.heap.size (fun q => Z.heap.size ≤ q ∧ q < T5.heap.size) (.slice (some ⟨g, 0, none⟩) (k + 1) cap) (t.ps.take (k + 1))) := hP5
          have HX5 : Hid (X3 T5 rb (.int .i64 s) (.slice (some ⟨g, 0, none⟩) (k + 1) cap) (.slice a4 ln c4)) := hXF
          have HC5 : Hid (Own T5 w2.heap.size (.slice a4 ln c4) t.cs) := hC5
          have HB5 : Hid (Below w2.heap.size w2 T5) := hB5
          have hsz5 : Z.heap.size ≤ T5.heap.size := by omega
          clear hXF hP5 hC5 hB5
          refine wpAnyH_ready (rs := [8]) (by kernel_rfl) (by simp) ?_
          refine AllReadyH.cons (o := _) rfl (fun K hK => ?_) AllReadyH.nil
          go_simp
          refine hK.out _ _ ?_ (fun hHeld => ?_)
          · trivial
          clear hK K
          try simp only [Act.put, List.setIfInBounds_toArray, List.set_cons_zero, List.set_cons_succ]
          try rw [hT5] at hHeld
          try rw [hT5]
          refine wpAnyH_done (by kernel_rfl) ?_ _
          clear hHeld hT5 z0 z1 z2 zf1 g0 HP HX HC HB hs5 hs4 hw2s hsT hsD hs3 HX1b HB1b HE1 HU HX2b HB2b HX3b HP4 HX4 HC4 HB4 HXD2 HBD2 HRO HNI HP2 HTK HTL
          go_wp2
          go_roundw
          case rel => exact ⟨k + 1, _, cap, by omega, by go_num, HP5, HX5, HC5, HB5, hsz5⟩
          case measure => simp [intOf]; omega
        · rw [if_pos (by rfl)]
          obtain ⟨v', T2, r1, o1, gg, b1⟩ := appendI_run T1 D2.heap.size (.slice (some ⟨D2.heap.size, 0, none⟩) 0 0) [] p ro 2 rc HE1.out (HRO.out.later HB1b.out) HP2.out HNI.out (by simp) hs3
          obtain ⟨ua, uc, hv4⟩ := o1.shape
          rw [List.nil_append] at o1 hv4
          rw [HP2.out] at hv4
          subst hv4
          have HU : Hid (Own T2 D2.heap.size (.slice ua 2 uc) p) := o1
          have HX2b : Hid (X3 T2 rb (.int .i64 s) (.slice a' k c') (.slice a4 ln c4)) := HX1b.out.grown gg (fun e => by have h1 := own_block_ge HE1.out _ e.symm; have h2 := HX.out.lt; have h3 := HBD2.out.size; omega)
          have HB2b : Hid (Below wr.heap.size wr T2) := HB1b.out.trans (b1.mono HBD2.out.size)
          clear o1 gg b1
          refine Lib.wp_append_run _ _ _ _ _ rfl (.slice (some ⟨D2.heap.size, 0, none⟩) 0 0) (.slice ro 2 rc) (by rfl) (by rfl) (.slice ua 2 uc) T2 (r1 _) ?_
          clear r1
          refine hK.out _ _ ?_ (fun hHeld => ?_)
          · trivial
          clear hK K
          simp only [List.getElem_toArray, List.getElem_cons_succ, List.getElem_cons_zero, Act.put, List.setIfInBounds_toArray, List.set_cons_zero, List.set_cons_succ]
          refine wpAnyH_ready (rs := [1, 5]) (by kernel_rfl) (by simp) ?_
          refine AllReadyH.cons (o := _) rfl (fun K hK => ?_) (AllReadyH.cons (o := _) rfl (fun K hK => ?_) AllReadyH.nil)
          · have cc := HX2b.out.1.2.1
            go_simp
            refine hK.out _ _ ?_ (fun hHeld => ?_)
            · trivial
            clear hK K cc
            try simp only [Act.put, List.setIfInBounds_toArray, List.set_cons_zero, List.set_cons_succ]
            refine wpAnyH_ready (rs := [5]) (by kernel_rfl) (by simp) ?_
            refine AllReadyH.cons (o := _) rfl (fun K hK => ?_) AllReadyH.nil
            have hbl : ∀ q, (Value.slice ua 2 uc).ownBlock = some q → D2.heap.size ≤ q ∧ q < T2.heap.size := World.ownsRow.lt HU.out
            have hsD : wr.heap.size ≤ D2.heap.size := HBD2.out.size
            have hsT : wr.heap.size ≤ T2.heap.size := HB2b.out.size
            obtain ⟨g, cap, T4, r1, o1, rg⟩ := pushIP_run T2 Z.heap.size (fun q => Z.heap.size ≤ q ∧ q < wr.heap.size) (.slice a' k c') (t.ps.take k) ua 2 uc p (HP.out.later HB2b.out) (HU.out.mono (by omega)) (fun q hq h => by have := hbl q hq; omega) (by rw [HTL.out]; omega) (by omega) (fun q hq => by omega)
            rw [HTL.out] at r1 o1
            rw [← HTK.out] at o1
            have hb3 := balloc T2 (.cells #[.slice ua 2 uc] 24)
            obtain ⟨T3, hT3⟩ : ∃ X, T2.alloc (.cells #[.slice ua 2 uc] 24) = X := ⟨_, rfl⟩
            rw [hT3] at hb3 r1
            have HX3b : Hid (X3 T3 rb (.int .i64 s) (.slice a' k c') (.slice a4 ln c4)) := HX2b.out.later hb3
            clear hb3
            go_simp
            refine hK.out _ _ ?_ (fun hHeld => ?_)
            · trivial
            clear hK K
            try simp only [Act.put, List.setIfInBounds_toArray, List.set_cons_zero, List.set_cons_succ]
            try rw [hT3] at hHeld
            try rw [hT3]
            clear hT3
            have hlt4 : ∀ q, (Value.slice (some ⟨g, 0, none⟩) (k + 1) cap).ownBlock = some q → q < T4.heap.size := by
              obtain ⟨vs, _, hvo, _⟩ := o1
              exact fun q hq => (World.ownsRow.lt hvo q hq).2
            have HP4 : Hid (OwnIP T4 Z.heap.size (fun q => Z.heap.size ≤ q ∧ q < T4.heap.size) (.slice (some ⟨g, 0, none⟩) (k + 1) cap) (t.ps.take (k + 1))) := by
              obtain ⟨vs, h1, h2, h3, h4, h5, h6⟩ := o1
              exact ⟨vs, h1, h2, h3, h4, fun q hq => World.ownsRow.lt h2 q hq, fun j hj q hq => World.ownsRow.lt (h3 j hj) q hq⟩
            have HX4 : Hid (X3 T4 rb (.int .i64 s) (.slice a' k c') (.slice a4 ln c4)) := HX2b.out.rngP rg (fun h => by omega)
            have HC4 : Hid (Own T4 w2.heap.size (.slice a4 ln c4) t.cs) := (HC.out.later HB2b.out).rngP rg (fun q e h => by have := HCB2.out q e; omega)
            have hw2s := HB.out.size
            have HB4 : Hid (Below w2.heap.size w2 T4) := (HB.out.trans (HB2b.out.mono HB.out.size)).trans (rg.below (fun q hq => by omega) (by omega))
            have hs4 : T2.heap.size ≤ T4.heap.size := rg.size
            clear hlt4 hbl rg o1
            refine wpAnyH_ready (rs := [6]) (by kernel_rfl) (by simp) ?_
            refine AllReadyH.cons (o := _) rfl (fun K hK => ?_) AllReadyH.nil
            rw [if_pos (by rfl)]
            refine Lib.wp_append_run _ _ _ _ _ rfl (.slice a' k c') (.slice (some ⟨T2.heap.size, 0, none⟩) 1 1) (by rfl) (by rfl) (.slice (some ⟨g, 0, none⟩) (k + 1) cap) T4 (r1 _) ?_
            clear r1
            refine hK.out _ _ ?_ (fun hHeld => ?_)
            · trivial
            clear hK K
            try simp only [Act.put, List.setIfInBounds_toArray, List.set_cons_zero, List.set_cons_succ]
            try simp only [List.getElem_toArray, List.getElem_cons_succ, List.getElem_cons_zero, Act.put, List.setIfInBounds_toArray, List.set_cons_zero, List.set_cons_succ]
            refine takeSO15 (i := 7) (oi := _) (v := ?_) (d := some 59) rfl (by kernel_rfl) (by kernel_rfl) (by kernel_rfl) (by kernel_rfl) (fun _ _ _ h => h) (Or.inl ⟨by rfl, ?_⟩) (by assumption) ?_
            rotate_left
            · (intro w hSw; (try dsimp only at hSw); go_simp <;> with_reducible rfl)
            try simp only [Act.put, List.setIfInBounds_toArray, List.set_cons_zero, List.set_cons_succ]
            have hT := HX4.out
            have hXF := hT.set1 (.slice (some ⟨g, 0, none⟩) (k + 1) cap)
            have hP5 := HP4.out.setBox (r := rb) (j := 1) (by omega) (.slice (some ⟨g, 0, none⟩) (k + 1) cap)
            have hC5 := HC4.out.kept (grown_setCell T4 rb 1 (.slice (some ⟨g, 0, none⟩) (k + 1) cap)) (Or.inr HNE.out)
            have hB5 := HB4.out.setCell (p := ⟨rb, 1, none⟩) (by show w2.heap.size ≤ rb; exact hrb1) (.slice (some ⟨g, 0, none⟩) (k + 1) cap)
            have hs5 : (T4.setCell ⟨rb, 1, none⟩ (.slice (some ⟨g, 0, none⟩) (k + 1) cap)).heap.size = T4.heap.size := World.size_setCell ..
            obtain ⟨⟨z0, z1, z2⟩, zf⟩ := hT
            have zf1 := zf 1
            clear zf
            obtain ⟨T5, hT5⟩ : ∃ X, T4.setCell ⟨rb, 1, none⟩ (.slice (some ⟨g, 0, none⟩) (k + 1) cap) = X := ⟨_, rfl⟩
            rw [hT5] at hXF hP5 hC5 hB5 hs5
            rw [← hs5] at hP5
            have HP5 : Hid (OwnIP T5 Z.heap.size (fun q => Z.heap.size ≤ q ∧ q < T5.heap.size) (.slice (some ⟨g, 0, none⟩) (k + 1) cap) (t.ps.take (k + 1))) := hP5
            have HX5 : Hid (X3 T5 rb (.int .i64 s) (.slice (some ⟨g, 0, none⟩) (k + 1) cap) (.slice a4 ln c4)) := hXF
            have HC5 : Hid (Own T5 w2.heap.size (.slice a4 ln c4) t.cs) := hC5
            have HB5 : Hid (Below w2.heap.size w2 T5) := hB5
            have hsz5 : Z.heap.size ≤ T5.heap.size := by omega
            clear hXF hP5 hC5 hB5
            refine wpAnyH_ready (rs := [8]) (by kernel_rfl) (by simp) ?_
            refine AllReadyH.cons (o := _) rfl (fun K hK => ?_) AllReadyH.nil
            go_simp
            refine hK.out _ _ ?_ (fun hHeld => ?_)
            · trivial
            clear hK K
            try simp only [Act.put, List.setIfInBounds_toArray, List.set_cons_zero, List.set_cons_succ]
            try rw [hT5] at hHeld
            try rw [hT5]
            refine wpAnyH_done (by kernel_rfl) ?_ _
            clear hHeld hT5 z0 z1 z2 zf1 g0 HP HX HC HB hs5 hs4 hw2s hsT hsD hs3 HX1b HB1b HE1 HU HX2b HB2b HX3b HP4 HX4 HC4 HB4 HXD2 HBD2 HRO HNI HP2 HTK HTL
            go_wp2
            go_roundw
            case rel => exact ⟨k + 1, _, cap, by omega, by go_num, HP5, HX5, HC5, HB5, hsz5⟩
            case measure => simp [intOf]; omega
          · have hbl : ∀ q, (Value.slice ua 2 uc).ownBlock = some q → D2.heap.size ≤ q ∧ q < T2.heap.size := World.ownsRow.lt HU.out
            have hsD : wr.heap.size ≤ D2.heap.size := HBD2.out.size
            have hsT : wr.heap.size ≤ T2.heap.size := HB2b.out.size
            obtain ⟨g, cap, T4, r1, o1, rg⟩ := pushIP_run T2 Z.heap.size (fun q => Z.heap.size ≤ q ∧ q < wr.heap.size) (.slice a' k c') (t.ps.take k) ua 2 uc p (HP.out.later HB2b.out) (HU.out.mono (by omega)) (fun q hq h => by have := hbl q hq; omega) (by rw [HTL.out]; omega) (by omega) (fun q hq => by omega)
            rw [HTL.out] at r1 o1
            rw [← HTK.out] at o1
            have hb3 := balloc T2 (.cells #[.slice ua 2 uc] 24)
            obtain ⟨T3, hT3⟩ : ∃ X, T2.alloc (.cells #[.slice ua 2 uc] 24) = X := ⟨_, rfl⟩
            rw [hT3] at hb3 r1
            have HX3b : Hid (X3 T3 rb (.int .i64 s) (.slice a' k c') (.slice a4 ln c4)) := HX2b.out.later hb3
            clear hb3
            go_simp
            refine hK.out _ _ ?_ (fun hHeld => ?_)
            · trivial
            clear hK K
            try simp only [Act.put, List.setIfInBounds_toArray, List.set_cons_zero, List.set_cons_succ]
            try rw [hT3] at hHeld
            try rw [hT3]
            clear hT3
            refine wpAnyH_ready (rs := [1]) (by kernel_rfl) (by simp) ?_
            refine AllReadyH.cons (o := _) rfl (fun K hK => ?_) AllReadyH.nil
            have cc := HX3b.out.1.2.1
            go_simp
            refine hK.out _ _ ?_ (fun hHeld => ?_)
            · trivial
            clear hK K cc
            try simp only [Act.put, List.setIfInBounds_toArray, List.set_cons_zero, List.set_cons_succ]
            have hlt4 : ∀ q, (Value.slice (some ⟨g, 0, none⟩) (k + 1) cap).ownBlock = some q → q < T4.heap.size := by
              obtain ⟨vs, _, hvo, _⟩ := o1
              exact fun q hq => (World.ownsRow.lt hvo q hq).2
            have HP4 : Hid (OwnIP T4 Z.heap.size (fun q => Z.heap.size ≤ q ∧ q < T4.heap.size) (.slice (some ⟨g, 0, none⟩) (k + 1) cap) (t.ps.take (k + 1))) := by
              obtain ⟨vs, h1, h2, h3, h4, h5, h6⟩ := o1
              exact ⟨vs, h1, h2, h3, h4, fun q hq => World.ownsRow.lt h2 q hq, fun j hj q hq => World.ownsRow.lt (h3 j hj) q hq⟩
            have HX4 : Hid (X3 T4 rb (.int .i64 s) (.slice a' k c') (.slice a4 ln c4)) := HX2b.out.rngP rg (fun h => by omega)
            have HC4 : Hid (Own T4 w2.heap.size (.slice a4 ln c4) t.cs) := (HC.out.later HB2b.out).rngP rg (fun q e h => by have := HCB2.out q e; omega)
            have hw2s := HB.out.size
            have HB4 : Hid (Below w2.heap.size w2 T4) := (HB.out.trans (HB2b.out.mono HB.out.size)).trans (rg.below (fun q hq => by omega) (by omega))
            have hs4 : T2.heap.size ≤ T4.heap.size := rg.size
            clear hlt4 hbl rg o1
            refine wpAnyH_ready (rs := [6]) (by kernel_rfl) (by simp) ?_
            refine AllReadyH.cons (o := _) rfl (fun K hK => ?_) AllReadyH.nil
            rw [if_pos (by rfl)]
            refine Lib.wp_append_run _ _ _ _ _ rfl (.slice a' k c') (.slice (some ⟨T2.heap.size, 0, none⟩) 1 1) (by rfl) (by rfl) (.slice (some ⟨g, 0, none⟩) (k + 1) cap) T4 (r1 _) ?_
            clear r1
            refine hK.out _ _ ?_ (fun hHeld => ?_)
            · trivial
            clear hK K
            try simp only [Act.put, List.setIfInBounds_toArray, List.set_cons_zero, List.set_cons_succ]
            try simp only [List.getElem_toArray, List.getElem_cons_succ, List.getElem_cons_zero, Act.put, List.setIfInBounds_toArray, List.set_cons_zero, List.set_cons_succ]
            refine takeSO15 (i := 7) (oi := _) (v := ?_) (d := some 59) rfl (by kernel_rfl) (by kernel_rfl) (by kernel_rfl) (by kernel_rfl) (fun _ _ _ h => h) (Or.inl ⟨by rfl, ?_⟩) (by assumption) ?_
            rotate_left
            · (intro w hSw; (try dsimp only at hSw); go_simp <;> with_reducible rfl)
            try simp only [Act.put, List.setIfInBounds_toArray, List.set_cons_zero, List.set_cons_succ]
            have hT := HX4.out
            have hXF := hT.set1 (.slice (some ⟨g, 0, none⟩) (k + 1) cap)
            have hP5 := HP4.out.setBox (r := rb) (j := 1) (by omega) (.slice (some ⟨g, 0, none⟩) (k + 1) cap)
            have hC5 := HC4.out.kept (grown_setCell T4 rb 1 (.slice (some ⟨g, 0, none⟩) (k + 1) cap)) (Or.inr HNE.out)
            have hB5 := HB4.out.setCell (p := ⟨rb, 1, none⟩) (by show w2.heap.size ≤ rb; exact hrb1) (.slice (some ⟨g, 0, none⟩) (k + 1) cap)
            have hs5 : (T4.setCell ⟨rb, 1, none⟩ (.slice (some ⟨g, 0, none⟩) (k + 1) cap)).heap.size = T4.heap.size := World.size_setCell ..
            obtain ⟨⟨z0, z1, z2⟩, zf⟩ := hT
            have zf1 := zf 1
            clear zf
            obtain ⟨T5, hT5⟩ : ∃ X, T4.setCell ⟨rb, 1, none⟩ (.slice (some ⟨g, 0, none⟩) (k + 1) cap) = X := ⟨_, rfl⟩
            rw [hT5] at hXF hP5 hC5 hB5 hs5
            rw [← hs5] at hP5
            have HP5 : Hid (OwnIP T5 Z.heap.size (fun q => Z.heap.size ≤ q ∧ q < T5.heap.size) (.slice (some ⟨g, 0, none⟩) (k + 1) cap) (t.ps.take (k + 1))) := hP5
            have HX5 : Hid (X3 T5 rb (.int .i64 s) (.slice (some ⟨g, 0, none⟩) (k + 1) cap) (.slice a4 ln c4)) := hXF
            have HC5 : Hid (Own T5 w2.heap.size (.slice a4 ln c4) t.cs) := hC5
            have HB5 : Hid (Below w2.heap.size w2 T5) := hB5
            have hsz5 : Z.heap.size ≤ T5.heap.size := by omega
            clear hXF hP5 hC5 hB5
            refine wpAnyH_ready (rs := [8]) (by kernel_rfl) (by simp) ?_
            refine AllReadyH.cons (o := _) rfl (fun K hK => ?_) AllReadyH.nil
            go_simp
            refine hK.out _ _ ?_ (fun hHeld => ?_)
            · trivial
            clear hK K
            try simp only [Act.put, List.setIfInBounds_toArray, List.set_cons_zero, List.set_cons_succ]
            try rw [hT5] at hHeld
            try rw [hT5]
            refine wpAnyH_done (by kernel_rfl) ?_ _
            clear hHeld hT5 z0 z1 z2 zf1 g0 HP HX HC HB hs5 hs4 hw2s hsT hsD hs3 HX1b HB1b HE1 HU HX2b HB2b HX3b HP4 HX4 HC4 HB4 HXD2 HBD2 HRO HNI HP2 HTK HTL
            go_wp2
            go_roundw
            case rel => exact ⟨k + 1, _, cap, by omega, by go_num, HP5, HX5, HC5, HB5, hsz5⟩
            case measure => simp [intOf]; omega

end Go.Proofs.Ytbjpkklonjlmiaa
