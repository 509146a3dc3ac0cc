/- Chapter 15: SayAt, TogetherSay of the specification. -/
import Derived.Test.YtbjpkklonjlmiaaSS15
namespace Go.Proofs.Ytbjpkklonjlmiaa
set_option linter.unusedVariables false
set_option maxRecDepth 1000000
set_option linter.unusedSimpArgs false
open Go.RowKit Go.Sort

theorem inB_seatB (s x : Int) : inB x 0 (s - 1) = seatB s x := by unfold inB seatB; rw [decide_eq_decide]; omega

set_option maxHeartbeats 8000000 in
theorem specSayAt_c (sa : Option Addr) (sn sc : Nat) (la : Option Addr) (ln lc : Nat) (t : TbV) (seat who word : Int) (w : World) (h : RdT w sa sn sc la ln lc t) :
    Calls Try.prog 18 #[.agg #[.int .i64 t.s, .slice sa sn sc, .slice la ln lc], .int .i64 seat, .int .i64 who, .int .i64 word] w fun e w' => e = .returned (.tuple #[.int .i64 (saV t seat who word), .bool (saB t seat who word)]) ∧ Below w.heap.size w w' := by
  have HX0 : Hid (X3 (w.alloc (.cells #[.int .i64 t.s, .slice sa sn sc, .slice la ln lc] 26)) w.heap.size (.int .i64 t.s) (.slice sa sn sc) (.slice la ln lc)) := x3_new w _ _ _ _ _ rfl
  have HB0 : Hid (Below w.heap.size w (w.alloc (.cells #[.int .i64 t.s, .slice sa sn sc, .slice la ln lc] 26))) := balloc w _
  have HR : Hid (∀ wx, Below w.heap.size w wx → RdT wx sa sn sc la ln lc t) := fun wx hb => h.later hb
  obtain ⟨V, hV⟩ : ∃ V, w.alloc (.cells #[.int .i64 t.s, .slice sa sn sc, .slice la ln lc] 26) = V := ⟨_, rfl⟩
  rw [hV] at HX0 HB0
  have q := l15Asked_c sa sn sc la ln lc t who word V (HR.out V HB0.out)
  have HX : Hid (X3 V w.heap.size (.int .i64 t.s) (.slice sa sn sc) (.slice la ln lc)) := HX0.out
  obtain ⟨⟨f0, f1, f2⟩, _⟩ := HX0.out
  unfold saV saB
  cases hak : askB t who word
  · rw [Bool.false_and, if_neg (by simp)]
    rw [hak] at q
    generalize t.s = s at hV f0 q HX ⊢
    clear h hak HX0 HR
    go_enter Try.func18, Try.ntmps18
    go_wp2_with fail
    refine q.mono ?_
    clear q f0 f1 f2 hV
    rintro e w1 ⟨rfl, hb⟩
    have HB1 : Hid (Below w.heap.size w w1) := HB0.out.trans (hb.mono HB0.out.size)
    have HX1 : Hid (X3 w1 w.heap.size (.int .i64 s) (.slice sa sn sc) (.slice la ln lc)) := HX.out.later hb
    obtain ⟨⟨f0, f1, f2⟩, _⟩ := HX1.out
    clear hb

    go_wp2
    refine bodyPost_ret (v := .tuple #[.int .i64 0, .bool false]) (by simp [results, Try.results18, go_sem]; try rfl) rfl ?_
    exact ⟨rfl, HB1.out⟩
  rw [Bool.true_and]
  rw [hak] at q
  have hk2 : goodTb t = true ∧ inB who (-1) (t.s - 1) = true ∧ byB word = true := by unfold askB at hak; rw [Bool.and_eq_true, Bool.and_eq_true] at hak; exact hak
  have hg := goodTb_iff t hk2.1
  have HQS : Hid (∀ wx, Below w.heap.size w wx → Calls Try.prog 38 #[.agg #[.int .i64 t.s, .slice sa sn sc, .slice la ln lc], .int .i64 seat, .int .i64 who, .int .i64 word] wx fun e w' => e = .returned (.int .i64 (sayS t seat who word)) ∧ Below wx.heap.size wx w') := fun wx hb => l15Say_c sa sn sc la ln lc t seat who word wx (HR.out wx hb) hg hk2.2.2
  have hs1 := hg.s1
  have hs6 := hg.s6
  have q2 := fun wx => l1In_c seat 0 (t.s - 1) wx
  have e2 : decide (0 ≤ seat ∧ seat ≤ t.s - 1) = seatB t.s seat := inB_seatB _ _
  rw [e2] at q2
  have hgv : seatB t.s seat = true → (sayL t (wordsL t who word)).getD seat.toNat 0 = sayS t seat who word := fun hse => by
    have h2 : 0 ≤ seat ∧ seat < t.s := by unfold seatB at hse; exact of_decide_eq_true hse
    have := sayS_get (i := seat.toNat) hg (who := who) (word := word) (by have := inB_iff.1 hk2.2.1; omega) hk2.2.2 (by omega)
    rw [this, show ((seat.toNat : Nat) : Int) = seat by omega]
  generalize (sayL t (wordsL t who word)).getD seat.toNat 0 = zv at hgv ⊢
  generalize t.s = s at hV f0 q q2 HX HQS hs1 hs6 hgv ⊢
  have hwr : IntKind.i64.wrap (s - 1) = s - 1 := by rw [IntKind.wrap_i64]; omega
  clear h hak hk2 hg HX0 HR e2
  cases hse : seatB s seat
  · rw [if_neg (by simp)]
    rw [hse] at q2
    clear hse hgv
    go_enter Try.func18, Try.ntmps18
    go_wp2_with fail
    refine q.mono ?_
    clear q f0 f1 f2 hV
    rintro e w1 ⟨rfl, hb⟩
    have HB1 : Hid (Below w.heap.size w w1) := HB0.out.trans (hb.mono HB0.out.size)
    have HX1 : Hid (X3 w1 w.heap.size (.int .i64 s) (.slice sa sn sc) (.slice la ln lc)) := HX.out.later hb
    obtain ⟨⟨f0, f1, f2⟩, _⟩ := HX1.out
    clear hb

    go_wp2_with fail
    refine (q2 _).mono ?_
    clear q2 f0 f1 f2
    rintro e w2 ⟨rfl, hw⟩
    have hw2 := hw.symm
    clear hw
    subst hw2
    go_wp2
    refine bodyPost_ret (v := .tuple #[.int .i64 0, .bool false]) (by simp [results, Try.results18, go_sem]; try rfl) rfl ?_
    exact ⟨rfl, HB1.out⟩
  rw [if_pos rfl, hgv hse]
  rw [hse] at q2
  generalize sayS t seat who word = x at HQS ⊢
  clear hse hgv
  go_enter Try.func18, Try.ntmps18
  go_wp2_with fail
  refine q.mono ?_
  clear q f0 f1 f2 hV
  rintro e w1 ⟨rfl, hb⟩
  have HB1 : Hid (Below w.heap.size w w1) := HB0.out.trans (hb.mono HB0.out.size)
  have HX1 : Hid (X3 w1 w.heap.size (.int .i64 s) (.slice sa sn sc) (.slice la ln lc)) := HX.out.later hb
  obtain ⟨⟨f0, f1, f2⟩, _⟩ := HX1.out
  clear hb

  go_wp2_with fail
  refine (q2 _).mono ?_
  clear q2
  rintro e w2 ⟨rfl, hw⟩
  have hw2 := hw.symm
  clear hw
  subst hw2
  go_wp2_with fail
  refine (HQS.out w1 HB1.out).mono ?_
  clear f0 f1 f2
  rintro e w2 ⟨rfl, hb⟩
  have HB2 : Hid (Below w.heap.size w w2) := HB1.out.trans (hb.mono HB1.out.size)
  clear hb
  go_wp2
  refine bodyPost_ret (v := .tuple #[.int .i64 x, .bool true]) (by simp [results, Try.results18, go_sem]; try rfl) rfl ?_
  exact ⟨rfl, HB2.out⟩

set_option maxHeartbeats 8000000 in
theorem specTog_c (sa : Option Addr) (sn sc : Nat) (la : Option Addr) (ln lc : Nat) (t : TbV) (wo : Option Addr) (wn wc : Nat) (ws : List Int) (w : World) (h : RdT w sa sn sc la ln lc t) (hw : ws.length = wn) (hwn : wn ≤ 17592186044416) (hr : Rd w wo ws) :
    Calls Try.prog 22 #[.agg #[.int .i64 t.s, .slice sa sn sc, .slice la ln lc], .slice wo wn wc] w fun e w' => TellI e w w' (togV t ws) (togB t ws) := by
  have HX0 : Hid (X3 (w.alloc (.cells #[.int .i64 t.s, .slice sa sn sc, .slice la ln lc] 26)) w.heap.size (.int .i64 t.s) (.slice sa sn sc) (.slice la ln lc)) := x3_new w _ _ _ _ _ rfl
  have HB0 : Hid (Below w.heap.size w (w.alloc (.cells #[.int .i64 t.s, .slice sa sn sc, .slice la ln lc] 26))) := balloc w _
  have HR : Hid (∀ wx, Below w.heap.size w wx → RdT wx sa sn sc la ln lc t) := fun wx hb => h.later hb
  have HW : Hid (∀ wx, Below w.heap.size w wx → Rd wx wo ws) := fun wx hb => hr.later hb
  have HWL : Hid (ws.length = wn) := hw
  have HQF : Hid (∀ wx, Below w.heap.size w wx → Calls Try.prog 45 #[.slice wo wn wc, .int .i64 0, .int .i64 255] wx fun e w' => e = .returned (.bool (ws.all byB)) ∧ w' = wx) := fun wx hb => by
    have := l1All_c wo wn wc 0 255 ws wx hw hwn (HW.out wx hb)
    rw [allIn_by] at this; exact this
  obtain ⟨V, hV⟩ : ∃ V, w.alloc (.cells #[.int .i64 t.s, .slice sa sn sc, .slice la ln lc] 26) = V := ⟨_, rfl⟩
  rw [hV] at HX0 HB0
  have q := specGoodTb_c sa sn sc la ln lc t V (HR.out V HB0.out)
  have HX : Hid (X3 V w.heap.size (.int .i64 t.s) (.slice sa sn sc) (.slice la ln lc)) := HX0.out
  obtain ⟨⟨f0, f1, f2⟩, _⟩ := HX0.out
  unfold togV togB
  rw [hw]
  cases hgd : goodTb t
  · rw [Bool.false_and, if_neg (by simp)]
    rw [hgd] at q
    generalize t.s = s at hV f0 q HX ⊢
    clear h hgd HX0 HR hr hw
    go_enter Try.func22, Try.ntmps22
    go_wp2_with fail
    refine q.mono ?_
    clear q f0 f1 f2 hV
    rintro e w1 ⟨rfl, hb⟩
    have HB1 : Hid (Below w.heap.size w w1) := HB0.out.trans (hb.mono HB0.out.size)
    have HX1 : Hid (X3 w1 w.heap.size (.int .i64 s) (.slice sa sn sc) (.slice la ln lc)) := HX.out.later hb
    obtain ⟨⟨f0, f1, f2⟩, _⟩ := HX1.out
    clear hb

    go_wp2
    refine bodyPost_ret (v := .tuple #[.slice none 0 0, .bool false]) (by simp [results, Try.results22, go_sem]; try rfl) rfl ?_
    exact tellI_none HB1.out
  rw [Bool.true_and]
  rw [hgd] at q
  have hg := goodTb_iff t hgd
  have hs1 := hg.s1
  have hs6 := hg.s6
  have HQS : Hid (∀ wx (i : Nat), Below w.heap.size w wx → Calls Try.prog 53 #[.agg #[.int .i64 t.s, .slice sa sn sc, .slice la ln lc], .int .i64 i] wx fun e w' => e = .returned (.int .i64 (coP t.cs t.ps i sn)) ∧ Below wx.heap.size wx w') := fun wx i hb => l15Coins_c sa sn sc la ln lc t i wx (HR.out wx hb) hg
  have HCB : Hid (∀ i : Int, byB (coP t.cs t.ps i sn) = true) := fun i => coP_by hg.by' _ (by rw [hg.cl, h.rd.sl]; exact Nat.le_refl _)
  have HGT : Hid (∀ i, i < t.s.toNat → (sayL t ws).getD i 0 = xr (coP t.cs t.ps i sn) (ws.getD i 0)) := fun i hi => by rw [sayL_get _ _ hi, xr_comm, h.rd.sl]
  have HSL : Hid ((sayL t ws).length = t.s.toNat) := sayL_length _ _
  generalize t.s = s at hV f0 q HX HQS HGT HSL hs1 hs6 ⊢
  clear h hgd HX0 HR hr hw hg
  by_cases hnn : (wn : Int) = s
  case neg =>
    rw [decide_eq_false hnn, Bool.false_and, if_neg (by simp)]
    have hne : ((wn : Int) != s) = true := by rw [bne_iff_ne]; exact hnn
    clear hnn
    go_enter Try.func22, Try.ntmps22
    go_wp2_with fail
    refine q.mono ?_
    clear q f0 f1 f2 hV
    rintro e w1 ⟨rfl, hb⟩
    have HB1 : Hid (Below w.heap.size w w1) := HB0.out.trans (hb.mono HB0.out.size)
    have HX1 : Hid (X3 w1 w.heap.size (.int .i64 s) (.slice sa sn sc) (.slice la ln lc)) := HX.out.later hb
    obtain ⟨⟨f0, f1, f2⟩, _⟩ := HX1.out
    clear hb

    go_wp2
    refine bodyPost_ret (v := .tuple #[.slice none 0 0, .bool false]) (by simp [results, Try.results22, go_sem]; try rfl) rfl ?_
    exact tellI_none HB1.out
  rw [decide_eq_true hnn, Bool.true_and]
  have hne : ((wn : Int) != s) = false := by rw [bne_eq_false_iff_eq]; exact hnn
  have hst : s.toNat = wn := by omega
  rw [hst] at HGT HSL
  have hw6 : wn ≤ 6 := by omega
  have hw1 : 1 ≤ wn := by omega
  clear hnn hst
  cases hby : ws.all byB
  · rw [if_neg (by simp)]
    have q2 := fun wx hb => HQF.out wx hb
    rw [hby] at q2
    clear hby
    go_enter Try.func22, Try.ntmps22
    go_wp2_with fail
    refine q.mono ?_
    clear q f0 f1 f2 hV
    rintro e w1 ⟨rfl, hb⟩
    have HB1 : Hid (Below w.heap.size w w1) := HB0.out.trans (hb.mono HB0.out.size)
    have HX1 : Hid (X3 w1 w.heap.size (.int .i64 s) (.slice sa sn sc) (.slice la ln lc)) := HX.out.later hb
    obtain ⟨⟨f0, f1, f2⟩, _⟩ := HX1.out
    clear hb

    go_wp2_with fail
    refine (q2 w1 HB1.out).mono ?_
    clear q2 f0 f1 f2
    rintro e w2 ⟨rfl, hw⟩
    have hw2 := hw.symm
    clear hw
    subst hw2
    go_wp2
    refine bodyPost_ret (v := .tuple #[.slice none 0 0, .bool false]) (by simp [results, Try.results22, go_sem]; try rfl) rfl ?_
    exact tellI_none HB1.out
  rw [if_pos rfl]
  have HBY : Hid (∀ k, k < wn → byB (ws.getD k 0) = true) := fun k hk => List.all_eq_true.1 hby _ (mem_getD 0 (by rw [HWL.out]; exact hk))
  have q2 := fun wx hb => HQF.out wx hb
  rw [hby] at q2
  generalize sayL t ws = zs at HGT HSL ⊢
  clear hby
  go_enter Try.func22, Try.ntmps22
  go_wp2_with fail
  refine q.mono ?_
  clear q f0 f1 f2 hV
  rintro e w1 ⟨rfl, hb⟩
  have HB1 : Hid (Below w.heap.size w w1) := HB0.out.trans (hb.mono HB0.out.size)
  have HX1 : Hid (X3 w1 w.heap.size (.int .i64 s) (.slice sa sn sc) (.slice la ln lc)) := HX.out.later hb
  obtain ⟨⟨f0, f1, f2⟩, _⟩ := HX1.out
  clear hb

  go_wp2_with fail
  refine (q2 w1 HB1.out).mono ?_
  clear q2 f0 f1 f2
  rintro e w2 ⟨rfl, hw⟩
  have hw2 := hw.symm
  clear hw
  subst hw2
  have HV1 : Hid (w.heap.size < w1.heap.size) := HX1.out.lt
  clear HX HB0
  go_wp2
  go_loopw [6, 26] (fun ov iv wr => ∃ (k : Nat) (a' : Option Addr) (c' : Nat), k ≤ wn ∧ iv = .int .i64 k ∧ ov = .slice a' k c' ∧ Hid (Own wr w1.heap.size (.slice a' k c') (zs.take k)) ∧ Hid (Below w.heap.size w wr) ∧ Hid (X3 wr w.heap.size (.int .i64 s) (.slice sa sn sc) (.slice la ln lc)) ∧ w1.heap.size ≤ wr.heap.size) (fun _ iv _ => wn - (intOf iv).toNat)
  case atStart => exact ⟨0, none, 0, Nat.zero_le _, rfl, rfl, World.ownsRow_nil _ _ _ _, HB1, HX1, Nat.le_refl _⟩
  case round =>
    clear HB1 HX1
    obtain ⟨k, a1, c1, hk, rfl, rfl, HO, HB, HX, hsz⟩ := hrel
    obtain ⟨⟨f0, f1, f2⟩, _⟩ := HX.out
    by_cases hlt : k < wn
    case neg =>
      obtain rfl : k = wn := by omega
      have HE : Hid (Own wr w.heap.size (.slice a1 k c1) zs) := by
        have := HO.out
        rw [List.take_of_length_le (by rw [HSL.out]; exact Nat.le_refl _)] at this
        exact this.mono (by have := HV1.out; omega)
      clear HO
      go_wp2
      refine bodyPost_ret (v := .tuple #[.slice a1 k c1, .bool true]) (by simp [results, Try.results22, go_sem]; try rfl) rfl ?_
      exact ⟨a1, c1, by rw [HSL.out], by rw [HSL.out]; exact HE.out, HB.out⟩
    have hkl : k < zs.length := by rw [HSL.out]; exact hlt
    have htk : zs.take (k + 1) = zs.take k ++ [zs.getD k 0] := take_snoc 0 hkl
    rw [HGT.out k hlt] at htk
    have htl : (zs.take k).length = k := by rw [List.length_take]; omega
    have HTL : Hid ((zs.take k).length = k) := htl
    obtain ⟨b, o, rfl, g0⟩ := (HW.out wr HB.out).get (k := k) (by rw [HWL.out]; exact hlt)
    have hxr := bits_xr (HCB.out k) (HBY.out k hlt)
    have q := HQS.out wr k HB.out
    generalize ws.getD k 0 = y at g0 hxr htk
    generalize coP t.cs t.ps k sn = x at q hxr htk
    generalize xr x y = z at hxr htk
    have HTK : Hid (zs.take (k + 1) = zs.take k ++ [z]) := htk
    have k0 : (0 : Int) ≤ (k : Int) := by omega
    have k1 : (k : Int) < (wn : Int) := by omega
    clear hkl htk htl
    go_wp2_with fail
    refine q.mono ?_
    clear q f0 f1 f2
    rintro e w2 ⟨rfl, hb⟩
    have hlit := litI w2 z
    have hbl := balloc w2 (.cells #[.int .i64 z] 3)
    obtain ⟨U, hU⟩ : ∃ X, w2.alloc (.cells #[.int .i64 z] 3) = X := ⟨_, rfl⟩
    rw [hU] at hlit hbl
    have hb2 : Below wr.heap.size wr U := hb.trans (hbl.mono hb.size)
    obtain ⟨v', w3, r1, o1, gg, b1⟩ := appendI_run U w1.heap.size (.slice a1 k c1) (zs.take k) [z] (some ⟨w2.heap.size, 0, none⟩) 1 1 (HO.out.later hb2) hlit rfl (by intro h; cases h) (by rw [HTL.out]; simp; omega) (by have := hb2.size; omega)
    obtain ⟨a3, c3, hv3⟩ := o1.shape
    rw [List.length_append, HTL.out] at hv3
    simp only [List.length_cons, List.length_nil, Nat.zero_add] at hv3
    subst hv3
    have HO3 : Hid (Own w3 w1.heap.size (.slice a3 (k + 1) c3) (zs.take (k + 1))) := by show Own _ _ _ _; rw [HTK.out]; exact o1
    have HB3 : Hid (Below w.heap.size w w3) := (HB.out.trans (hb2.mono HB.out.size)).trans (b1.mono (by have := HV1.out; omega))
    have HX3 : Hid (X3 w3 w.heap.size (.int .i64 s) (.slice sa sn sc) (.slice la ln lc)) := (HX.out.later hb2).grown gg (fun e => by have := own_block_ge HO.out _ e.symm; have := HV1.out; omega)
    have hsz3 : w1.heap.size ≤ w3.heap.size := Nat.le_trans hsz (Nat.le_trans hb2.size b1.size)
    clear o1 gg b1 hb hbl hlit hb2 HO HB HX
    go_wp2_with (first | (at_builtin; refine Lib.wpList_append_run _ rfl _ _ _ _ rfl _ _ rfl rfl _ _ (r1 _) ?_; clear r1))
    go_roundw
    case rel => exact ⟨k + 1, a3, c3, by omega, by go_num, rfl, HO3, HB3, HX3, hsz3⟩
    case measure => simp [intOf]; omega

theorem sayL_short {t : TbV} (h : goodTb t = true) (ws : List Int) : (sayL t ws).length ≤ 1000 := by
  rw [sayL_length]
  have := (goodTb_iff t h).s6
  omega
theorem allV_short (t : TbV) (who word : Int) : (allV t who word).length ≤ 1000 := by
  unfold allV
  split
  · rename_i h
    unfold askB at h
    rw [Bool.and_eq_true] at h
    exact sayL_short h.1 _
  · simp
theorem togV_short (t : TbV) (ws : List Int) : (togV t ws).length ≤ 1000 := by
  unfold togV
  split
  · rename_i h
    unfold togB at h
    rw [Bool.and_eq_true] at h
    exact sayL_short h.1 _
  · simp

end Go.Proofs.Ytbjpkklonjlmiaa
