/- Chapter 15: TogetherSay, SayAt of the program. -/
import Derived.Test.YtbjpkklonjlmiaaAS15
namespace Go.Proofs.Ytbjpkklonjlmiaa
set_option linter.unusedVariables false
set_option maxRecDepth 1000000
set_option linter.unusedSimpArgs false
open Go.RowKit Go.Sort

def togB (t : TbV) (ws : List Int) : Bool := goodTb t && (decide ((ws.length : Int) = t.s) && ws.all byB)
def togV (t : TbV) (ws : List Int) : List Int := if togB t ws = true then sayL t ws else []

set_option maxHeartbeats 8000000 in
theorem implTog_c (sa : Option Addr) (sn sc : Nat) (la : Option Addr) (ln lc : Nat) (t : TbV) (wo : Option Addr) (wn wc : Nat) (ws : List Int) (w : World) (h : RdT w sa sn sc la ln lc t) (hw : ws.length = wn) (hwn : wn ≤ 17592186044416) (hr : Rd w wo ws) (hnil : wo = none → wn = 0 ∧ wc = 0) :
    Calls Try.prog 21 #[.agg #[.int .i64 t.s, .slice sa sn sc, .slice la ln lc], .slice wo wn wc] w fun e w' => TellI e w w' (togV t ws) (togB t ws) := by
  have HX0 : Hid (X3 (w.alloc (.cells #[.int .i64 t.s, .slice sa sn sc, .slice la ln lc] 26)) w.heap.size (.int .i64 t.s) (.slice sa sn sc) (.slice la ln lc)) := x3_new w _ _ _ _ _ rfl
  have HB0 : Hid (Below w.heap.size w (w.alloc (.cells #[.int .i64 t.s, .slice sa sn sc, .slice la ln lc] 26))) := balloc w _
  have HR : Hid (∀ wx, Below w.heap.size w wx → RdT wx sa sn sc la ln lc t) := fun wx hb => h.later hb
  have HW : Hid (∀ wx, Below w.heap.size w wx → Rd wx wo ws) := fun wx hb => hr.later hb
  have HQG : Hid (∀ wx, Below w.heap.size w wx → Calls Try.prog 9 #[.agg #[.int .i64 t.s, .slice sa sn sc, .slice la ln lc]] wx fun e w' => e = .returned (.bool (goodTb t)) ∧ Below wx.heap.size wx w') := fun wx hb => implGoodTb_c sa sn sc la ln lc t wx (HR.out wx hb)
  have HQF : Hid (∀ wx, Below w.heap.size w wx → Calls Try.prog 42 #[.slice wo wn wc, .int .i64 6, .func (.func 35) #[] #[]] wx fun e w' => e = .returned (.bool (decide (wn ≤ 6) && ws.all byB)) ∧ w' = wx) := fun wx hb => by
    have := fewW_c 6 (by omega) wo wn wc ws wx hw hwn (HW.out wx hb)
    rw [hw] at this; exact this
  have HQS : Hid (∀ wx, GoodT t → Below w.heap.size w wx → wn = t.s.toNat → ws.all byB = true → Calls Try.prog 36 #[.agg #[.int .i64 t.s, .slice sa sn sc, .slice la ln lc], .slice wo wn wc] wx fun e w' => ∃ a' c', e = .returned (.slice a' wn c') ∧ Own w' wx.heap.size (.slice a' wn c') (sayL t ws) ∧ Below wx.heap.size wx w') := fun wx hg hb hn hy =>
    hidden_c sa sn sc la ln lc t wo wn wc ws wx (HR.out wx hb) hg hw hn (HW.out wx hb) hnil (fun k hk => List.all_eq_true.1 hy _ (mem_getD 0 (by rw [hw]; exact hk)))
  have HSL : Hid ((sayL t ws).length = t.s.toNat) := sayL_length t ws
  unfold togV togB
  rw [hw]
  obtain ⟨V, hV⟩ : ∃ V, w.alloc (.cells #[.int .i64 t.s, .slice sa sn sc, .slice la ln lc] 26) = V := ⟨_, rfl⟩
  rw [hV] at HX0 HB0
  have q := HQG.out V HB0.out
  obtain ⟨⟨f0, f1, f2⟩, _⟩ := HX0.out
  have ENTER : True := trivial
  cases hgd : goodTb t
  · rw [Bool.false_and, if_neg (by simp)]
    rw [hgd] at q
    generalize t.s = s at hV f0 q ⊢
    clear h hgd hr hnil hw
    go_enter Try.func21, Try.ntmps21
    go_wp2_with fail
    refine q.mono ?_
    clear q f0 f1 f2 hV
    rintro e w1 ⟨rfl, hb⟩
    have HB1 : Hid (Below w.heap.size w w1) := HB0.out.trans (hb.mono HB0.out.size)
    clear hb
    go_wp2
    refine bodyPost_ret (v := .tuple #[.slice none 0 0, .bool false]) (by simp [results, Try.results21, go_sem]; try rfl) rfl ?_
    exact tellI_none HB1.out
  rw [Bool.true_and]
  rw [hgd] at q
  have HG : Hid (GoodT t) := goodTb_iff t hgd
  have HSEQ : Hid (t.s = t.s) := rfl
  have h1 := HG.out.s1
  have h6 := HG.out.s6
  generalize hs : t.s = s at HX0 hV f0 q HQS HSL h1 h6 ⊢
  clear h hgd hr hnil hw
  by_cases hnn : (wn : Int) = s
  case neg =>
    rw [decide_eq_false hnn, Bool.false_and, if_neg (by simp)]
    have hne : ((wn : Int) != s) = true := by rw [bne_iff_ne]; exact hnn
    clear hnn hs
    go_enter Try.func21, Try.ntmps21
    go_wp2_with fail
    refine q.mono ?_
    clear q f0 f1 f2 hV
    rintro e w1 ⟨rfl, hb⟩
    have HB1 : Hid (Below w.heap.size w w1) := HB0.out.trans (hb.mono HB0.out.size)
    obtain ⟨⟨f0, f1, f2⟩, _⟩ := HX0.out.later hb
    clear hb
    go_wp2
    refine bodyPost_ret (v := .tuple #[.slice none 0 0, .bool false]) (by simp [results, Try.results21, go_sem]; try rfl) rfl ?_
    exact tellI_none HB1.out
  rw [decide_eq_true hnn, Bool.true_and]
  have hne : ((wn : Int) != s) = false := by rw [bne_eq_false_iff_eq]; exact hnn
  have HWN : Hid (wn = s.toNat) := by show _ = _; omega
  have hw6 : wn ≤ 6 := by omega
  rw [decide_eq_true hw6, Bool.true_and] at HQF
  have HSN : Hid (t.s = s) := hs
  clear hnn hs hw6
  cases hby : ws.all byB
  · rw [if_neg (by simp)]
    have q2 := fun wx hb => HQF.out wx hb
    rw [hby] at q2
    clear hby
    go_enter Try.func21, Try.ntmps21
    go_wp2_with fail
    refine q.mono ?_
    clear q f0 f1 f2 hV
    rintro e w1 ⟨rfl, hb⟩
    have HB1 : Hid (Below w.heap.size w w1) := HB0.out.trans (hb.mono HB0.out.size)
    obtain ⟨⟨f0, f1, f2⟩, _⟩ := HX0.out.later hb
    clear hb
    go_wp2_with fail
    refine (q2 w1 HB1.out).mono ?_
    clear q2 f0 f1 f2
    rintro e w2 ⟨rfl, hw⟩
    have hw2 := hw.symm
    clear hw
    subst hw2
    go_wp2
    refine bodyPost_ret (v := .tuple #[.slice none 0 0, .bool false]) (by simp [results, Try.results21, go_sem]; try rfl) rfl ?_
    exact tellI_none HB1.out
  rw [if_pos rfl]
  have HBY : Hid (ws.all byB = true) := hby
  have q2 := fun wx hb => HQF.out wx hb
  rw [hby] at q2
  clear hby
  go_enter Try.func21, Try.ntmps21
  go_wp2_with fail
  refine q.mono ?_
  clear q f0 f1 f2 hV
  rintro e w1 ⟨rfl, hb⟩
  have HB1 : Hid (Below w.heap.size w w1) := HB0.out.trans (hb.mono HB0.out.size)
  have HX1 : Hid (X3 w1 w.heap.size (.int .i64 s) (.slice sa sn sc) (.slice la ln lc)) := HX0.out.later hb
  obtain ⟨⟨f0, f1, f2⟩, _⟩ := HX1.out
  clear hb
  go_wp2_with fail
  refine (q2 w1 HB1.out).mono ?_
  clear q2
  rintro e w2 ⟨rfl, hw⟩
  have hw2 := hw.symm
  clear hw
  subst hw2
  go_wp2_with fail
  refine (HQS.out w1 HG.out HB1.out HWN.out HBY.out).mono ?_
  clear f0 f1 f2
  rintro e w3 ⟨a', c', rfl, ho, hb⟩
  have HO3 : Hid (Own w3 w.heap.size (.slice a' wn c') (sayL t ws)) := ho.mono HB1.out.size
  have HB3 : Hid (Below w.heap.size w w3) := HB1.out.trans (hb.mono HB1.out.size)
  have HLN : Hid ((sayL t ws).length = wn) := by show _ = _; rw [HSL.out, HWN.out]
  clear ho hb
  go_wp2
  refine bodyPost_ret (v := .tuple #[.slice a' wn c', .bool true]) (by simp [results, Try.results21, go_sem]; try rfl) rfl ?_
  exact ⟨a', c', by rw [HLN.out], by rw [HLN.out]; exact HO3.out, HB3.out⟩

def saB (t : TbV) (seat who word : Int) : Bool := askB t who word && seatB t.s seat
def saV (t : TbV) (seat who word : Int) : Int := if saB t seat who word = true then (sayL t (wordsL t who word)).getD seat.toNat 0 else 0

set_option maxHeartbeats 8000000 in
theorem implSayAt_c (sa : Option Addr) (sn sc : Nat) (la : Option Addr) (ln lc : Nat) (t : TbV) (seat who word : Int) (w : World) (h : RdT w sa sn sc la ln lc t) :
    Calls Try.prog 12 #[.agg #[.int .i64 t.s, .slice sa sn sc, .slice la ln lc], .int .i64 seat, .int .i64 who, .int .i64 word] w fun e w' => e = .returned (.tuple #[.int .i64 (saV t seat who word), .bool (saB t seat who word)]) ∧ Below w.heap.size w w' := by
  have HX0 : Hid (X3 (w.alloc (.cells #[.int .i64 t.s, .slice sa sn sc, .slice la ln lc] 26)) w.heap.size (.int .i64 t.s) (.slice sa sn sc) (.slice la ln lc)) := x3_new w _ _ _ _ _ rfl
  have HB0 : Hid (Below w.heap.size w (w.alloc (.cells #[.int .i64 t.s, .slice sa sn sc, .slice la ln lc] 26))) := balloc w _
  have HQA : Hid (∀ wx, Below w.heap.size w wx → Calls Try.prog 6 #[.agg #[.int .i64 t.s, .slice sa sn sc, .slice la ln lc], .int .i64 who, .int .i64 word] wx fun e w' => TellI e wx w' (allV t who word) (askB t who word)) := fun wx hb => implAll_c sa sn sc la ln lc t who word wx (h.later hb)
  have HQH : Hid (∀ wx, Calls Try.prog 34 #[.agg #[.int .i64 t.s, .slice sa sn sc, .slice la ln lc], .int .i64 seat] wx fun e w' => e = .returned (.bool (seatB t.s seat)) ∧ GrW wx w') := fun wx => hasSeat_c t.s sa sn sc la ln lc seat wx
  have HAL : Hid (askB t who word = true → allV t who word = sayL t (wordsL t who word)) := fun h => by unfold allV; rw [if_pos h]
  have HLL : Hid ((sayL t (wordsL t who word)).length = t.s.toNat) := sayL_length _ _
  obtain ⟨V, hV⟩ : ∃ V, w.alloc (.cells #[.int .i64 t.s, .slice sa sn sc, .slice la ln lc] 26) = V := ⟨_, rfl⟩
  rw [hV] at HX0 HB0
  have q := HQA.out V HB0.out
  obtain ⟨⟨f0, f1, f2⟩, _⟩ := HX0.out
  unfold saV saB
  generalize hs : t.s = s at HX0 hV f0 q HQH HLL ⊢
  generalize allV t who word = zs at q HAL
  clear h hs
  cases hak : askB t who word
  · rw [Bool.false_and, if_neg (by simp)]
    rw [hak] at q
    obtain ⟨zn, hzn⟩ : ∃ zn, zs.length = zn := ⟨_, rfl⟩
    unfold TellI at q
    rw [hzn] at q
    clear hak hzn HAL
    go_enter Try.func12, Try.ntmps12
    go_wp2_with fail
    refine q.mono ?_
    clear q f0 f1 f2 hV
    rintro e w1 ⟨a', c', rfl, _, hb⟩
    have HB1 : Hid (Below w.heap.size w w1) := HB0.out.trans (hb.mono HB0.out.size)
    clear hb
    go_wp2
    refine bodyPost_ret (v := .tuple #[.int .i64 0, .bool false]) (by simp [results, Try.results12, go_sem]; try rfl) rfl ?_
    exact ⟨rfl, HB1.out⟩
  rw [Bool.true_and]
  have hzs := HAL.out hak
  subst hzs
  rw [hak] at q
  unfold TellI at q
  rw [HLL.out] at q
  generalize sayL t (wordsL t who word) = zs at q HLL ⊢
  clear hak HAL
  cases hse : seatB s seat
  · rw [if_neg (by simp)]
    have q2 := fun wx => HQH.out wx
    rw [hse] at q2
    generalize s.toNat = zn at q
    clear hse
    go_enter Try.func12, Try.ntmps12
    go_wp2_with fail
    refine q.mono ?_
    clear q f0 f1 f2 hV
    rintro e w1 ⟨a', c', rfl, _, hb⟩
    have HB1 : Hid (Below w.heap.size w w1) := HB0.out.trans (hb.mono HB0.out.size)
    obtain ⟨⟨f0, f1, f2⟩, _⟩ := HX0.out.later hb
    clear hb
    go_wp2_with fail
    refine (q2 w1).mono ?_
    clear q2 f0 f1 f2
    rintro e w2 ⟨rfl, hgr⟩
    have HB2 : Hid (Below w.heap.size w w2) := HB1.out.trans (hgr.below.mono HB1.out.size)
    clear hgr
    go_wp2
    refine bodyPost_ret (v := .tuple #[.int .i64 0, .bool false]) (by simp [results, Try.results12, go_sem]; try rfl) rfl ?_
    exact ⟨rfl, HB2.out⟩
  rw [if_pos rfl]
  have q2 := fun wx => HQH.out wx
  rw [hse] at q2
  have hse2 : 0 ≤ seat ∧ seat < s := by unfold seatB at hse; exact of_decide_eq_true hse
  obtain ⟨k, rfl⟩ : ∃ k : Nat, seat = (k : Int) := ⟨seat.toNat, by omega⟩
  obtain ⟨n, hn⟩ : ∃ n : Nat, s.toNat = n := ⟨_, rfl⟩
  rw [hn] at q HLL
  have hkn : k < n := by omega
  have hk0 : (0 : Int) ≤ (k : Int) := by omega
  have hk1 : (k : Int) < (n : Int) := by omega
  have HKN : Hid (k < n) := hkn
  rw [Int.toNat_natCast]
  obtain ⟨x, hx⟩ : ∃ x, zs.getD k 0 = x := ⟨_, rfl⟩
  have HXV : Hid (zs.getD k 0 = x) := hx
  rw [hx]
  clear hse hse2 hn hx
  go_enter Try.func12, Try.ntmps12
  go_wp2_with fail
  refine q.mono ?_
  clear q f0 f1 f2 hV
  rintro e w1 ⟨a', c', rfl, ho, hb⟩
  have HB1 : Hid (Below w.heap.size w w1) := HB0.out.trans (hb.mono HB0.out.size)
  obtain ⟨⟨f0, f1, f2⟩, _⟩ := HX0.out.later hb
  have HO1 : Hid (Own w1 V.heap.size (.slice a' n c') zs) := ho
  clear hb ho
  go_wp2_with fail
  refine (q2 w1).mono ?_
  clear q2 f0 f1 f2
  rintro e w2 ⟨rfl, hgr⟩
  have HB2 : Hid (Below w.heap.size w w2) := HB1.out.trans (hgr.below.mono HB1.out.size)
  obtain ⟨b, o, rfl, g1⟩ := (HO1.out.later hgr.below).rd'.2.get (k := k) (by rw [HLL.out]; exact HKN.out)
  rw [HXV.out] at g1
  clear hgr
  go_wp2
  refine bodyPost_ret (v := .tuple #[.int .i64 x, .bool true]) (by simp [results, Try.results12, go_sem]; try rfl) rfl ?_
  exact ⟨rfl, HB2.out⟩

end Go.Proofs.Ytbjpkklonjlmiaa
