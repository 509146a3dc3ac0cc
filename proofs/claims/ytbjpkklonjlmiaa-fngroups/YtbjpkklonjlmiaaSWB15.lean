/- Chapter 15: WayBetween of the specification. -/
import Derived.Test.YtbjpkklonjlmiaaSX15
import Derived.Test.YtbjpkklonjlmiaaWB15
namespace Go.Proofs.Ytbjpkklonjlmiaa
set_option linter.unusedVariables false
set_option maxRecDepth 1000000
set_option linter.unusedSimpArgs false
open Go.RowKit Go.Sort

set_option maxHeartbeats 8000000 in
theorem specWay_c (sa : Option Addr) (sn sc : Nat) (la : Option Addr) (ln lc : Nat) (t : TbV) (a b : Int) (w : World) (h : RdT w sa sn sc la ln lc t) :
    Calls Try.prog 24 #[.agg #[.int .i64 t.s, .slice sa sn sc, .slice la ln lc], .int .i64 a, .int .i64 b] w fun e w' => TellI e w w' (wayV t a b) (wayB t a b) := by
  have HX0 : Hid (X3 (w.alloc (.cells #[.int .i64 t.s, .slice sa sn sc, .slice la ln lc] 26)) w.heap.size (.int .i64 t.s) (.slice sa sn sc) (.slice la ln lc)) := x3_new w _ _ _ _ _ rfl
  have HB0 : Hid (Below w.heap.size w (w.alloc (.cells #[.int .i64 t.s, .slice sa sn sc, .slice la ln lc] 26))) := balloc w _
  have HR : Hid (∀ wx, Below w.heap.size w wx → RdT wx sa sn sc la ln lc t) := fun wx hb => h.later hb
  obtain ⟨V, hV⟩ : ∃ V, w.alloc (.cells #[.int .i64 t.s, .slice sa sn sc, .slice la ln lc] 26) = V := ⟨_, rfl⟩
  rw [hV] at HX0 HB0
  have q := l15Two_c sa sn sc la ln lc t a b V (HR.out V HB0.out)
  have HX : Hid (X3 V w.heap.size (.int .i64 t.s) (.slice sa sn sc) (.slice la ln lc)) := HX0.out
  obtain ⟨⟨f0, f1, f2⟩, _⟩ := HX0.out
  unfold wayV wayB
  cases htw : twoB t a b
  · simp only [Bool.false_and]
    rw [if_neg (by simp)]
    rw [htw] at q
    generalize t.s = s at hV f0 q HX ⊢
    clear h htw HX0 HR
    go_enter Try.func24, Try.ntmps24
    go_wp2_with fail
    refine q.mono ?_
    clear q f0 f1 f2 hV
    rintro e w1 ⟨rfl, hb⟩
    have HB1 : Hid (Below w.heap.size w w1) := HB0.out.trans (hb.mono HB0.out.size)
    clear hb
    go_wp2
    refine bodyPost_ret (v := .tuple #[.slice none 0 0, .bool false]) (by simp [results, Try.results24, go_sem]; try rfl) rfl ?_
    exact tellI_none HB1.out
  simp only [Bool.true_and]
  rw [htw] at q
  have htw2 := htw
  rw [twoB_eq, Bool.and_eq_true, Bool.and_eq_true] at htw2
  have hg := goodTb_iff t htw2.1
  obtain ⟨n, hn⟩ : ∃ n : Nat, t.s = (n : Int) := ⟨t.s.toNat, by have := hg.s1; omega⟩
  have ha2 : 0 ≤ a ∧ a < n := by have := htw2.2.1; unfold seatB at this; rw [hn] at this; exact of_decide_eq_true this
  have hb2 : 0 ≤ b ∧ b < n := by have := htw2.2.2; unfold seatB at this; rw [hn] at this; exact of_decide_eq_true this
  obtain ⟨i, rfl⟩ : ∃ i : Nat, a = (i : Int) := ⟨a.toNat, by omega⟩
  obtain ⟨j, rfl⟩ : ∃ j : Nat, b = (j : Int) := ⟨b.toNat, by omega⟩
  have HQW : Hid (∀ wx, Below w.heap.size w wx → Calls Try.prog 52 #[.agg #[.int .i64 t.s, .slice sa sn sc, .slice la ln lc], .int .i64 i, .int .i64 j] wx fun e w' => TellI e wx w' (if 0 ≤ (farT t j).getD i 0 then wayL t.ps (farT t j) n i else []) (decide (0 ≤ (farT t j).getD i 0))) := fun wx hb => l15Way_c sa sn sc la ln lc t i j n wx (HR.out wx hb) hg hn (by omega) (by omega)
  have hok : FarOk (stT t.ps t.ps.length) n j n (farT t j) := by
    have h2 := hg.stB (Nat.le_refl t.ps.length)
    unfold farT farL
    rw [hn, Int.toNat_natCast] at h2 ⊢
    exact farN_ok h2 (by omega) n
  have hlo := hok.lo i (by omega)
  simp only [Int.toNat_natCast]
  rw [hn] at hV f0 q HX HQW ⊢
  simp only [Int.toNat_natCast]
  obtain ⟨fv, hfv⟩ : ∃ fv, (farT t j).getD i 0 = fv := ⟨_, rfl⟩
  simp only [hfv] at HQW hlo ⊢
  have hd : decide (fv ≠ -1) = decide (0 ≤ fv) := by rw [decide_eq_decide]; omega
  rw [hd]
  have hzz : (if decide (0 ≤ fv) = true then wayL t.ps (farT t j) n i else []) = (if 0 ≤ fv then wayL t.ps (farT t j) n i else []) := by simp only [decide_eq_true_eq]
  rw [hzz]
  generalize (if 0 ≤ fv then wayL t.ps (farT t j) n i else []) = zl at HQW ⊢
  generalize decide (0 ≤ fv) = zb at HQW ⊢
  clear h htw htw2 HX0 HR hg hn ha2 hb2 hok hlo hfv hd hzz
  obtain ⟨zn, hzn⟩ : ∃ zn, zl.length = zn := ⟨_, rfl⟩
  have HZN : Hid (zl.length = zn) := hzn
  unfold TellI at HQW
  rw [hzn] at HQW
  clear hzn
  go_enter Try.func24, Try.ntmps24
  go_wp2_with fail
  refine q.mono ?_
  clear q f0 f1 f2 hV
  rintro e w1 ⟨rfl, hb⟩
  have HB1 : Hid (Below w.heap.size w w1) := HB0.out.trans (hb.mono HB0.out.size)
  have HX1 : Hid (X3 w1 w.heap.size (.int .i64 n) (.slice sa sn sc) (.slice la ln lc)) := HX.out.later hb
  obtain ⟨⟨f0, f1, f2⟩, _⟩ := HX1.out
  clear hb
  go_wp2_with fail
  refine (HQW.out w1 HB1.out).mono ?_
  clear f0 f1 f2
  rintro e w2 ⟨a', c', rfl, ho, hb⟩
  have HO2 : Hid (Own w2 w.heap.size (.slice a' zn c') zl) := ho.mono HB1.out.size
  have HB2 : Hid (Below w.heap.size w w2) := HB1.out.trans (hb.mono HB1.out.size)
  clear ho hb
  go_wp2
  refine bodyPost_ret (v := .tuple #[.slice a' zn c', .bool zb]) (by simp [results, Try.results24, go_sem]; try rfl) rfl ?_
  exact ⟨a', c', by rw [HZN.out], by rw [HZN.out]; exact HO2.out, HB2.out⟩

end Go.Proofs.Ytbjpkklonjlmiaa
