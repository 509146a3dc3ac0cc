/- Chapter 15: GoodTable of the program. -/
import Derived.Test.YtbjpkklonjlmiaaG15B
namespace Go.Proofs.Ytbjpkklonjlmiaa
set_option linter.unusedVariables false
set_option maxRecDepth 1000000
set_option linter.unusedSimpArgs false
open Go.RowKit Go.Sort

theorem goodTb_eq (t : TbV) : goodTb t = (inB t.s 1 6 && (decide (t.cs.length = t.ps.length) && ((decide (t.ps.length ≤ 15) && t.ps.all (pairB t.s)) && (unlB t.ps && (decide (t.cs.length ≤ 15) && t.cs.all byB))))) := by
  unfold goodTb
  by_cases h : t.cs.length = t.ps.length
  · rw [h]
    cases decide (t.ps.length ≤ 15) <;> cases t.ps.all (pairB t.s) <;> cases unlB t.ps <;> cases t.cs.all byB <;> rfl
  · rw [decide_eq_false h]; simp

/-- A table whose lists' lengths are the machine's. -/
structure RdT (w : World) (sa : Option Addr) (sn sc : Nat) (la : Option Addr) (ln lc : Nat) (t : TbV) : Prop where
  rd : RdTb w sa sn sc la ln lc t
  pn : sn ≤ 17592186044416
  cn : ln ≤ 17592186044416
  rl : ∀ l ∈ t.ps, l.length ≤ 17592186044416
theorem RdT.later {w w' : World} {sa : Option Addr} {sn sc : Nat} {la : Option Addr} {ln lc : Nat} {t : TbV} (h : RdT w sa sn sc la ln lc t) (hb : Below w.heap.size w w') : RdT w' sa sn sc la ln lc t := ⟨h.rd.later hb, h.pn, h.cn, h.rl⟩

set_option maxHeartbeats 4000000 in
theorem implGoodTb_c (sa : Option Addr) (sn sc : Nat) (la : Option Addr) (ln lc : Nat) (t : TbV) (w : World) (h : RdT w sa sn sc la ln lc t) :
    Calls Try.prog 9 #[.agg #[.int .i64 t.s, .slice sa sn sc, .slice la ln lc]] w fun e w' => e = .returned (.bool (goodTb t)) ∧ Below w.heap.size w w' := by
  rw [goodTb_eq]
  have hX := x3_new w (.int .i64 t.s) (.slice sa sn sc) (.slice la ln lc) 26 w.heap.size rfl
  have HB0 : Hid (Below w.heap.size w (w.alloc (.cells #[.int .i64 t.s, .slice sa sn sc, .slice la ln lc] 26))) := balloc w _
  have HR : Hid (∀ wx, Below w.heap.size w wx → RdT wx sa sn sc la ln lc t) := fun wx hb => h.later hb
  have hpl := h.rd.sl
  have hcl := h.rd.ll
  rw [hpl, hcl]
  have Q1 : Hid (∀ wx, Below w.heap.size w wx → Calls Try.prog 39 #[.slice sa sn sc, .int .i64 15, .func (.func 40) #[.agg #[.int .i64 t.s, .slice sa sn sc, .slice la ln lc]] #[]] wx fun e w' => e = .returned (.bool (decide (sn ≤ 15) && t.ps.all (pairB t.s))) ∧ Below wx.heap.size wx w') := fun wx hb => by
    have := fewP_c t.s sa sn sc la ln lc sa sn sc t.ps wx hpl h.pn (HR.out wx hb).rd.s.ii (fun l hl => by have := h.rl l hl; omega)
    rw [hpl] at this
    exact this
  have Q2 : Hid (∀ wx, Below w.heap.size w wx → Calls Try.prog 41 #[.slice sa sn sc] wx fun e w' => e = .returned (.bool (unlB t.ps)) ∧ Below wx.heap.size wx w') := fun wx hb => areUnlike_c sa sn sc t.ps wx hpl h.pn h.rd.cp (HR.out wx hb).rd.s.ii h.rl
  have Q3 : Hid (∀ wx, Below w.heap.size w wx → Calls Try.prog 42 #[.slice la ln lc, .int .i64 15, .func (.func 35) #[] #[]] wx fun e w' => e = .returned (.bool (decide (ln ≤ 15) && t.cs.all byB)) ∧ w' = wx) := fun wx hb => by
    have := fewW_c 15 (by omega) la ln lc t.cs wx hcl h.cn (HR.out wx hb).rd.l
    rw [hcl] at this
    exact this
  have hpn := h.pn
  have hcn := h.cn
  generalize (decide (sn ≤ 15) && t.ps.all (pairB t.s)) = z1 at Q1 ⊢
  generalize unlB t.ps = z2 at Q2 ⊢
  generalize (decide (ln ≤ 15) && t.cs.all byB) = z3 at Q3 ⊢
  generalize t.s = s at hX HB0 Q1 ⊢
  clear h hpl hcl HR
  obtain ⟨V, hV⟩ : ∃ V, w.alloc (.cells #[.int .i64 s, .slice sa sn sc, .slice la ln lc] 26) = V := ⟨_, rfl⟩
  rw [hV] at hX HB0
  have HX : Hid (X3 V w.heap.size (.int .i64 s) (.slice sa sn sc) (.slice la ln lc)) := hX
  obtain ⟨⟨f0, f1, f2⟩, _⟩ := hX
  by_cases hs : inB s 1 6 = true
  case neg =>
    rw [Bool.not_eq_true] at hs
    rw [hs, Bool.false_and]
    have hs2 : s < 1 ∨ (¬ s < 1 ∧ 6 < s) := by
      by_cases h1 : 1 ≤ s
      · by_cases h2 : s ≤ 6
        · rw [inB_iff.2 ⟨h1, h2⟩] at hs; cases hs
        · exact Or.inr ⟨by omega, by omega⟩
      · exact Or.inl (by omega)
    clear hs
    rcases hs2 with h1 | ⟨h1, h2⟩
    · go_enter Try.func9, Try.ntmps9
      go_wp2
      go_ret
      exact ⟨rfl, HB0.out⟩
    · go_enter Try.func9, Try.ntmps9
      go_wp2
      go_ret
      exact ⟨rfl, HB0.out⟩
  rw [hs, Bool.true_and]
  obtain ⟨hs1, hs6⟩ := inB_iff.1 hs
  have n1 : ¬ s < 1 := by omega
  have n2 : ¬ 6 < s := by omega
  clear hs hs1 hs6
  by_cases hnn : ln = sn
  case neg =>
    rw [decide_eq_false hnn, Bool.false_and]
    have hne : ((ln : Int) != (sn : Int)) = true := by rw [bne_iff_ne]; omega
    go_enter Try.func9, Try.ntmps9
    go_wp2
    go_ret
    exact ⟨rfl, HB0.out⟩
  rw [decide_eq_true hnn, Bool.true_and]
  have hne : ((ln : Int) != (sn : Int)) = false := by rw [bne_eq_false_iff_eq]; omega
  clear hnn
  go_enter Try.func9, Try.ntmps9
  go_wp2_with fail
  refine (Q1.out _ HB0.out).mono ?_
  clear f0 f1 f2
  rintro e w1 ⟨rfl, hb⟩
  have HB1 : Hid (Below w.heap.size w w1) := HB0.out.trans (hb.mono HB0.out.size)
  obtain ⟨⟨f0, f1, f2⟩, _⟩ := HX.out.later hb
  have HX1 : Hid (X3 w1 w.heap.size (.int .i64 s) (.slice sa sn sc) (.slice la ln lc)) := HX.out.later hb
  clear hb
  cases z1
  · go_wp2
    go_ret
    exact ⟨rfl, HB1.out⟩
  go_wp2_with fail
  refine (Q2.out _ HB1.out).mono ?_
  clear f0 f1 f2
  rintro e w2 ⟨rfl, hb⟩
  have HB2 : Hid (Below w.heap.size w w2) := HB1.out.trans (hb.mono HB1.out.size)
  obtain ⟨⟨f0, f1, f2⟩, _⟩ := HX1.out.later hb
  clear hb
  cases z2
  · go_wp2
    go_ret
    exact ⟨rfl, HB2.out⟩
  go_wp2_with fail
  refine (Q3.out _ HB2.out).mono ?_
  rintro e w3 ⟨rfl, hw⟩
  subst hw
  go_wp2
  go_ret
  exact ⟨rfl, HB2.out⟩

end Go.Proofs.Ytbjpkklonjlmiaa
