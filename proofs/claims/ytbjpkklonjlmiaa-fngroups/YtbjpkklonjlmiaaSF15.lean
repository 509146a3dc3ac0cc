/- Chapter 15: of the specification: whether two seats are of a good table, the number of their pair. -/
import Derived.Test.YtbjpkklonjlmiaaSS15B
import Derived.Test.YtbjpkklonjlmiaaP15D
namespace Go.Proofs.Ytbjpkklonjlmiaa
set_option linter.unusedVariables false
set_option maxRecDepth 1000000
set_option linter.unusedSimpArgs false
open Go.RowKit Go.Sort

theorem inB_s (s x : Int) : inB x 0 (s - 1) = seatB s x := by
  unfold inB seatB
  rw [Bool.eq_iff_iff, decide_eq_true_eq, decide_eq_true_eq]
  omega

set_option maxHeartbeats 8000000 in
theorem l15Two_c (sa : Option Addr) (sn sc : Nat) (la : Option Addr) (ln lc : Nat) (t : TbV) (a b : Int) (w : World) (h : RdT w sa sn sc la ln lc t) :
    Calls Try.prog 50 #[.agg #[.int .i64 t.s, .slice sa sn sc, .slice la ln lc], .int .i64 a, .int .i64 b] w fun e w' => e = .returned (.bool (twoB t a b)) ∧ Below w.heap.size w w' := by
  have HX0 : Hid (X3 (w.alloc (.cells #[.int .i64 t.s, .slice sa sn sc, .slice la ln lc] 26)) w.heap.size (.int .i64 t.s) (.slice sa sn sc) (.slice la ln lc)) := x3_new w _ _ _ _ _ rfl
  have HB0 : Hid (Below w.heap.size w (w.alloc (.cells #[.int .i64 t.s, .slice sa sn sc, .slice la ln lc] 26))) := balloc w _
  have HR : Hid (∀ wx, Below w.heap.size w wx → RdT wx sa sn sc la ln lc t) := fun wx hb => h.later hb
  obtain ⟨V, hV⟩ : ∃ V, w.alloc (.cells #[.int .i64 t.s, .slice sa sn sc, .slice la ln lc] 26) = V := ⟨_, rfl⟩
  rw [hV] at HX0 HB0
  have q := specGoodTb_c sa sn sc la ln lc t V (HR.out V HB0.out)
  have hgt := fun h => goodTb_iff t h
  rw [show twoB t a b = (goodTb t && (seatB t.s a && seatB t.s b)) from rfl]
  obtain ⟨⟨f0, f1, f2⟩, _⟩ := HX0.out
  have HX : Hid (X3 V w.heap.size (.int .i64 t.s) (.slice sa sn sc) (.slice la ln lc)) := HX0.out
  cases hgd : goodTb t
  · rw [Bool.false_and]
    rw [hgd] at q
    generalize t.s = s at hV f0 q ⊢
    clear h hgt hgd HX0 HX HR
    go_enter Try.func50, Try.ntmps50
    go_wp2_with fail
    refine q.mono ?_
    clear q f0 f1 f2 hV
    rintro e w1 ⟨rfl, hb⟩
    have HB1 : Hid (Below w.heap.size w w1) := HB0.out.trans (hb.mono HB0.out.size)
    clear hb
    go_wp2
    go_ret
    exact ⟨rfl, HB1.out⟩
  rw [Bool.true_and]
  rw [hgd] at q
  have hg := hgt hgd
  have hs1 := hg.s1
  have hs6 := hg.s6
  have q2 := fun wx => l1In_c a 0 (t.s - 1) wx
  have e2 : decide (0 ≤ a ∧ a ≤ t.s - 1) = inB a 0 (t.s - 1) := rfl
  rw [e2, inB_s] at q2
  have q3 := fun wx => l1In_c b 0 (t.s - 1) wx
  have e3 : decide (0 ≤ b ∧ b ≤ t.s - 1) = inB b 0 (t.s - 1) := rfl
  rw [e3, inB_s] at q3
  clear e2 e3 hgt hgd hg h HX0 HR
  generalize t.s = s at hV f0 q q2 q3 hs1 hs6 HX ⊢
  have hwr : IntKind.i64.wrap (s - 1) = s - 1 := by rw [IntKind.wrap_i64]; omega
  generalize seatB s a = z1 at q2 ⊢
  generalize seatB s b = z2 at q3 ⊢
  cases z1
  · rw [Bool.false_and]
    go_enter Try.func50, Try.ntmps50
    go_wp2_with fail
    refine q.mono ?_
    clear q f0 f1 f2 hV
    rintro e w1 ⟨rfl, hb⟩
    have HB1 : Hid (Below w.heap.size w w1) := HB0.out.trans (hb.mono HB0.out.size)
    obtain ⟨⟨f0, f1, f2⟩, _⟩ := HX.out.later hb
    clear hb
    go_wp2_with fail
    refine (q2 _).mono ?_
    clear q2 f0 f1 f2
    rintro e w2 ⟨rfl, hw⟩
    have hw2 := hw.symm
    clear hw
    subst hw2
    go_wp2
    go_ret
    exact ⟨rfl, HB1.out⟩
  rw [Bool.true_and]
  go_enter Try.func50, Try.ntmps50
  go_wp2_with fail
  refine q.mono ?_
  clear q f0 f1 f2 hV
  rintro e w1 ⟨rfl, hb⟩
  have HB1 : Hid (Below w.heap.size w w1) := HB0.out.trans (hb.mono HB0.out.size)
  obtain ⟨⟨f0, f1, f2⟩, _⟩ := HX.out.later hb
  clear hb
  go_wp2_with fail
  refine (q2 _).mono ?_
  clear q2
  rintro e w2 ⟨rfl, hw⟩
  have hw2 := hw.symm
  clear hw
  subst hw2
  go_wp2_with fail
  refine (q3 _).mono ?_
  clear q3
  rintro e w2 ⟨rfl, hw⟩
  have hw2 := hw.symm
  clear hw
  subst hw2
  go_wp2
  go_ret
  exact ⟨rfl, HB1.out⟩

set_option maxHeartbeats 16000000 in
theorem l15Pair_c (sa : Option Addr) (sn sc : Nat) (la : Option Addr) (ln lc : Nat) (t : TbV) (a b : Int) (w : World) (h : RdT w sa sn sc la ln lc t) (hg : GoodT t) :
    Calls Try.prog 71 #[.agg #[.int .i64 t.s, .slice sa sn sc, .slice la ln lc], .int .i64 a, .int .i64 b] w fun e w' => e = .returned (.int .i64 (prN t.ps a b)) ∧ Below w.heap.size w w' := by
  have HX0 : Hid (X3 (w.alloc (.cells #[.int .i64 t.s, .slice sa sn sc, .slice la ln lc] 26)) w.heap.size (.int .i64 t.s) (.slice sa sn sc) (.slice la ln lc)) := x3_new w _ _ _ _ _ rfl
  have HB0 : Hid (Below w.heap.size w (w.alloc (.cells #[.int .i64 t.s, .slice sa sn sc, .slice la ln lc] 26))) := balloc w _
  have HR : Hid (∀ wx, Below w.heap.size w wx → RdT wx sa sn sc la ln lc t) := fun wx hb => h.later hb
  have HRN : Hid (∀ wx, Below w.heap.size w wx → RdNN wx sa t.ps) := fun wx hb => h.rd.s.later hb
  have HPL : Hid (t.ps.length = sn) := h.rd.sl
  have H2 : Hid (∀ k, k < sn → (t.ps.getD k []).length = 2) := fun k hk => (hg.two k (by rw [h.rd.sl]; exact hk)).1
  have hpn := h.pn
  obtain ⟨V, hV⟩ : ∃ V, w.alloc (.cells #[.int .i64 t.s, .slice sa sn sc, .slice la ln lc] 26) = V := ⟨_, rfl⟩
  rw [hV] at HX0 HB0
  generalize t.s = s at HX0 hV ⊢
  obtain ⟨⟨f0, f1, f2⟩, _⟩ := HX0.out
  clear h hg HR
  go_enter Try.func71, Try.ntmps71
  go_wp2_with fail
  clear hV f0 f1 f2
  go_loop [12] (fun iv => ∃ k : Nat, k ≤ sn ∧ iv = .int .i64 k ∧ Hid (∀ j, j < k → isPr (t.ps.getD j []) a b = false)) (fun iv => sn - (intOf iv).toNat)
  case atStart => exact ⟨0, Nat.zero_le _, rfl, fun j h => absurd h (by omega)⟩
  case round =>
    obtain ⟨k, hk, rfl, HS⟩ := hrel
    by_cases hlt : k < sn
    case neg =>
      obtain rfl : k = sn := by omega
      go_wp2
      go_ret
      exact ⟨ret_int (prN_none (fun j hj => HS.out j (by rw [← HPL.out]; exact hj))).symm, HB0.out⟩
    have hkl : k < t.ps.length := by rw [HPL.out]; exact hlt
    obtain ⟨pb, o, ro, rc, hsa, g0, hro, _⟩ := (HRN.out V HB0.out).get hkl
    have h2 := H2.out k hlt
    have hP : isPr (t.ps.getD k []) a b = (((t.ps.getD k []).getD 0 0 == a) && ((t.ps.getD k []).getD 1 0 == b) || ((t.ps.getD k []).getD 0 0 == b) && ((t.ps.getD k []).getD 1 0 == a)) := by
      unfold isPr
      have hbd : ∀ u v : Int, (u == v) = decide (u = v) := fun u v => by rw [Bool.eq_iff_iff]; simp
      simp only [hbd]
    have HK : Hid (∀ p, t.ps.getD k [] = p → isPr (t.ps.getD k []) a b = isPr p a b) := fun p h => by rw [h]
    generalize hpk : t.ps.getD k [] = p at g0 hro h2 hP
    have HPE : Hid (isPr (t.ps.getD k []) a b = isPr p a b) := HK.out p hpk
    clear HK hpk
    rw [h2] at g0
    obtain ⟨b2, o2, hro2, u0⟩ := hro.get (k := 0) (by omega)
    obtain ⟨_, _, e, u1⟩ := hro.get (k := 1) (by omega)
    rw [hro2] at e
    simp only [Option.some.injEq, Addr.mk.injEq] at e
    obtain ⟨rfl, rfl, _⟩ := e
    rw [Nat.add_zero] at u0
    subst hro2
    subst hsa
    generalize p.getD 0 0 = x at u0 hP
    generalize p.getD 1 0 = y at u1 hP
    have k0 : (0 : Int) ≤ (k : Int) := by omega
    have k1 : (k : Int) < (sn : Int) := by omega
    clear hkl h2
    obtain ⟨c1, h1⟩ : ∃ c, (x == a) = c := ⟨_, rfl⟩
    obtain ⟨c2, h2⟩ : ∃ c, (y == b) = c := ⟨_, rfl⟩
    obtain ⟨c3, h3⟩ : ∃ c, (x == b) = c := ⟨_, rfl⟩
    obtain ⟨c4, h4⟩ : ∃ c, (y == a) = c := ⟨_, rfl⟩
    rw [h1, h2, h3, h4] at hP
    have HP : Hid (isPr (t.ps.getD k []) a b = (c1 && c2 || c3 && c4)) := by show _ = _; rw [HPE.out]; exact hP
    clear hP HPE
    cases hres : (c1 && c2 || c3 && c4)
    · have HS2 : Hid (∀ j, j < k + 1 → isPr (t.ps.getD j []) a b = false) := fun j hj => by
        by_cases e : j = k
        · rw [e, HP.out]; exact hres
        · exact HS.out j (by omega)
      clear HP HS
      cases c1 <;> cases c2 <;> cases c3 <;> cases c4
      · clear hres
        go_wp2
        go_round
        case rel => exact ⟨k + 1, by omega, by go_num, HS2⟩
        case measure => simp [intOf]; omega
      · clear hres
        go_wp2
        go_round
        case rel => exact ⟨k + 1, by omega, by go_num, HS2⟩
        case measure => simp [intOf]; omega
      · clear hres
        go_wp2
        go_round
        case rel => exact ⟨k + 1, by omega, by go_num, HS2⟩
        case measure => simp [intOf]; omega
      · cases hres
      · clear hres
        go_wp2
        go_round
        case rel => exact ⟨k + 1, by omega, by go_num, HS2⟩
        case measure => simp [intOf]; omega
      · clear hres
        go_wp2
        go_round
        case rel => exact ⟨k + 1, by omega, by go_num, HS2⟩
        case measure => simp [intOf]; omega
      · clear hres
        go_wp2
        go_round
        case rel => exact ⟨k + 1, by omega, by go_num, HS2⟩
        case measure => simp [intOf]; omega
      · cases hres
      · clear hres
        go_wp2
        go_round
        case rel => exact ⟨k + 1, by omega, by go_num, HS2⟩
        case measure => simp [intOf]; omega
      · clear hres
        go_wp2
        go_round
        case rel => exact ⟨k + 1, by omega, by go_num, HS2⟩
        case measure => simp [intOf]; omega
      · clear hres
        go_wp2
        go_round
        case rel => exact ⟨k + 1, by omega, by go_num, HS2⟩
        case measure => simp [intOf]; omega
      · cases hres
      · cases hres
      · cases hres
      · cases hres
      · cases hres
    · have HE : Hid (prN t.ps a b = k) := prN_at (by rw [HPL.out]; exact hlt) (by rw [HP.out]; exact hres) HS.out
      clear HP HS
      cases c1 <;> cases c2 <;> cases c3 <;> cases c4
      · cases hres
      · cases hres
      · cases hres
      · clear hres
        go_wp2
        go_ret
        exact ⟨ret_int HE.out.symm, HB0.out⟩
      · cases hres
      · cases hres
      · cases hres
      · clear hres
        go_wp2
        go_ret
        exact ⟨ret_int HE.out.symm, HB0.out⟩
      · cases hres
      · cases hres
      · cases hres
      · clear hres
        go_wp2
        go_ret
        exact ⟨ret_int HE.out.symm, HB0.out⟩
      · clear hres
        go_wp2
        go_ret
        exact ⟨ret_int HE.out.symm, HB0.out⟩
      · clear hres
        go_wp2
        go_ret
        exact ⟨ret_int HE.out.symm, HB0.out⟩
      · clear hres
        go_wp2
        go_ret
        exact ⟨ret_int HE.out.symm, HB0.out⟩
      · clear hres
        go_wp2
        go_ret
        exact ⟨ret_int HE.out.symm, HB0.out⟩

end Go.Proofs.Ytbjpkklonjlmiaa
