/- Chapter 15: what is said, of the specification. -/
import Derived.Test.YtbjpkklonjlmiaaTS15
namespace Go.Proofs.Ytbjpkklonjlmiaa
set_option linter.unusedVariables false
set_option maxRecDepth 1000000
set_option linter.unusedSimpArgs false
open Go.RowKit Go.Sort

set_option maxHeartbeats 4000000 in
theorem l15Coins_c (sa : Option Addr) (sn sc : Nat) (la : Option Addr) (ln lc : Nat) (t : TbV) (seat : Int) (w : World) (h : RdT w sa sn sc la ln lc t) (hg : GoodT t) :
    Calls Try.prog 53 #[.agg #[.int .i64 t.s, .slice sa sn sc, .slice la ln lc], .int .i64 seat] w fun e w' => e = .returned (.int .i64 (coP t.cs t.ps seat sn)) ∧ Below w.heap.size w w' := by
  have HX0 : Hid (X3 (w.alloc (.cells #[.int .i64 t.s, .slice sa sn sc, .slice la ln lc] 26)) w.heap.size (.int .i64 t.s) (.slice sa sn sc) (.slice la ln lc)) := x3_new w _ _ _ _ _ rfl
  have HB0 : Hid (Below w.heap.size w (w.alloc (.cells #[.int .i64 t.s, .slice sa sn sc, .slice la ln lc] 26))) := balloc w _
  have HR : Hid (∀ wx, Below w.heap.size w wx → RdT wx sa sn sc la ln lc t) := fun wx hb => h.later hb
  have HRN : Hid (∀ wx, Below w.heap.size w wx → RdNN wx sa t.ps) := fun wx hb => h.rd.s.later hb
  have HRC : Hid (∀ wx, Below w.heap.size w wx → Rd wx la t.cs) := fun wx hb => h.rd.l.later hb
  have HPL : Hid (t.ps.length = sn) := h.rd.sl
  have HCL : Hid (t.cs.length = ln) := h.rd.ll
  have HLN : Hid (ln = sn) := by show _ = _; rw [← h.rd.sl, ← h.rd.ll]; exact hg.cl
  have H2 : Hid (∀ k, k < sn → (t.ps.getD k []).length = 2) := fun k hk => (hg.two k (by rw [h.rd.sl]; exact hk)).1
  have HCB : Hid (∀ k, k < ln → byB (t.cs.getD k 0) = true) := fun k hk => hg.by' k (by rw [h.rd.ll]; exact hk)
  have HPB : Hid (∀ m, m ≤ sn → byB (coP t.cs t.ps seat m) = true) := fun m hm => coP_by hg.by' m (by rw [hg.cl, h.rd.sl]; exact hm)
  have hpn := h.pn
  obtain ⟨V, hV⟩ : ∃ V, w.alloc (.cells #[.int .i64 t.s, .slice sa sn sc, .slice la ln lc] 26) = V := ⟨_, rfl⟩
  rw [hV] at HX0 HB0
  generalize t.s = s at HX0 hV ⊢
  obtain ⟨⟨f0, f1, f2⟩, _⟩ := HX0.out
  clear h hg HR
  go_enter Try.func53, Try.ntmps53
  go_wp2_with fail
  clear hV f0 f1 f2
  go_loop [5, 11] (fun nv iv => ∃ (k : Nat) (z : Int), k ≤ sn ∧ iv = .int .i64 k ∧ nv = .int .i64 z ∧ Hid (z = coP t.cs t.ps seat k)) (fun _ iv => sn - (intOf iv).toNat)
  case atStart => exact ⟨0, 0, Nat.zero_le _, rfl, rfl, rfl⟩
  case round =>
    obtain ⟨k, z, hk, rfl, rfl, HZ⟩ := hrel
    by_cases hlt : k < sn
    · have hkl : k < t.ps.length := by rw [HPL.out]; exact hlt
      obtain ⟨b, o, ro, rc, hsa, g0, hro, _⟩ := (HRN.out V HB0.out).get hkl
      have h2 := H2.out k hlt
      have hst : coP t.cs t.ps seat (k + 1) = if (t.ps.getD k []).getD 0 0 = seat ∨ (t.ps.getD k []).getD 1 0 = seat then xr (coP t.cs t.ps seat k) (t.cs.getD k 0) else coP t.cs t.ps seat k := rfl
      rw [← HZ.out] at hst
      have HST : Hid (coP t.cs t.ps seat (k + 1) = if (t.ps.getD k []).getD 0 0 = seat ∨ (t.ps.getD k []).getD 1 0 = seat then xr z (t.cs.getD k 0) else z) := hst
      generalize t.ps.getD k [] = p at g0 hro h2 HST
      rw [h2] at g0
      obtain ⟨b2, o2, hro2, u0⟩ := hro.get (k := 0) (by omega)
      obtain ⟨_, _, e, u1⟩ := hro.get (k := 1) (by omega)
      rw [hro2] at e
      simp only [Option.some.injEq, Addr.mk.injEq] at e
      obtain ⟨rfl, rfl, _⟩ := e
      rw [Nat.add_zero] at u0
      subst hro2
      subst hsa
      obtain ⟨cb, co, hla, gc⟩ := (HRC.out V HB0.out).get (k := k) (by rw [HCL.out, HLN.out]; exact hlt)
      subst hla
      have hxr := bits_xr (x := z) (y := t.cs.getD k 0) (by rw [HZ.out]; exact HPB.out k hk) (HCB.out k (by rw [HLN.out]; exact hlt))
      obtain ⟨⟨f0, f1, f2⟩, _⟩ := HX0.out
      generalize p.getD 0 0 = x at u0 HST
      generalize p.getD 1 0 = y at u1 HST
      generalize t.cs.getD k 0 = cn at gc hxr HST
      generalize xr z cn = z2 at hxr HST
      have k0 : (0 : Int) ≤ (k : Int) := by omega
      have k1 : (k : Int) < (sn : Int) := by omega
      have k2 : (k : Int) < (ln : Int) := by have := HLN.out; omega
      clear hkl hst h2
      by_cases hx : x = seat
      · have HS2 : Hid (z2 = coP t.cs t.ps seat (k + 1)) := by show _ = _; rw [HST.out, if_pos (Or.inl hx)]
        have hxe : (x == seat) = true := by rw [hx]; simp
        clear hx HST
        go_wp2
        go_round
        case rel => exact ⟨k + 1, z2, by omega, by go_num, rfl, HS2⟩
        case measure => simp [intOf]; omega
      · have hxe : (x == seat) = false := by rw [beq_eq_false_iff_ne]; exact hx
        by_cases hy : y = seat
        · have HS2 : Hid (z2 = coP t.cs t.ps seat (k + 1)) := by show _ = _; rw [HST.out, if_pos (Or.inr hy)]
          have hye : (y == seat) = true := by rw [hy]; simp
          clear hx hy HST
          go_wp2
          go_round
          case rel => exact ⟨k + 1, z2, by omega, by go_num, rfl, HS2⟩
          case measure => simp [intOf]; omega
        · have HS2 : Hid (z = coP t.cs t.ps seat (k + 1)) := by show _ = _; rw [HST.out, if_neg (by rintro (h | h) <;> contradiction)]
          have hye : (y == seat) = false := by rw [beq_eq_false_iff_ne]; exact hy
          clear hx hy HST
          go_wp2
          go_round
          case rel => exact ⟨k + 1, z, by omega, by go_num, rfl, HS2⟩
          case measure => simp [intOf]; omega
    · obtain rfl : k = sn := by omega
      go_wp2
      go_ret
      exact ⟨ret_int HZ.out, HB0.out⟩

theorem l15Byte_c (x : Int) (w : World) : Calls Try.prog 51 #[.int .i64 x] w fun e w' => e = .returned (.bool (byB x)) ∧ w' = w := by
  have q := l1In_c x 0 255 w
  have e : decide (0 ≤ x ∧ x ≤ 255) = byB x := rfl
  rw [e] at q
  generalize byB x = zb at q ⊢
  go_enter Try.func51, Try.ntmps51
  go_wp2_with fail
  refine q.mono ?_
  rintro e w' ⟨rfl, hw⟩
  subst hw
  go_wp2
  go_ret
  exact ⟨rfl, rfl⟩

/-- What a seat says. -/
def sayS (t : TbV) (seat who word : Int) : Int := if seat = who then xr (coP t.cs t.ps seat t.ps.length) word else coP t.cs t.ps seat t.ps.length
theorem sayS_get {t : TbV} {who word : Int} (hg : GoodT t) (hw : -1 ≤ who) (hb : byB word = true) {i : Nat} (hi : i < t.s.toNat) : (sayL t (wordsL t who word)).getD i 0 = sayS t i who word := by
  rw [sayL_get _ _ hi, wordsL_get hw hi]
  unfold sayS
  split
  · rw [xr_comm]
  · rw [zero_xr]
    exact (byB_iff.1 (coP_by hg.by' _ (by rw [hg.cl]; exact Nat.le_refl _))).1

theorem l15Say_c (sa : Option Addr) (sn sc : Nat) (la : Option Addr) (ln lc : Nat) (t : TbV) (seat who word : Int) (w : World) (h : RdT w sa sn sc la ln lc t) (hg : GoodT t) (hb : byB word = true) :
    Calls Try.prog 38 #[.agg #[.int .i64 t.s, .slice sa sn sc, .slice la ln lc], .int .i64 seat, .int .i64 who, .int .i64 word] w fun e w' => e = .returned (.int .i64 (sayS t seat who word)) ∧ Below w.heap.size w w' := by
  have HX0 : Hid (X3 (w.alloc (.cells #[.int .i64 t.s, .slice sa sn sc, .slice la ln lc] 26)) w.heap.size (.int .i64 t.s) (.slice sa sn sc) (.slice la ln lc)) := x3_new w _ _ _ _ _ rfl
  have HB0 : Hid (Below w.heap.size w (w.alloc (.cells #[.int .i64 t.s, .slice sa sn sc, .slice la ln lc] 26))) := balloc w _
  have HR : Hid (∀ wx, Below w.heap.size w wx → RdT wx sa sn sc la ln lc t) := fun wx hb => h.later hb
  have HQ : Hid (∀ wx, Below w.heap.size w wx → Calls Try.prog 53 #[.agg #[.int .i64 t.s, .slice sa sn sc, .slice la ln lc], .int .i64 seat] wx fun e w' => e = .returned (.int .i64 (coP t.cs t.ps seat sn)) ∧ Below wx.heap.size wx w') := fun wx hb => l15Coins_c sa sn sc la ln lc t seat wx (h.later hb) hg
  have hcb : byB (coP t.cs t.ps seat sn) = true := coP_by hg.by' _ (by rw [hg.cl, h.rd.sl]; exact Nat.le_refl _)
  have hxr := bits_xr hcb hb
  unfold sayS
  rw [h.rd.sl]
  generalize coP t.cs t.ps seat sn = z at HQ hxr ⊢
  generalize xr z word = z2 at hxr ⊢
  obtain ⟨V, hV⟩ : ∃ V, w.alloc (.cells #[.int .i64 t.s, .slice sa sn sc, .slice la ln lc] 26) = V := ⟨_, rfl⟩
  rw [hV] at HX0 HB0
  have q := HQ.out V HB0.out
  generalize t.s = s at HX0 hV q ⊢
  obtain ⟨⟨f0, f1, f2⟩, _⟩ := HX0.out
  clear h hg hcb HQ HR hb
  by_cases hsw : seat = who
  · rw [if_pos hsw]
    have hse : (seat == who) = true := by rw [hsw]; simp
    clear hsw
    go_enter Try.func38, Try.ntmps38
    go_wp2_with fail
    refine q.mono ?_
    clear q f0 f1 f2 hV
    rintro e w1 ⟨rfl, hb⟩
    have HB1 : Hid (Below w.heap.size w w1) := HB0.out.trans (hb.mono HB0.out.size)
    clear hb
    go_wp2
    go_ret
    exact ⟨rfl, HB1.out⟩
  · rw [if_neg hsw]
    have hse : (seat == who) = false := by rw [beq_eq_false_iff_ne]; exact hsw
    clear hsw
    go_enter Try.func38, Try.ntmps38
    go_wp2_with fail
    refine q.mono ?_
    clear q f0 f1 f2 hV
    rintro e w1 ⟨rfl, hb⟩
    have HB1 : Hid (Below w.heap.size w w1) := HB0.out.trans (hb.mono HB0.out.size)
    clear hb
    go_wp2
    go_ret
    exact ⟨rfl, HB1.out⟩

set_option maxHeartbeats 4000000 in
theorem l15Asked_c (sa : Option Addr) (sn sc : Nat) (la : Option Addr) (ln lc : Nat) (t : TbV) (who word : Int) (w : World) (h : RdT w sa sn sc la ln lc t) :
    Calls Try.prog 37 #[.agg #[.int .i64 t.s, .slice sa sn sc, .slice la ln lc], .int .i64 who, .int .i64 word] w fun e w' => e = .returned (.bool (askB t who word)) ∧ Below w.heap.size w w' := by
  have HX0 : Hid (X3 (w.alloc (.cells #[.int .i64 t.s, .slice sa sn sc, .slice la ln lc] 26)) w.heap.size (.int .i64 t.s) (.slice sa sn sc) (.slice la ln lc)) := x3_new w _ _ _ _ _ rfl
  have HB0 : Hid (Below w.heap.size w (w.alloc (.cells #[.int .i64 t.s, .slice sa sn sc, .slice la ln lc] 26))) := balloc w _
  have HR : Hid (∀ wx, Below w.heap.size w wx → RdT wx sa sn sc la ln lc t) := fun wx hb => h.later hb
  obtain ⟨V, hV⟩ : ∃ V, w.alloc (.cells #[.int .i64 t.s, .slice sa sn sc, .slice la ln lc] 26) = V := ⟨_, rfl⟩
  rw [hV] at HX0 HB0
  have q := specGoodTb_c sa sn sc la ln lc t V (HR.out V HB0.out)
  have hgt := fun h => goodTb_iff t h
  unfold askB
  obtain ⟨⟨f0, f1, f2⟩, _⟩ := HX0.out
  have HX : Hid (X3 V w.heap.size (.int .i64 t.s) (.slice sa sn sc) (.slice la ln lc)) := HX0.out
  cases hgd : goodTb t
  · rw [Bool.false_and]
    rw [hgd] at q
    generalize t.s = s at hV f0 q ⊢
    clear h hgt hgd HX0 HX HR
    go_enter Try.func37, Try.ntmps37
    go_wp2_with fail
    refine q.mono ?_
    clear q f0 f1 f2 hV
    rintro e w1 ⟨rfl, hb⟩
    have HB1 : Hid (Below w.heap.size w w1) := HB0.out.trans (hb.mono HB0.out.size)
    clear hb
    go_wp2
    go_ret
    exact ⟨rfl, HB1.out⟩
  rw [Bool.true_and]
  rw [hgd] at q
  have hg := hgt hgd
  have hs1 := hg.s1
  have hs6 := hg.s6
  have q2 := fun wx => l1In_c who (-1) (t.s - 1) wx
  have e2 : decide (-1 ≤ who ∧ who ≤ t.s - 1) = inB who (-1) (t.s - 1) := rfl
  rw [e2] at q2
  clear e2 hgt hgd hg h HX0 HR
  generalize t.s = s at hV f0 q q2 hs1 hs6 HX ⊢
  have hwr : IntKind.i64.wrap (s - 1) = s - 1 := by rw [IntKind.wrap_i64]; omega
  have q3 := fun wx => l15Byte_c word wx
  generalize inB who (-1) (s - 1) = z1 at q2 ⊢
  generalize byB word = z2 at q3 ⊢
  cases z1
  · rw [Bool.false_and]
    go_enter Try.func37, Try.ntmps37
    go_wp2_with fail
    refine q.mono ?_
    clear q f0 f1 f2 hV
    rintro e w1 ⟨rfl, hb⟩
    have HB1 : Hid (Below w.heap.size w w1) := HB0.out.trans (hb.mono HB0.out.size)
    obtain ⟨⟨f0, f1, f2⟩, _⟩ := HX.out.later hb
    clear hb
    go_wp2_with fail
    refine (q2 _).mono ?_
    clear q2 f0 f1 f2
    rintro e w2 ⟨rfl, hw⟩
    have hw2 := hw.symm
    clear hw
    subst hw2
    go_wp2
    go_ret
    exact ⟨rfl, HB1.out⟩
  rw [Bool.true_and]
  go_enter Try.func37, Try.ntmps37
  go_wp2_with fail
  refine q.mono ?_
  clear q f0 f1 f2 hV
  rintro e w1 ⟨rfl, hb⟩
  have HB1 : Hid (Below w.heap.size w w1) := HB0.out.trans (hb.mono HB0.out.size)
  obtain ⟨⟨f0, f1, f2⟩, _⟩ := HX.out.later hb
  clear hb
  go_wp2_with fail
  refine (q2 _).mono ?_
  clear q2 f0 f1 f2
  rintro e w2 ⟨rfl, hw⟩
  have hw2 := hw.symm
  clear hw
  subst hw2
  go_wp2_with fail
  refine (q3 _).mono ?_
  clear q3
  rintro e w2 ⟨rfl, hw⟩
  have hw2 := hw.symm
  clear hw
  subst hw2
  go_wp2
  go_ret
  exact ⟨rfl, HB1.out⟩

set_option maxHeartbeats 8000000 in
theorem specAll_c (sa : Option Addr) (sn sc : Nat) (la : Option Addr) (ln lc : Nat) (t : TbV) (who word : Int) (w : World) (h : RdT w sa sn sc la ln lc t) :
    Calls Try.prog 7 #[.agg #[.int .i64 t.s, .slice sa sn sc, .slice la ln lc], .int .i64 who, .int .i64 word] w fun e w' => TellI e w w' (allV t who word) (askB t who word) := by
  have HX0 : Hid (X3 (w.alloc (.cells #[.int .i64 t.s, .slice sa sn sc, .slice la ln lc] 26)) w.heap.size (.int .i64 t.s) (.slice sa sn sc) (.slice la ln lc)) := x3_new w _ _ _ _ _ rfl
  have HB0 : Hid (Below w.heap.size w (w.alloc (.cells #[.int .i64 t.s, .slice sa sn sc, .slice la ln lc] 26))) := balloc w _
  have HR : Hid (∀ wx, Below w.heap.size w wx → RdT wx sa sn sc la ln lc t) := fun wx hb => h.later hb
  obtain ⟨V, hV⟩ : ∃ V, w.alloc (.cells #[.int .i64 t.s, .slice sa sn sc, .slice la ln lc] 26) = V := ⟨_, rfl⟩
  rw [hV] at HX0 HB0
  have q := l15Asked_c sa sn sc la ln lc t who word V (HR.out V HB0.out)
  have HX : Hid (X3 V w.heap.size (.int .i64 t.s) (.slice sa sn sc) (.slice la ln lc)) := HX0.out
  obtain ⟨⟨f0, f1, f2⟩, _⟩ := HX0.out
  unfold allV
  cases hak : askB t who word
  · rw [if_neg (by simp)]
    rw [hak] at q
    generalize t.s = s at hV f0 q ⊢
    clear h hak HX HX0 HR
    go_enter Try.func7, Try.ntmps7
    go_wp2_with fail
    refine q.mono ?_
    clear q f0 f1 f2 hV
    rintro e w1 ⟨rfl, hb⟩
    have HB1 : Hid (Below w.heap.size w w1) := HB0.out.trans (hb.mono HB0.out.size)
    clear hb
    go_wp2
    refine bodyPost_ret (v := .tuple #[.slice none 0 0, .bool false]) (by simp [results, Try.results7, go_sem]; try rfl) rfl ?_
    exact tellI_none HB1.out
  rw [if_pos rfl]
  rw [hak] at q
  have hk2 : goodTb t = true ∧ inB who (-1) (t.s - 1) = true ∧ byB word = true := by unfold askB at hak; rw [Bool.and_eq_true, Bool.and_eq_true] at hak; exact hak
  have hg := goodTb_iff t hk2.1
  have HQS : Hid (∀ wx (i : Nat), Below w.heap.size w wx → Calls Try.prog 38 #[.agg #[.int .i64 t.s, .slice sa sn sc, .slice la ln lc], .int .i64 i, .int .i64 who, .int .i64 word] wx fun e w' => e = .returned (.int .i64 (sayS t i who word)) ∧ Below wx.heap.size wx w') := fun wx i hb => l15Say_c sa sn sc la ln lc t i who word wx (HR.out wx hb) hg hk2.2.2
  obtain ⟨n, hn⟩ : ∃ n : Nat, t.s = (n : Int) := ⟨t.s.toNat, by have := hg.s1; omega⟩
  have hn6 : n ≤ 6 := by have := hg.s6; omega
  have HGT : Hid (∀ i, i < n → (sayL t (wordsL t who word)).getD i 0 = sayS t i who word) := fun i hi => sayS_get hg (by have := inB_iff.1 hk2.2.1; omega) hk2.2.2 (by rw [hn]; simpa using hi)
  have HLN : Hid ((sayL t (wordsL t who word)).length = n) := by show _ = _; rw [sayL_length, hn]; simp
  rw [hn] at hV f0 q HX HQS ⊢
  generalize sayL t (wordsL t who word) = zs at HGT HLN ⊢
  clear h hak hk2 hg hn HX0 HR
  go_enter Try.func7, Try.ntmps7
  go_wp2_with fail
  refine q.mono ?_
  clear q f0 f1 f2 hV
  rintro e w1 ⟨rfl, hb⟩
  have HB1 : Hid (Below w.heap.size w w1) := HB0.out.trans (hb.mono HB0.out.size)
  have HX1 : Hid (X3 w1 w.heap.size (.int .i64 n) (.slice sa sn sc) (.slice la ln lc)) := HX.out.later hb
  have HV1 : Hid (w.heap.size < w1.heap.size) := Nat.lt_of_lt_of_le HX.out.lt hb.size
  clear hb HX HB0
  go_wp2
  go_loopw [8, 9] (fun ov iv wr => ∃ (k : Nat) (a' : Option Addr) (c' : Nat), k ≤ n ∧ iv = .int .i64 k ∧ ov = .slice a' k c' ∧ Hid (Own wr w1.heap.size (.slice a' k c') (zs.take k)) ∧ Hid (Below w.heap.size w wr) ∧ Hid (X3 wr w.heap.size (.int .i64 n) (.slice sa sn sc) (.slice la ln lc)) ∧ w1.heap.size ≤ wr.heap.size) (fun _ iv _ => n - (intOf iv).toNat)
  case atStart => exact ⟨0, none, 0, Nat.zero_le _, rfl, rfl, World.ownsRow_nil _ _ _ _, HB1, HX1, Nat.le_refl _⟩
  case round =>
    clear HB1 HX1
    obtain ⟨k, a1, c1, hk, rfl, rfl, HO, HB, HX, hsz⟩ := hrel
    obtain ⟨⟨f0, f1, f2⟩, _⟩ := HX.out
    by_cases hlt : k < n
    case neg =>
      obtain rfl : k = n := by omega
      have HE : Hid (Own wr w.heap.size (.slice a1 k c1) zs) := by
        have := HO.out
        rw [List.take_of_length_le (by rw [HLN.out]; exact Nat.le_refl _)] at this
        exact this.mono (by have := HV1.out; omega)
      clear HO
      go_wp2
      refine bodyPost_ret (v := .tuple #[.slice a1 k c1, .bool true]) (by simp [results, Try.results7, go_sem]; try rfl) rfl ?_
      exact ⟨a1, c1, by rw [HLN.out], by rw [HLN.out]; exact HE.out, HB.out⟩
    have hkl : k < zs.length := by rw [HLN.out]; exact hlt
    have htk : zs.take (k + 1) = zs.take k ++ [zs.getD k 0] := take_snoc 0 hkl
    rw [HGT.out k hlt] at htk
    have HTK : Hid (zs.take (k + 1) = zs.take k ++ [sayS t k who word]) := htk
    have htl : (zs.take k).length = k := by rw [List.length_take]; omega
    have HTL : Hid ((zs.take k).length = k) := htl
    have q := HQS.out wr k HB.out
    generalize sayS t k who word = x at q HTK
    have k1 : (k : Int) < (n : Int) := by omega
    clear hkl htk htl
    go_wp2_with fail
    refine q.mono ?_
    clear q f0 f1 f2
    rintro e w2 ⟨rfl, hb⟩
    have hlit := litI w2 x
    have hbl := balloc w2 (.cells #[.int .i64 x] 3)
    obtain ⟨U, hU⟩ : ∃ X, w2.alloc (.cells #[.int .i64 x] 3) = X := ⟨_, rfl⟩
    rw [hU] at hlit hbl
    have hb2 : Below wr.heap.size wr U := hb.trans (hbl.mono hb.size)
    obtain ⟨v', w3, r1, o1, gg, b1⟩ := appendI_run U w1.heap.size (.slice a1 k c1) (zs.take k) [x] (some ⟨w2.heap.size, 0, none⟩) 1 1 (HO.out.later hb2) hlit rfl (by intro h; cases h) (by rw [HTL.out]; simp; omega) (by have := hb2.size; omega)
    obtain ⟨a3, c3, hv3⟩ := o1.shape
    rw [List.length_append, HTL.out] at hv3
    simp only [List.length_cons, List.length_nil, Nat.zero_add] at hv3
    subst hv3
    have HO3 : Hid (Own w3 w1.heap.size (.slice a3 (k + 1) c3) (zs.take (k + 1))) := by show Own _ _ _ _; rw [HTK.out]; exact o1
    have HB3 : Hid (Below w.heap.size w w3) := (HB.out.trans (hb2.mono HB.out.size)).trans (b1.mono (by have := HV1.out; omega))
    have HX3 : Hid (X3 w3 w.heap.size (.int .i64 n) (.slice sa sn sc) (.slice la ln lc)) := (HX.out.later hb2).grown gg (fun e => by have := own_block_ge HO.out _ e.symm; have := HV1.out; omega)
    have hsz3 : w1.heap.size ≤ w3.heap.size := Nat.le_trans hsz (Nat.le_trans hb2.size b1.size)
    clear o1 gg b1 hb hbl hlit hb2 HO HB HX
    go_wp2_with (first | (at_builtin; refine Lib.wpList_append_run _ rfl _ _ _ _ rfl _ _ rfl rfl _ _ (r1 _) ?_; clear r1))
    go_roundw
    case rel => exact ⟨k + 1, a3, c3, by omega, by go_num, rfl, HO3, HB3, HX3, hsz3⟩
    case measure => simp [intOf]; omega

end Go.Proofs.Ytbjpkklonjlmiaa
