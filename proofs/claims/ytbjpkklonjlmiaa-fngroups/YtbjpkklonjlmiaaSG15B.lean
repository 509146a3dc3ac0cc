/- Chapter 15: GoodTable of the specification, walked. -/
import Derived.Test.YtbjpkklonjlmiaaSG15
namespace Go.Proofs.Ytbjpkklonjlmiaa
set_option linter.unusedVariables false
set_option maxRecDepth 1000000
set_option linter.unusedSimpArgs false
open Go.RowKit Go.Sort

theorem takeSG15 {P : Program} {ops : Array Oper} {Q : Exit → Act → World → Prop} {md : Region.Mode} {S : World → Prop} {i : Nat} {oi : Oper} {v : Value} {d : Option Tmp} {fuel : Nat} {listed : Array Bool} {a : Act} {w : World} (hi : ops[i]? = some oi) (hd : oi.dst = d)
    (hs : Region.noSelect ops = true) (hf : Region.free md ops listed i = true) (hr : (Region.ready md ops listed).contains i = true)
    (hQ : ∀ c a w, Q (.panic c) (a.put d v) w → Q (.panic c) a w) (hy : YieldsIf P ops S oi v a) (hS : S w)
    (h : wpAnyH P md ops Q S fuel (listed.setIfInBounds i true) (a.put d v) w) : wpAnyH P md ops Q S (fuel + 1) listed a w := by
  subst hd
  exact wpAnyH_take hi hs hf hr hQ hy hS h

theorem l1In_g (x lo hi : Int) (w : World) : Calls Try.prog 43 #[.int .i64 x, .int .i64 lo, .int .i64 hi] w fun e w' => e = .returned (.bool (inB x lo hi)) ∧ ∃ q os', w' = grow (w.drewN q) os' := by
  refine (l1In_c x lo hi w).mono ?_
  rintro e w' ⟨rfl, hw⟩
  subst hw
  exact ⟨rfl, 0, #[], by rw [grow_empty]; rfl⟩

set_option maxHeartbeats 16000000 in
theorem specGoodTb_c (sa : Option Addr) (sn sc : Nat) (la : Option Addr) (ln lc : Nat) (t : TbV) (w : World) (h : RdT w sa sn sc la ln lc t) :
    Calls Try.prog 10 #[.agg #[.int .i64 t.s, .slice sa sn sc, .slice la ln lc]] w fun e w' => e = .returned (.bool (goodTb t)) ∧ Below w.heap.size w w' := by
  obtain ⟨hi, hhi⟩ : ∃ hi, IntKind.i64.wrap (t.s - 1) = hi := ⟨_, rfl⟩
  have hG := goodTb_spec t hi (fun hs => by have := inB_iff.1 hs; rw [← hhi, IntKind.wrap_i64]; omega)
  have mixed : Try.prog.follows .mixedOrders = true := by kernel_rfl
  have HX0 : Hid (X3 (w.alloc (.cells #[.int .i64 t.s, .slice sa sn sc, .slice la ln lc] 26)) w.heap.size (.int .i64 t.s) (.slice sa sn sc) (.slice la ln lc)) := x3_new w _ _ _ _ _ rfl
  have HB0 : Hid (Below w.heap.size w (w.alloc (.cells #[.int .i64 t.s, .slice sa sn sc, .slice la ln lc] 26))) := balloc w _
  have HR : Hid (∀ wx, Below w.heap.size w wx → RdT wx sa sn sc la ln lc t) := fun wx hb => h.later hb
  have hpl := h.rd.sl
  have hcl := h.rd.ll
  have HPL : Hid (t.ps.length = sn) := hpl
  have HCL : Hid (t.cs.length = ln) := hcl
  rw [hpl, hcl] at hG
  have HG : Hid (goodTb t = ((List.range sn).all (okAt hi t.ps) && (inB t.s 1 6 && (decide (sn ≤ 15) && (decide (ln = sn) && t.cs.all byB))))) := hG
  have HF : Hid (∀ k, k < sn → okAt hi t.ps k = false → goodTb t = false) := fun k hk hf => by
    rw [HG.out, show (List.range sn).all (okAt hi t.ps) = false from List.all_eq_false.2 ⟨k, List.mem_range.2 hk, by rw [hf]; simp⟩, Bool.false_and]
  have HT : Hid ((∀ j, j < sn → okAt hi t.ps j = true) → goodTb t = (inB t.s 1 6 && (decide (sn ≤ 15) && (decide (ln = sn) && t.cs.all byB)))) := fun hf => by
    rw [HG.out, show (List.range sn).all (okAt hi t.ps) = true from List.all_eq_true.2 (fun j hj => hf j (List.mem_range.1 hj)), Bool.true_and]
  have HRL : Hid (∀ l ∈ t.ps, l.length ≤ 17592186044416) := h.rl
  have hpn := h.pn
  have hcn := h.cn
  have hcap := h.rd.cp
  have Q3 : Hid (∀ wx, Below w.heap.size w wx → Calls Try.prog 45 #[.slice la ln lc, .int .i64 0, .int .i64 255] wx fun e w' => e = .returned (.bool (t.cs.all byB)) ∧ w' = wx) := fun wx hb => by
    have := l1All_c la ln lc 0 255 t.cs wx hcl h.cn (HR.out wx hb).rd.l
    rw [allIn_by] at this
    exact this
  clear hG HG h hpl hcl
  generalize goodTb t = zb at HF HT ⊢
  generalize t.s = s at HX0 HB0 hhi HT ⊢
  generalize t.cs.all byB = zc at HT Q3
  have HWi : Hid (IntKind.i64.wrap (s - 1) = hi) := hhi
  clear hhi
  obtain ⟨V, hV⟩ : ∃ V, w.alloc (.cells #[.int .i64 s, .slice sa sn sc, .slice la ln lc] 26) = V := ⟨_, rfl⟩
  rw [hV] at HX0 HB0
  obtain ⟨⟨f0, f1, f2⟩, _⟩ := HX0.out
  go_enter Try.func10, Try.ntmps10
  go_wp2_with fail
  clear f0 f1 f2 hV
  go_loopw [10] (fun iv wr => ∃ k : Nat, k ≤ sn ∧ iv = .int .i64 k ∧ Hid (∀ j, j < k → okAt hi t.ps j = true) ∧ Hid (Below w.heap.size w wr) ∧ Hid (X3 wr w.heap.size (.int .i64 s) (.slice sa sn sc) (.slice la ln lc))) (fun iv _ => sn - (intOf iv).toNat)
  case atStart => exact ⟨0, Nat.zero_le _, rfl, fun j h => absurd h (by omega), HB0, HX0⟩
  case round =>
    clear HX0 HB0
    obtain ⟨k, hk, rfl, HS, HB, HX⟩ := hrel
    by_cases hlt : k < sn
    case neg =>
      obtain rfl : k = sn := by omega
      have HZ := HT.out HS.out
      have HZB : Hid (zb = (inB s 1 6 && (decide (k ≤ 15) && (decide (ln = k) && zc)))) := HZ
      clear HZ
      obtain ⟨⟨f0, f1, f2⟩, _⟩ := HX.out
      have q1 := l1In_c s 1 6 wr
      have hin : decide (1 ≤ s ∧ s ≤ 6) = inB s 1 6 := rfl
      rw [hin] at q1
      cases hi1 : inB s 1 6
      · rw [hi1] at q1
        have HE : Hid ((false : Bool) = zb) := by show _ = _; rw [HZB.out, hi1]; rfl
        clear hi1
        go_wp2_with fail
        refine q1.mono ?_
        rintro e w1 ⟨rfl, hw⟩
        subst hw
        go_wp2
        go_ret
        exact ⟨ret_bool HE.out, HB.out⟩
      rw [hi1] at q1
      by_cases h15 : k ≤ 15
      case neg =>
        have HE : Hid ((false : Bool) = zb) := by show _ = _; rw [HZB.out, hi1, decide_eq_false h15]; rfl
        have h15z : ¬ (k : Int) ≤ 15 := by omega
        clear hi1
        go_wp2_with fail
        refine q1.mono ?_
        rintro e w1 ⟨rfl, hw⟩
        subst hw
        go_wp2
        go_ret
        exact ⟨ret_bool HE.out, HB.out⟩
      have h15z : (k : Int) ≤ 15 := by omega
      by_cases hnn : ln = k
      case neg =>
        have HE : Hid ((false : Bool) = zb) := by show _ = _; rw [HZB.out, hi1, decide_eq_true h15, decide_eq_false hnn]; rfl
        have hne : ((ln : Int) == (k : Int)) = false := by rw [beq_eq_false_iff_ne]; omega
        clear hi1
        go_wp2_with fail
        refine q1.mono ?_
        rintro e w1 ⟨rfl, hw⟩
        subst hw
        go_wp2
        go_ret
        exact ⟨ret_bool HE.out, HB.out⟩
      have hne : ((ln : Int) == (k : Int)) = true := by rw [beq_iff_eq]; omega
      have HE : Hid (zc = zb) := by show _ = _; rw [HZB.out, hi1, decide_eq_true h15, decide_eq_true hnn]; rfl
      have q3 := Q3.out wr HB.out
      clear hi1 hnn
      go_wp2_with fail
      refine q1.mono ?_
      rintro e w1 ⟨rfl, hw⟩
      subst hw
      go_wp2_with fail
      refine q3.mono ?_
      rintro e w1 ⟨rfl, hw⟩
      subst hw
      go_wp2
      go_ret
      exact ⟨ret_bool HE.out, HB.out⟩
    have hkl : k < t.ps.length := by rw [HPL.out]; exact hlt
    obtain ⟨b, o, ro, rc, hsa, g0, hro⟩ := (HR.out wr HB.out).rd.s.ii.get hkl
    have hlk := HRL.out _ (mem_getD [] hkl)
    have k0 : (0 : Int) ≤ (k : Int) := by omega
    have k1 : (k : Int) < (sn : Int) := by omega
    have kc : (k : Int) ≤ (sc : Int) := by omega
    have HFK : Hid (okAt hi t.ps k = false → zb = false) := HF.out k hlt
    have HOK : Hid (okAt hi t.ps k = (pairH hi (t.ps.getD k []) && newAt t.ps k)) := rfl
    have HNW : Hid (newAt t.ps k = !decide (t.ps.getD k [] ∈ t.ps.take k)) := newAt_eq _ _
    generalize hp : t.ps.getD k [] = p at g0 hro hlk HOK HNW
    obtain ⟨pn, hpn2⟩ : ∃ pn, p.length = pn := ⟨_, rfl⟩
    rw [hpn2] at g0 hlk
    have hPH : pairH hi p = (decide (pn = 2) && (inB (p.getD 0 0) 0 hi && (inB (p.getD 1 0) 0 hi && decide (p.getD 0 0 < p.getD 1 0)))) := by unfold pairH; rw [hpn2]
    have HPH : Hid (pairH hi p = (decide (pn = 2) && (inB (p.getD 0 0) 0 hi && (inB (p.getD 1 0) 0 hi && decide (p.getD 0 0 < p.getD 1 0))))) := hPH
    obtain ⟨⟨f0, f1, f2⟩, _⟩ := HX.out
    have HPN : Hid (p.length = pn) := hpn2
    have HRO : Hid (Rd wr ro p) := hro
    subst hsa
    have hxl := HX.out.lt
    clear hp hpn2 hPH hro hkl
    have wi := HWi.out
    by_cases h2 : pn = 2
    case neg =>
      have HE : Hid ((false : Bool) = zb) := (HFK.out (by rw [HOK.out, HPH.out, decide_eq_false h2]; rfl)).symm
      have h2z : ((pn : Int) != 2) = true := by rw [bne_iff_ne]; omega
      go_wp2_with fail
      obtain ⟨D, hD⟩ : ∃ D, wr.drew = D := ⟨_, rfl⟩
      have hbD : Below wr.heap.size wr D := by rw [← hD]; exact (Below.refl _ _).drew
      have d0 := cell_keep (S := 0) hbD f0
      refine wp_region_held_drew (S := (fun X => X.cell? ⟨w.heap.size, 0, none⟩ = some (.int .i64 s))) (by kernel_rfl) ?_ (fun hHeld => ?_)
      · (try rw [hD]); exact d0
      rw [hD] at hHeld ⊢
      refine takeSG15 (i := 0) (oi := _) (v := ?_) (d := some 15) rfl (by kernel_rfl) (by kernel_rfl) (by kernel_rfl) (by kernel_rfl) (fun _ _ _ h => h) (Or.inl ⟨by rfl, ?_⟩) (by assumption) ?_
      rotate_left
      · (intro w hSw; (try dsimp only at hSw); go_simp <;> with_reducible rfl)
      try simp only [Act.put, List.setIfInBounds_toArray, List.set_cons_zero, List.set_cons_succ]
      refine takeSG15 (i := 1) (oi := _) (v := ?_) (d := some 16) rfl (by kernel_rfl) (by kernel_rfl) (by kernel_rfl) (by kernel_rfl) (fun _ _ _ h => h) (Or.inl ⟨by rfl, ?_⟩) (by assumption) ?_
      rotate_left
      · (intro w hSw; (try dsimp only at hSw); go_simp <;> with_reducible rfl)
      try simp only [Act.put, List.setIfInBounds_toArray, List.set_cons_zero, List.set_cons_succ]
      refine takeSG15 (i := 2) (oi := _) (v := ?_) (d := some 17) rfl (by kernel_rfl) (by kernel_rfl) (by kernel_rfl) (by kernel_rfl) (fun _ _ _ h => h) (Or.inl ⟨by rfl, ?_⟩) (by assumption) ?_
      rotate_left
      · (intro w hSw; (try dsimp only at hSw); go_simp <;> with_reducible rfl)
      try simp only [Act.put, List.setIfInBounds_toArray, List.set_cons_zero, List.set_cons_succ]
      refine takeSG15 (i := 3) (oi := _) (v := ?_) (d := some 18) rfl (by kernel_rfl) (by kernel_rfl) (by kernel_rfl) (by kernel_rfl) (fun _ _ _ h => h) (Or.inl ⟨by rfl, ?_⟩) (by assumption) ?_
      rotate_left
      · (intro w hSw; (try dsimp only at hSw); go_simp <;> with_reducible rfl)
      try simp only [Act.put, List.setIfInBounds_toArray, List.set_cons_zero, List.set_cons_succ]
      refine takeSG15 (i := 4) (oi := _) (v := undef) (d := some 19) rfl (by kernel_rfl) (by kernel_rfl) (by kernel_rfl) (by kernel_rfl) (fun _ _ _ h => h) (Or.inr ⟨by rfl, rfl⟩) (by assumption) ?_
      try simp only [Act.put, List.setIfInBounds_toArray, List.set_cons_zero, List.set_cons_succ]
      refine takeSG15 (i := 5) (oi := _) (v := undef) (d := some 20) rfl (by kernel_rfl) (by kernel_rfl) (by kernel_rfl) (by kernel_rfl) (fun _ _ _ h => h) (Or.inr ⟨by rfl, rfl⟩) (by assumption) ?_
      try simp only [Act.put, List.setIfInBounds_toArray, List.set_cons_zero, List.set_cons_succ]
      refine takeSG15 (i := 6) (oi := _) (v := undef) (d := some 21) rfl (by kernel_rfl) (by kernel_rfl) (by kernel_rfl) (by kernel_rfl) (fun _ _ _ h => h) (Or.inr ⟨by rfl, rfl⟩) (by assumption) ?_
      try simp only [Act.put, List.setIfInBounds_toArray, List.set_cons_zero, List.set_cons_succ]
      refine takeSG15 (i := 7) (oi := _) (v := undef) (d := some 22) rfl (by kernel_rfl) (by kernel_rfl) (by kernel_rfl) (by kernel_rfl) (fun _ _ _ h => h) (Or.inr ⟨by rfl, rfl⟩) (by assumption) ?_
      try simp only [Act.put, List.setIfInBounds_toArray, List.set_cons_zero, List.set_cons_succ]
      refine takeSG15 (i := 8) (oi := _) (v := undef) (d := some 23) rfl (by kernel_rfl) (by kernel_rfl) (by kernel_rfl) (by kernel_rfl) (fun _ _ _ h => h) (Or.inr ⟨by rfl, rfl⟩) (by assumption) ?_
      try simp only [Act.put, List.setIfInBounds_toArray, List.set_cons_zero, List.set_cons_succ]
      refine takeSG15 (i := 9) (oi := _) (v := undef) (d := some 24) rfl (by kernel_rfl) (by kernel_rfl) (by kernel_rfl) (by kernel_rfl) (fun _ _ _ h => h) (Or.inr ⟨by rfl, rfl⟩) (by assumption) ?_
      try simp only [Act.put, List.setIfInBounds_toArray, List.set_cons_zero, List.set_cons_succ]
      refine takeSG15 (i := 10) (oi := _) (v := undef) (d := some 25) rfl (by kernel_rfl) (by kernel_rfl) (by kernel_rfl) (by kernel_rfl) (fun _ _ _ h => h) (Or.inr ⟨by rfl, rfl⟩) (by assumption) ?_
      try simp only [Act.put, List.setIfInBounds_toArray, List.set_cons_zero, List.set_cons_succ]
      refine takeSG15 (i := 11) (oi := _) (v := undef) (d := some 26) rfl (by kernel_rfl) (by kernel_rfl) (by kernel_rfl) (by kernel_rfl) (fun _ _ _ h => h) (Or.inr ⟨by rfl, rfl⟩) (by assumption) ?_
      try simp only [Act.put, List.setIfInBounds_toArray, List.set_cons_zero, List.set_cons_succ]
      refine takeSG15 (i := 12) (oi := _) (v := ?_) (d := some 27) rfl (by kernel_rfl) (by kernel_rfl) (by kernel_rfl) (by kernel_rfl) (fun _ _ _ h => h) (Or.inl ⟨by rfl, ?_⟩) (by assumption) ?_
      rotate_left
      · (intro w hSw; (try dsimp only at hSw); go_simp <;> with_reducible rfl)
      try simp only [Act.put, List.setIfInBounds_toArray, List.set_cons_zero, List.set_cons_succ]
      refine takeSG15 (i := 13) (oi := _) (v := ?_) (d := some 28) rfl (by kernel_rfl) (by kernel_rfl) (by kernel_rfl) (by kernel_rfl) (fun _ _ _ h => h) (Or.inl ⟨by rfl, ?_⟩) (by assumption) ?_
      rotate_left
      · (intro w hSw; (try dsimp only at hSw); go_simp <;> with_reducible rfl)
      try simp only [Act.put, List.setIfInBounds_toArray, List.set_cons_zero, List.set_cons_succ]
      refine takeSG15 (i := 14) (oi := _) (v := undef) (d := some 29) rfl (by kernel_rfl) (by kernel_rfl) (by kernel_rfl) (by kernel_rfl) (fun _ _ _ h => h) (Or.inr ⟨by rfl, rfl⟩) (by assumption) ?_
      try simp only [Act.put, List.setIfInBounds_toArray, List.set_cons_zero, List.set_cons_succ]
      refine takeSG15 (i := 15) (oi := _) (v := undef) (d := some 30) rfl (by kernel_rfl) (by kernel_rfl) (by kernel_rfl) (by kernel_rfl) (fun _ _ _ h => h) (Or.inr ⟨by rfl, rfl⟩) (by assumption) ?_
      try simp only [Act.put, List.setIfInBounds_toArray, List.set_cons_zero, List.set_cons_succ]
      refine takeSG15 (i := 16) (oi := _) (v := undef) (d := some 31) rfl (by kernel_rfl) (by kernel_rfl) (by kernel_rfl) (by kernel_rfl) (fun _ _ _ h => h) (Or.inr ⟨by rfl, rfl⟩) (by assumption) ?_
      try simp only [Act.put, List.setIfInBounds_toArray, List.set_cons_zero, List.set_cons_succ]
      refine takeSG15 (i := 17) (oi := _) (v := undef) (d := some 32) rfl (by kernel_rfl) (by kernel_rfl) (by kernel_rfl) (by kernel_rfl) (fun _ _ _ h => h) (Or.inr ⟨by rfl, rfl⟩) (by assumption) ?_
      try simp only [Act.put, List.setIfInBounds_toArray, List.set_cons_zero, List.set_cons_succ]
      refine takeSG15 (i := 18) (oi := _) (v := undef) (d := some 33) rfl (by kernel_rfl) (by kernel_rfl) (by kernel_rfl) (by kernel_rfl) (fun _ _ _ h => h) (Or.inr ⟨by rfl, rfl⟩) (by assumption) ?_
      try simp only [Act.put, List.setIfInBounds_toArray, List.set_cons_zero, List.set_cons_succ]
      refine takeSG15 (i := 19) (oi := _) (v := undef) (d := some 34) rfl (by kernel_rfl) (by kernel_rfl) (by kernel_rfl) (by kernel_rfl) (fun _ _ _ h => h) (Or.inr ⟨by rfl, rfl⟩) (by assumption) ?_
      try simp only [Act.put, List.setIfInBounds_toArray, List.set_cons_zero, List.set_cons_succ]
      refine takeSG15 (i := 20) (oi := _) (v := undef) (d := some 35) rfl (by kernel_rfl) (by kernel_rfl) (by kernel_rfl) (by kernel_rfl) (fun _ _ _ h => h) (Or.inr ⟨by rfl, rfl⟩) (by assumption) ?_
      try simp only [Act.put, List.setIfInBounds_toArray, List.set_cons_zero, List.set_cons_succ]
      refine takeSG15 (i := 21) (oi := _) (v := undef) (d := some 36) rfl (by kernel_rfl) (by kernel_rfl) (by kernel_rfl) (by kernel_rfl) (fun _ _ _ h => h) (Or.inr ⟨by rfl, rfl⟩) (by assumption) ?_
      try simp only [Act.put, List.setIfInBounds_toArray, List.set_cons_zero, List.set_cons_succ]
      refine takeSG15 (i := 22) (oi := _) (v := ?_) (d := some 37) rfl (by kernel_rfl) (by kernel_rfl) (by kernel_rfl) (by kernel_rfl) (fun _ _ _ h => h) (Or.inl ⟨by rfl, ?_⟩) (by assumption) ?_
      rotate_left
      · (intro w hSw; (try dsimp only at hSw); go_simp <;> with_reducible rfl)
      try simp only [Act.put, List.setIfInBounds_toArray, List.set_cons_zero, List.set_cons_succ]
      refine takeSG15 (i := 23) (oi := _) (v := ?_) (d := some 38) rfl (by kernel_rfl) (by kernel_rfl) (by kernel_rfl) (by kernel_rfl) (fun _ _ _ h => h) (Or.inl ⟨by rfl, ?_⟩) (by assumption) ?_
      rotate_left
      · (intro w hSw; (try dsimp only at hSw); go_simp <;> with_reducible rfl)
      try simp only [Act.put, List.setIfInBounds_toArray, List.set_cons_zero, List.set_cons_succ]
      refine takeSG15 (i := 24) (oi := _) (v := undef) (d := some 39) rfl (by kernel_rfl) (by kernel_rfl) (by kernel_rfl) (by kernel_rfl) (fun _ _ _ h => h) (Or.inr ⟨by rfl, rfl⟩) (by assumption) ?_
      try simp only [Act.put, List.setIfInBounds_toArray, List.set_cons_zero, List.set_cons_succ]
      refine takeSG15 (i := 25) (oi := _) (v := undef) (d := some 40) rfl (by kernel_rfl) (by kernel_rfl) (by kernel_rfl) (by kernel_rfl) (fun _ _ _ h => h) (Or.inr ⟨by rfl, rfl⟩) (by assumption) ?_
      try simp only [Act.put, List.setIfInBounds_toArray, List.set_cons_zero, List.set_cons_succ]
      refine takeSG15 (i := 26) (oi := _) (v := undef) (d := some 41) rfl (by kernel_rfl) (by kernel_rfl) (by kernel_rfl) (by kernel_rfl) (fun _ _ _ h => h) (Or.inr ⟨by rfl, rfl⟩) (by assumption) ?_
      try simp only [Act.put, List.setIfInBounds_toArray, List.set_cons_zero, List.set_cons_succ]
      refine takeSG15 (i := 27) (oi := _) (v := undef) (d := some 42) rfl (by kernel_rfl) (by kernel_rfl) (by kernel_rfl) (by kernel_rfl) (fun _ _ _ h => h) (Or.inr ⟨by rfl, rfl⟩) (by assumption) ?_
      try simp only [Act.put, List.setIfInBounds_toArray, List.set_cons_zero, List.set_cons_succ]
      refine takeSG15 (i := 28) (oi := _) (v := undef) (d := some 43) rfl (by kernel_rfl) (by kernel_rfl) (by kernel_rfl) (by kernel_rfl) (fun _ _ _ h => h) (Or.inr ⟨by rfl, rfl⟩) (by assumption) ?_
      try simp only [Act.put, List.setIfInBounds_toArray, List.set_cons_zero, List.set_cons_succ]
      refine takeSG15 (i := 29) (oi := _) (v := undef) (d := some 44) rfl (by kernel_rfl) (by kernel_rfl) (by kernel_rfl) (by kernel_rfl) (fun _ _ _ h => h) (Or.inr ⟨by rfl, rfl⟩) (by assumption) ?_
      try simp only [Act.put, List.setIfInBounds_toArray, List.set_cons_zero, List.set_cons_succ]
      refine takeSG15 (i := 30) (oi := _) (v := undef) (d := some 45) rfl (by kernel_rfl) (by kernel_rfl) (by kernel_rfl) (by kernel_rfl) (fun _ _ _ h => h) (Or.inr ⟨by rfl, rfl⟩) (by assumption) ?_
      try simp only [Act.put, List.setIfInBounds_toArray, List.set_cons_zero, List.set_cons_succ]
      refine takeSG15 (i := 31) (oi := _) (v := ?_) (d := some 46) rfl (by kernel_rfl) (by kernel_rfl) (by kernel_rfl) (by kernel_rfl) (fun _ _ _ h => h) (Or.inl ⟨by rfl, ?_⟩) (by assumption) ?_
      rotate_left
      · (intro w hSw; (try dsimp only at hSw); go_simp <;> with_reducible rfl)
      try simp only [Act.put, List.setIfInBounds_toArray, List.set_cons_zero, List.set_cons_succ]
      refine wpAnyH_done (by kernel_rfl) ?_ _
      clear hHeld
      go_wp2
      go_ret
      exact ⟨ret_bool HE.out, HB.out.trans (hbD.mono HB.out.size)⟩
    subst h2
    obtain ⟨b2, o2, rfl, u0⟩ := HRO.out.get (k := 0) (by rw [HPN.out]; omega)
    obtain ⟨_, _, e, u1⟩ := HRO.out.get (k := 1) (by rw [HPN.out]; omega)
    simp only [Option.some.injEq, Addr.mk.injEq] at e
    obtain ⟨rfl, rfl, _⟩ := e
    rw [Nat.add_zero] at u0
    have hb2 : b2 < wr.heap.size := World.block_lt_of_cell? wr _ u0
    generalize p.getD 0 0 = x at u0 HPH
    generalize p.getD 1 0 = y at u1 HPH
    cases hx : inB x 0 hi
    · have QX : Hid (∀ wx, Calls Try.prog 43 #[.int .i64 x, .int .i64 0, .int .i64 hi] wx fun e w' => e = .returned (.bool false) ∧ w' = wx) := fun wx => by rw [← hx]; exact l1In_c x 0 hi wx
      have HE : Hid ((false : Bool) = zb) := (HFK.out (by rw [HOK.out, HPH.out, hx]; rfl)).symm
      clear hx
      go_wp2_with fail
      obtain ⟨D, hD⟩ : ∃ D, wr.drew = D := ⟨_, rfl⟩
      have hbD : Below wr.heap.size wr D := by rw [← hD]; exact (Below.refl _ _).drew
      have d0 := cell_keep (S := 0) hbD f0
      have d1 := cell_keep (S := 0) hbD u0
      have d2 := cell_keep (S := 0) hbD u1
      refine wp_region_held_drew (S := (fun X => X.cell? ⟨w.heap.size, 0, none⟩ = some (.int .i64 s) ∧ X.cell? ⟨b2, o2, none⟩ = some (.int .i64 x) ∧ X.cell? ⟨b2, o2 + 1, none⟩ = some (.int .i64 y))) (by kernel_rfl) ?_ (fun hHeld => ?_)
      · (try rw [hD]); exact ⟨d0, d1, d2⟩
      rw [hD] at hHeld ⊢
      refine takeSG15 (i := 0) (oi := _) (v := ?_) (d := some 15) rfl (by kernel_rfl) (by kernel_rfl) (by kernel_rfl) (by kernel_rfl) (fun _ _ _ h => h) (Or.inl ⟨by rfl, ?_⟩) (by assumption) ?_
      rotate_left
      · (intro w hSw; (try dsimp only at hSw); go_simp <;> with_reducible rfl)
      try simp only [Act.put, List.setIfInBounds_toArray, List.set_cons_zero, List.set_cons_succ]
      refine takeSG15 (i := 1) (oi := _) (v := ?_) (d := some 16) rfl (by kernel_rfl) (by kernel_rfl) (by kernel_rfl) (by kernel_rfl) (fun _ _ _ h => h) (Or.inl ⟨by rfl, ?_⟩) (by assumption) ?_
      rotate_left
      · (intro w hSw; (try dsimp only at hSw); go_simp <;> with_reducible rfl)
      try simp only [Act.put, List.setIfInBounds_toArray, List.set_cons_zero, List.set_cons_succ]
      refine takeSG15 (i := 2) (oi := _) (v := ?_) (d := some 17) rfl (by kernel_rfl) (by kernel_rfl) (by kernel_rfl) (by kernel_rfl) (fun _ _ _ h => h) (Or.inl ⟨by rfl, ?_⟩) (by assumption) ?_
      rotate_left
      · (intro w hSw; (try dsimp only at hSw); go_simp <;> with_reducible rfl)
      try simp only [Act.put, List.setIfInBounds_toArray, List.set_cons_zero, List.set_cons_succ]
      refine takeSG15 (i := 3) (oi := _) (v := ?_) (d := some 18) rfl (by kernel_rfl) (by kernel_rfl) (by kernel_rfl) (by kernel_rfl) (fun _ _ _ h => h) (Or.inl ⟨by rfl, ?_⟩) (by assumption) ?_
      rotate_left
      · (intro w hSw; (try dsimp only at hSw); go_simp <;> with_reducible rfl)
      try simp only [Act.put, List.setIfInBounds_toArray, List.set_cons_zero, List.set_cons_succ]
      refine takeSG15 (i := 4) (oi := _) (v := ?_) (d := some 19) rfl (by kernel_rfl) (by kernel_rfl) (by kernel_rfl) (by kernel_rfl) (fun _ _ _ h => h) (Or.inl ⟨by rfl, ?_⟩) (by assumption) ?_
      rotate_left
      · (intro w hSw; (try dsimp only at hSw); go_simp <;> with_reducible rfl)
      try simp only [Act.put, List.setIfInBounds_toArray, List.set_cons_zero, List.set_cons_succ]
      refine takeSG15 (i := 5) (oi := _) (v := ?_) (d := some 20) rfl (by kernel_rfl) (by kernel_rfl) (by kernel_rfl) (by kernel_rfl) (fun _ _ _ h => h) (Or.inl ⟨by rfl, ?_⟩) (by assumption) ?_
      rotate_left
      · (intro w hSw; (try dsimp only at hSw); go_simp <;> with_reducible rfl)
      try simp only [Act.put, List.setIfInBounds_toArray, List.set_cons_zero, List.set_cons_succ]
      refine takeSG15 (i := 6) (oi := _) (v := ?_) (d := some 21) rfl (by kernel_rfl) (by kernel_rfl) (by kernel_rfl) (by kernel_rfl) (fun _ _ _ h => h) (Or.inl ⟨by rfl, ?_⟩) (by assumption) ?_
      rotate_left
      · (intro w hSw; (try dsimp only at hSw); go_simp <;> with_reducible rfl)
      try simp only [Act.put, List.setIfInBounds_toArray, List.set_cons_zero, List.set_cons_succ]
      refine takeSG15 (i := 7) (oi := _) (v := ?_) (d := some 22) rfl (by kernel_rfl) (by kernel_rfl) (by kernel_rfl) (by kernel_rfl) (fun _ _ _ h => h) (Or.inl ⟨by rfl, ?_⟩) (by assumption) ?_
      rotate_left
      · (intro w hSw; (try dsimp only at hSw); go_simp <;> with_reducible rfl)
      try simp only [Act.put, List.setIfInBounds_toArray, List.set_cons_zero, List.set_cons_succ]
      refine takeSG15 (i := 8) (oi := _) (v := ?_) (d := some 23) rfl (by kernel_rfl) (by kernel_rfl) (by kernel_rfl) (by kernel_rfl) (fun _ _ _ h => h) (Or.inl ⟨by rfl, ?_⟩) (by assumption) ?_
      rotate_left
      · (intro w hSw; (try dsimp only at hSw); go_simp <;> with_reducible rfl)
      try simp only [Act.put, List.setIfInBounds_toArray, List.set_cons_zero, List.set_cons_succ]
      refine takeSG15 (i := 9) (oi := _) (v := ?_) (d := some 24) rfl (by kernel_rfl) (by kernel_rfl) (by kernel_rfl) (by kernel_rfl) (fun _ _ _ h => h) (Or.inl ⟨by rfl, ?_⟩) (by assumption) ?_
      rotate_left
      · (intro w hSw; (try dsimp only at hSw); go_simp <;> with_reducible rfl)
      try simp only [Act.put, List.setIfInBounds_toArray, List.set_cons_zero, List.set_cons_succ]
      refine wpAnyH_ready (rs := [10]) (by kernel_rfl) (by simp) ?_
      refine AllReadyH.cons (o := _) rfl (fun K hK => ?_) AllReadyH.nil
      go_simp
      refine (QX.out D).mono ?_
      rintro e wq ⟨rfl, hw⟩
      have hw2 := hw.symm
      clear hw
      subst hw2
      refine hK.out _ _ ?_ (fun hHeld => ?_)
      · exact ⟨d0, d1, d2⟩
      clear hK K
      try simp only [Act.put, List.setIfInBounds_toArray, List.set_cons_zero, List.set_cons_succ]
      refine takeSG15 (i := 11) (oi := _) (v := ?_) (d := some 26) rfl (by kernel_rfl) (by kernel_rfl) (by kernel_rfl) (by kernel_rfl) (fun _ _ _ h => h) (Or.inl ⟨by rfl, ?_⟩) (by assumption) ?_
      rotate_left
      · (intro w hSw; (try dsimp only at hSw); go_simp <;> with_reducible rfl)
      try simp only [Act.put, List.setIfInBounds_toArray, List.set_cons_zero, List.set_cons_succ]
      refine takeSG15 (i := 12) (oi := _) (v := ?_) (d := some 27) rfl (by kernel_rfl) (by kernel_rfl) (by kernel_rfl) (by kernel_rfl) (fun _ _ _ h => h) (Or.inl ⟨by rfl, ?_⟩) (by assumption) ?_
      rotate_left
      · (intro w hSw; (try dsimp only at hSw); go_simp <;> with_reducible rfl)
      try simp only [Act.put, List.setIfInBounds_toArray, List.set_cons_zero, List.set_cons_succ]
      refine takeSG15 (i := 13) (oi := _) (v := ?_) (d := some 28) rfl (by kernel_rfl) (by kernel_rfl) (by kernel_rfl) (by kernel_rfl) (fun _ _ _ h => h) (Or.inl ⟨by rfl, ?_⟩) (by assumption) ?_
      rotate_left
      · (intro w hSw; (try dsimp only at hSw); go_simp <;> with_reducible rfl)
      try simp only [Act.put, List.setIfInBounds_toArray, List.set_cons_zero, List.set_cons_succ]
      refine takeSG15 (i := 14) (oi := _) (v := undef) (d := some 29) rfl (by kernel_rfl) (by kernel_rfl) (by kernel_rfl) (by kernel_rfl) (fun _ _ _ h => h) (Or.inr ⟨by rfl, rfl⟩) (by assumption) ?_
      try simp only [Act.put, List.setIfInBounds_toArray, List.set_cons_zero, List.set_cons_succ]
      refine takeSG15 (i := 15) (oi := _) (v := undef) (d := some 30) rfl (by kernel_rfl) (by kernel_rfl) (by kernel_rfl) (by kernel_rfl) (fun _ _ _ h => h) (Or.inr ⟨by rfl, rfl⟩) (by assumption) ?_
      try simp only [Act.put, List.setIfInBounds_toArray, List.set_cons_zero, List.set_cons_succ]
      refine takeSG15 (i := 16) (oi := _) (v := undef) (d := some 31) rfl (by kernel_rfl) (by kernel_rfl) (by kernel_rfl) (by kernel_rfl) (fun _ _ _ h => h) (Or.inr ⟨by rfl, rfl⟩) (by assumption) ?_
      try simp only [Act.put, List.setIfInBounds_toArray, List.set_cons_zero, List.set_cons_succ]
      refine takeSG15 (i := 17) (oi := _) (v := undef) (d := some 32) rfl (by kernel_rfl) (by kernel_rfl) (by kernel_rfl) (by kernel_rfl) (fun _ _ _ h => h) (Or.inr ⟨by rfl, rfl⟩) (by assumption) ?_
      try simp only [Act.put, List.setIfInBounds_toArray, List.set_cons_zero, List.set_cons_succ]
      refine takeSG15 (i := 18) (oi := _) (v := undef) (d := some 33) rfl (by kernel_rfl) (by kernel_rfl) (by kernel_rfl) (by kernel_rfl) (fun _ _ _ h => h) (Or.inr ⟨by rfl, rfl⟩) (by assumption) ?_
      try simp only [Act.put, List.setIfInBounds_toArray, List.set_cons_zero, List.set_cons_succ]
      refine takeSG15 (i := 19) (oi := _) (v := undef) (d := some 34) rfl (by kernel_rfl) (by kernel_rfl) (by kernel_rfl) (by kernel_rfl) (fun _ _ _ h => h) (Or.inr ⟨by rfl, rfl⟩) (by assumption) ?_
      try simp only [Act.put, List.setIfInBounds_toArray, List.set_cons_zero, List.set_cons_succ]
      refine takeSG15 (i := 20) (oi := _) (v := undef) (d := some 35) rfl (by kernel_rfl) (by kernel_rfl) (by kernel_rfl) (by kernel_rfl) (fun _ _ _ h => h) (Or.inr ⟨by rfl, rfl⟩) (by assumption) ?_
      try simp only [Act.put, List.setIfInBounds_toArray, List.set_cons_zero, List.set_cons_succ]
      refine takeSG15 (i := 21) (oi := _) (v := undef) (d := some 36) rfl (by kernel_rfl) (by kernel_rfl) (by kernel_rfl) (by kernel_rfl) (fun _ _ _ h => h) (Or.inr ⟨by rfl, rfl⟩) (by assumption) ?_
      try simp only [Act.put, List.setIfInBounds_toArray, List.set_cons_zero, List.set_cons_succ]
      refine takeSG15 (i := 22) (oi := _) (v := ?_) (d := some 37) rfl (by kernel_rfl) (by kernel_rfl) (by kernel_rfl) (by kernel_rfl) (fun _ _ _ h => h) (Or.inl ⟨by rfl, ?_⟩) (by assumption) ?_
      rotate_left
      · (intro w hSw; (try dsimp only at hSw); go_simp <;> with_reducible rfl)
      try simp only [Act.put, List.setIfInBounds_toArray, List.set_cons_zero, List.set_cons_succ]
      refine takeSG15 (i := 23) (oi := _) (v := ?_) (d := some 38) rfl (by kernel_rfl) (by kernel_rfl) (by kernel_rfl) (by kernel_rfl) (fun _ _ _ h => h) (Or.inl ⟨by rfl, ?_⟩) (by assumption) ?_
      rotate_left
      · (intro w hSw; (try dsimp only at hSw); go_simp <;> with_reducible rfl)
      try simp only [Act.put, List.setIfInBounds_toArray, List.set_cons_zero, List.set_cons_succ]
      refine takeSG15 (i := 24) (oi := _) (v := undef) (d := some 39) rfl (by kernel_rfl) (by kernel_rfl) (by kernel_rfl) (by kernel_rfl) (fun _ _ _ h => h) (Or.inr ⟨by rfl, rfl⟩) (by assumption) ?_
      try simp only [Act.put, List.setIfInBounds_toArray, List.set_cons_zero, List.set_cons_succ]
      refine takeSG15 (i := 25) (oi := _) (v := undef) (d := some 40) rfl (by kernel_rfl) (by kernel_rfl) (by kernel_rfl) (by kernel_rfl) (fun _ _ _ h => h) (Or.inr ⟨by rfl, rfl⟩) (by assumption) ?_
      try simp only [Act.put, List.setIfInBounds_toArray, List.set_cons_zero, List.set_cons_succ]
      refine takeSG15 (i := 26) (oi := _) (v := undef) (d := some 41) rfl (by kernel_rfl) (by kernel_rfl) (by kernel_rfl) (by kernel_rfl) (fun _ _ _ h => h) (Or.inr ⟨by rfl, rfl⟩) (by assumption) ?_
      try simp only [Act.put, List.setIfInBounds_toArray, List.set_cons_zero, List.set_cons_succ]
      refine takeSG15 (i := 27) (oi := _) (v := undef) (d := some 42) rfl (by kernel_rfl) (by kernel_rfl) (by kernel_rfl) (by kernel_rfl) (fun _ _ _ h => h) (Or.inr ⟨by rfl, rfl⟩) (by assumption) ?_
      try simp only [Act.put, List.setIfInBounds_toArray, List.set_cons_zero, List.set_cons_succ]
      refine takeSG15 (i := 28) (oi := _) (v := undef) (d := some 43) rfl (by kernel_rfl) (by kernel_rfl) (by kernel_rfl) (by kernel_rfl) (fun _ _ _ h => h) (Or.inr ⟨by rfl, rfl⟩) (by assumption) ?_
      try simp only [Act.put, List.setIfInBounds_toArray, List.set_cons_zero, List.set_cons_succ]
      refine takeSG15 (i := 29) (oi := _) (v := undef) (d := some 44) rfl (by kernel_rfl) (by kernel_rfl) (by kernel_rfl) (by kernel_rfl) (fun _ _ _ h => h) (Or.inr ⟨by rfl, rfl⟩) (by assumption) ?_
      try simp only [Act.put, List.setIfInBounds_toArray, List.set_cons_zero, List.set_cons_succ]
      refine takeSG15 (i := 30) (oi := _) (v := undef) (d := some 45) rfl (by kernel_rfl) (by kernel_rfl) (by kernel_rfl) (by kernel_rfl) (fun _ _ _ h => h) (Or.inr ⟨by rfl, rfl⟩) (by assumption) ?_
      try simp only [Act.put, List.setIfInBounds_toArray, List.set_cons_zero, List.set_cons_succ]
      refine takeSG15 (i := 31) (oi := _) (v := ?_) (d := some 46) rfl (by kernel_rfl) (by kernel_rfl) (by kernel_rfl) (by kernel_rfl) (fun _ _ _ h => h) (Or.inl ⟨by rfl, ?_⟩) (by assumption) ?_
      rotate_left
      · (intro w hSw; (try dsimp only at hSw); go_simp <;> with_reducible rfl)
      try simp only [Act.put, List.setIfInBounds_toArray, List.set_cons_zero, List.set_cons_succ]
      refine wpAnyH_done (by kernel_rfl) ?_ _
      clear hHeld
      go_wp2
      go_ret
      exact ⟨ret_bool HE.out, HB.out.trans (hbD.mono HB.out.size)⟩
    cases hy : inB y 0 hi
    · have QX : Hid (∀ wx, Calls Try.prog 43 #[.int .i64 x, .int .i64 0, .int .i64 hi] wx fun e w' => e = .returned (.bool true) ∧ w' = wx) := fun wx => by rw [← hx]; exact l1In_c x 0 hi wx
      have QY : Hid (∀ wx, Calls Try.prog 43 #[.int .i64 y, .int .i64 0, .int .i64 hi] wx fun e w' => e = .returned (.bool false) ∧ w' = wx) := fun wx => by rw [← hy]; exact l1In_c y 0 hi wx
      have HE : Hid ((false : Bool) = zb) := (HFK.out (by rw [HOK.out, HPH.out, hx, hy]; rfl)).symm
      clear hx hy
      go_wp2_with fail
      obtain ⟨D, hD⟩ : ∃ D, wr.drew = D := ⟨_, rfl⟩
      have hbD : Below wr.heap.size wr D := by rw [← hD]; exact (Below.refl _ _).drew
      have d0 := cell_keep (S := 0) hbD f0
      have d1 := cell_keep (S := 0) hbD u0
      have d2 := cell_keep (S := 0) hbD u1
      refine wp_region_held_drew (S := (fun X => X.cell? ⟨w.heap.size, 0, none⟩ = some (.int .i64 s) ∧ X.cell? ⟨b2, o2, none⟩ = some (.int .i64 x) ∧ X.cell? ⟨b2, o2 + 1, none⟩ = some (.int .i64 y))) (by kernel_rfl) ?_ (fun hHeld => ?_)
      · (try rw [hD]); exact ⟨d0, d1, d2⟩
      rw [hD] at hHeld ⊢
      refine takeSG15 (i := 0) (oi := _) (v := ?_) (d := some 15) rfl (by kernel_rfl) (by kernel_rfl) (by kernel_rfl) (by kernel_rfl) (fun _ _ _ h => h) (Or.inl ⟨by rfl, ?_⟩) (by assumption) ?_
      rotate_left
      · (intro w hSw; (try dsimp only at hSw); go_simp <;> with_reducible rfl)
      try simp only [Act.put, List.setIfInBounds_toArray, List.set_cons_zero, List.set_cons_succ]
      refine takeSG15 (i := 1) (oi := _) (v := ?_) (d := some 16) rfl (by kernel_rfl) (by kernel_rfl) (by kernel_rfl) (by kernel_rfl) (fun _ _ _ h => h) (Or.inl ⟨by rfl, ?_⟩) (by assumption) ?_
      rotate_left
      · (intro w hSw; (try dsimp only at hSw); go_simp <;> with_reducible rfl)
      try simp only [Act.put, List.setIfInBounds_toArray, List.set_cons_zero, List.set_cons_succ]
      refine takeSG15 (i := 2) (oi := _) (v := ?_) (d := some 17) rfl (by kernel_rfl) (by kernel_rfl) (by kernel_rfl) (by kernel_rfl) (fun _ _ _ h => h) (Or.inl ⟨by rfl, ?_⟩) (by assumption) ?_
      rotate_left
      · (intro w hSw; (try dsimp only at hSw); go_simp <;> with_reducible rfl)
      try simp only [Act.put, List.setIfInBounds_toArray, List.set_cons_zero, List.set_cons_succ]
      refine takeSG15 (i := 3) (oi := _) (v := ?_) (d := some 18) rfl (by kernel_rfl) (by kernel_rfl) (by kernel_rfl) (by kernel_rfl) (fun _ _ _ h => h) (Or.inl ⟨by rfl, ?_⟩) (by assumption) ?_
      rotate_left
      · (intro w hSw; (try dsimp only at hSw); go_simp <;> with_reducible rfl)
      try simp only [Act.put, List.setIfInBounds_toArray, List.set_cons_zero, List.set_cons_succ]
      refine takeSG15 (i := 4) (oi := _) (v := ?_) (d := some 19) rfl (by kernel_rfl) (by kernel_rfl) (by kernel_rfl) (by kernel_rfl) (fun _ _ _ h => h) (Or.inl ⟨by rfl, ?_⟩) (by assumption) ?_
      rotate_left
      · (intro w hSw; (try dsimp only at hSw); go_simp <;> with_reducible rfl)
      try simp only [Act.put, List.setIfInBounds_toArray, List.set_cons_zero, List.set_cons_succ]
      refine takeSG15 (i := 5) (oi := _) (v := ?_) (d := some 20) rfl (by kernel_rfl) (by kernel_rfl) (by kernel_rfl) (by kernel_rfl) (fun _ _ _ h => h) (Or.inl ⟨by rfl, ?_⟩) (by assumption) ?_
      rotate_left
      · (intro w hSw; (try dsimp only at hSw); go_simp <;> with_reducible rfl)
      try simp only [Act.put, List.setIfInBounds_toArray, List.set_cons_zero, List.set_cons_succ]
      refine takeSG15 (i := 6) (oi := _) (v := ?_) (d := some 21) rfl (by kernel_rfl) (by kernel_rfl) (by kernel_rfl) (by kernel_rfl) (fun _ _ _ h => h) (Or.inl ⟨by rfl, ?_⟩) (by assumption) ?_
      rotate_left
      · (intro w hSw; (try dsimp only at hSw); go_simp <;> with_reducible rfl)
      try simp only [Act.put, List.setIfInBounds_toArray, List.set_cons_zero, List.set_cons_succ]
      refine takeSG15 (i := 7) (oi := _) (v := ?_) (d := some 22) rfl (by kernel_rfl) (by kernel_rfl) (by kernel_rfl) (by kernel_rfl) (fun _ _ _ h => h) (Or.inl ⟨by rfl, ?_⟩) (by assumption) ?_
      rotate_left
      · (intro w hSw; (try dsimp only at hSw); go_simp <;> with_reducible rfl)
      try simp only [Act.put, List.setIfInBounds_toArray, List.set_cons_zero, List.set_cons_succ]
      refine takeSG15 (i := 8) (oi := _) (v := ?_) (d := some 23) rfl (by kernel_rfl) (by kernel_rfl) (by kernel_rfl) (by kernel_rfl) (fun _ _ _ h => h) (Or.inl ⟨by rfl, ?_⟩) (by assumption) ?_
      rotate_left
      · (intro w hSw; (try dsimp only at hSw); go_simp <;> with_reducible rfl)
      try simp only [Act.put, List.setIfInBounds_toArray, List.set_cons_zero, List.set_cons_succ]
      refine takeSG15 (i := 9) (oi := _) (v := ?_) (d := some 24) rfl (by kernel_rfl) (by kernel_rfl) (by kernel_rfl) (by kernel_rfl) (fun _ _ _ h => h) (Or.inl ⟨by rfl, ?_⟩) (by assumption) ?_
      rotate_left
      · (intro w hSw; (try dsimp only at hSw); go_simp <;> with_reducible rfl)
      try simp only [Act.put, List.setIfInBounds_toArray, List.set_cons_zero, List.set_cons_succ]
      refine wpAnyH_ready (rs := [10]) (by kernel_rfl) (by simp) ?_
      refine AllReadyH.cons (o := _) rfl (fun K hK => ?_) AllReadyH.nil
      go_simp
      refine (QX.out D).mono ?_
      rintro e wq ⟨rfl, hw⟩
      have hw2 := hw.symm
      clear hw
      subst hw2
      refine hK.out _ _ ?_ (fun hHeld => ?_)
      · exact ⟨d0, d1, d2⟩
      clear hK K
      try simp only [Act.put, List.setIfInBounds_toArray, List.set_cons_zero, List.set_cons_succ]
      refine takeSG15 (i := 11) (oi := _) (v := ?_) (d := some 26) rfl (by kernel_rfl) (by kernel_rfl) (by kernel_rfl) (by kernel_rfl) (fun _ _ _ h => h) (Or.inl ⟨by rfl, ?_⟩) (by assumption) ?_
      rotate_left
      · (intro w hSw; (try dsimp only at hSw); go_simp <;> with_reducible rfl)
      try simp only [Act.put, List.setIfInBounds_toArray, List.set_cons_zero, List.set_cons_succ]
      refine takeSG15 (i := 12) (oi := _) (v := ?_) (d := some 27) rfl (by kernel_rfl) (by kernel_rfl) (by kernel_rfl) (by kernel_rfl) (fun _ _ _ h => h) (Or.inl ⟨by rfl, ?_⟩) (by assumption) ?_
      rotate_left
      · (intro w hSw; (try dsimp only at hSw); go_simp <;> with_reducible rfl)
      try simp only [Act.put, List.setIfInBounds_toArray, List.set_cons_zero, List.set_cons_succ]
      refine takeSG15 (i := 13) (oi := _) (v := ?_) (d := some 28) rfl (by kernel_rfl) (by kernel_rfl) (by kernel_rfl) (by kernel_rfl) (fun _ _ _ h => h) (Or.inl ⟨by rfl, ?_⟩) (by assumption) ?_
      rotate_left
      · (intro w hSw; (try dsimp only at hSw); go_simp <;> with_reducible rfl)
      try simp only [Act.put, List.setIfInBounds_toArray, List.set_cons_zero, List.set_cons_succ]
      refine takeSG15 (i := 14) (oi := _) (v := ?_) (d := some 29) rfl (by kernel_rfl) (by kernel_rfl) (by kernel_rfl) (by kernel_rfl) (fun _ _ _ h => h) (Or.inl ⟨by rfl, ?_⟩) (by assumption) ?_
      rotate_left
      · (intro w hSw; (try dsimp only at hSw); go_simp <;> with_reducible rfl)
      try simp only [Act.put, List.setIfInBounds_toArray, List.set_cons_zero, List.set_cons_succ]
      refine takeSG15 (i := 15) (oi := _) (v := ?_) (d := some 30) rfl (by kernel_rfl) (by kernel_rfl) (by kernel_rfl) (by kernel_rfl) (fun _ _ _ h => h) (Or.inl ⟨by rfl, ?_⟩) (by assumption) ?_
      rotate_left
      · (intro w hSw; (try dsimp only at hSw); go_simp <;> with_reducible rfl)
      try simp only [Act.put, List.setIfInBounds_toArray, List.set_cons_zero, List.set_cons_succ]
      refine takeSG15 (i := 16) (oi := _) (v := ?_) (d := some 31) rfl (by kernel_rfl) (by kernel_rfl) (by kernel_rfl) (by kernel_rfl) (fun _ _ _ h => h) (Or.inl ⟨by rfl, ?_⟩) (by assumption) ?_
      rotate_left
      · (intro w hSw; (try dsimp only at hSw); go_simp <;> with_reducible rfl)
      try simp only [Act.put, List.setIfInBounds_toArray, List.set_cons_zero, List.set_cons_succ]
      refine takeSG15 (i := 17) (oi := _) (v := ?_) (d := some 32) rfl (by kernel_rfl) (by kernel_rfl) (by kernel_rfl) (by kernel_rfl) (fun _ _ _ h => h) (Or.inl ⟨by rfl, ?_⟩) (by assumption) ?_
      rotate_left
      · (intro w hSw; (try dsimp only at hSw); go_simp <;> with_reducible rfl)
      try simp only [Act.put, List.setIfInBounds_toArray, List.set_cons_zero, List.set_cons_succ]
      refine takeSG15 (i := 18) (oi := _) (v := ?_) (d := some 33) rfl (by kernel_rfl) (by kernel_rfl) (by kernel_rfl) (by kernel_rfl) (fun _ _ _ h => h) (Or.inl ⟨by rfl, ?_⟩) (by assumption) ?_
      rotate_left
      · (intro w hSw; (try dsimp only at hSw); go_simp <;> with_reducible rfl)
      try simp only [Act.put, List.setIfInBounds_toArray, List.set_cons_zero, List.set_cons_succ]
      refine takeSG15 (i := 19) (oi := _) (v := ?_) (d := some 34) rfl (by kernel_rfl) (by kernel_rfl) (by kernel_rfl) (by kernel_rfl) (fun _ _ _ h => h) (Or.inl ⟨by rfl, ?_⟩) (by assumption) ?_
      rotate_left
      · (intro w hSw; (try dsimp only at hSw); go_simp <;> with_reducible rfl)
      try simp only [Act.put, List.setIfInBounds_toArray, List.set_cons_zero, List.set_cons_succ]
      refine wpAnyH_ready (rs := [20]) (by kernel_rfl) (by simp) ?_
      refine AllReadyH.cons (o := _) rfl (fun K hK => ?_) AllReadyH.nil
      go_simp
      refine (QY.out D).mono ?_
      rintro e wq ⟨rfl, hw⟩
      have hw2 := hw.symm
      clear hw
      subst hw2
      refine hK.out _ _ ?_ (fun hHeld => ?_)
      · exact ⟨d0, d1, d2⟩
      clear hK K
      try simp only [Act.put, List.setIfInBounds_toArray, List.set_cons_zero, List.set_cons_succ]
      refine takeSG15 (i := 21) (oi := _) (v := ?_) (d := some 36) rfl (by kernel_rfl) (by kernel_rfl) (by kernel_rfl) (by kernel_rfl) (fun _ _ _ h => h) (Or.inl ⟨by rfl, ?_⟩) (by assumption) ?_
      rotate_left
      · (intro w hSw; (try dsimp only at hSw); go_simp <;> with_reducible rfl)
      try simp only [Act.put, List.setIfInBounds_toArray, List.set_cons_zero, List.set_cons_succ]
      refine takeSG15 (i := 22) (oi := _) (v := ?_) (d := some 37) rfl (by kernel_rfl) (by kernel_rfl) (by kernel_rfl) (by kernel_rfl) (fun _ _ _ h => h) (Or.inl ⟨by rfl, ?_⟩) (by assumption) ?_
      rotate_left
      · (intro w hSw; (try dsimp only at hSw); go_simp <;> with_reducible rfl)
      try simp only [Act.put, List.setIfInBounds_toArray, List.set_cons_zero, List.set_cons_succ]
      refine takeSG15 (i := 23) (oi := _) (v := ?_) (d := some 38) rfl (by kernel_rfl) (by kernel_rfl) (by kernel_rfl) (by kernel_rfl) (fun _ _ _ h => h) (Or.inl ⟨by rfl, ?_⟩) (by assumption) ?_
      rotate_left
      · (intro w hSw; (try dsimp only at hSw); go_simp <;> with_reducible rfl)
      try simp only [Act.put, List.setIfInBounds_toArray, List.set_cons_zero, List.set_cons_succ]
      refine takeSG15 (i := 24) (oi := _) (v := undef) (d := some 39) rfl (by kernel_rfl) (by kernel_rfl) (by kernel_rfl) (by kernel_rfl) (fun _ _ _ h => h) (Or.inr ⟨by rfl, rfl⟩) (by assumption) ?_
      try simp only [Act.put, List.setIfInBounds_toArray, List.set_cons_zero, List.set_cons_succ]
      refine takeSG15 (i := 25) (oi := _) (v := undef) (d := some 40) rfl (by kernel_rfl) (by kernel_rfl) (by kernel_rfl) (by kernel_rfl) (fun _ _ _ h => h) (Or.inr ⟨by rfl, rfl⟩) (by assumption) ?_
      try simp only [Act.put, List.setIfInBounds_toArray, List.set_cons_zero, List.set_cons_succ]
      refine takeSG15 (i := 26) (oi := _) (v := undef) (d := some 41) rfl (by kernel_rfl) (by kernel_rfl) (by kernel_rfl) (by kernel_rfl) (fun _ _ _ h => h) (Or.inr ⟨by rfl, rfl⟩) (by assumption) ?_
      try simp only [Act.put, List.setIfInBounds_toArray, List.set_cons_zero, List.set_cons_succ]
      refine takeSG15 (i := 27) (oi := _) (v := undef) (d := some 42) rfl (by kernel_rfl) (by kernel_rfl) (by kernel_rfl) (by kernel_rfl) (fun _ _ _ h => h) (Or.inr ⟨by rfl, rfl⟩) (by assumption) ?_
      try simp only [Act.put, List.setIfInBounds_toArray, List.set_cons_zero, List.set_cons_succ]
      refine takeSG15 (i := 28) (oi := _) (v := undef) (d := some 43) rfl (by kernel_rfl) (by kernel_rfl) (by kernel_rfl) (by kernel_rfl) (fun _ _ _ h => h) (Or.inr ⟨by rfl, rfl⟩) (by assumption) ?_
      try simp only [Act.put, List.setIfInBounds_toArray, List.set_cons_zero, List.set_cons_succ]
      refine takeSG15 (i := 29) (oi := _) (v := undef) (d := some 44) rfl (by kernel_rfl) (by kernel_rfl) (by kernel_rfl) (by kernel_rfl) (fun _ _ _ h => h) (Or.inr ⟨by rfl, rfl⟩) (by assumption) ?_
      try simp only [Act.put, List.setIfInBounds_toArray, List.set_cons_zero, List.set_cons_succ]
      refine takeSG15 (i := 30) (oi := _) (v := undef) (d := some 45) rfl (by kernel_rfl) (by kernel_rfl) (by kernel_rfl) (by kernel_rfl) (fun _ _ _ h => h) (Or.inr ⟨by rfl, rfl⟩) (by assumption) ?_
      try simp only [Act.put, List.setIfInBounds_toArray, List.set_cons_zero, List.set_cons_succ]
      refine takeSG15 (i := 31) (oi := _) (v := ?_) (d := some 46) rfl (by kernel_rfl) (by kernel_rfl) (by kernel_rfl) (by kernel_rfl) (fun _ _ _ h => h) (Or.inl ⟨by rfl, ?_⟩) (by assumption) ?_
      rotate_left
      · (intro w hSw; (try dsimp only at hSw); go_simp <;> with_reducible rfl)
      try simp only [Act.put, List.setIfInBounds_toArray, List.set_cons_zero, List.set_cons_succ]
      refine wpAnyH_done (by kernel_rfl) ?_ _
      clear hHeld
      go_wp2
      go_ret
      exact ⟨ret_bool HE.out, HB.out.trans (hbD.mono HB.out.size)⟩
    have r0 := fun n os => cell_grown (w := wr) hxl f0 n os
    have r3 := fun n os => cell_grown (w := wr) hb2 u0 n os
    have r4 := fun n os => cell_grown (w := wr) hb2 u1 n os
    have qx := fun (n : Nat) (os : Array Obj) => l1In_g x 0 hi (grow (wr.drewN n) os)
    have qy := fun (n : Nat) (os : Array Obj) => l1In_g y 0 hi (grow (wr.drewN n) os)
    rw [hx] at qx
    clear u0 u1
    rw [hy] at qy
    by_cases hxy : x < y
    case neg =>
      have HE : Hid ((false : Bool) = zb) := (HFK.out (by rw [HOK.out, HPH.out, hx, hy, decide_eq_false hxy]; rfl)).symm
      have hge : decide (x ≥ y) = true := decide_eq_true (by omega)
      clear hx hy
      go_wp2_with fail
      go_quiet_grown (first | (go_at_call 43; first | (with_reducible refine Calls.grown_of (qx _ _)) | (with_reducible refine Calls.grown_of (qy _ _))) | fail)
      go_wp2
      go_ret
      exact ⟨ret_bool HE.out, HB.out.trans ((GrW.below ⟨nq, osq, rfl⟩).mono HB.out.size)⟩
    have hge : decide (x ≥ y) = false := decide_eq_false (by omega)
    have HOK2 : Hid (okAt hi t.ps k = !decide (p ∈ t.ps.take k)) := by show _ = _; rw [HOK.out, HPH.out, hx, hy, decide_eq_true hxy, HNW.out]; rfl
    clear hx hy HPH
    go_wp2_with fail
    go_quiet_grown (first | (go_at_call 43; first | (with_reducible refine Calls.grown_of (qx _ _)) | (with_reducible refine Calls.grown_of (qy _ _))) | fail)
    have hbg : Below wr.heap.size wr (grow (wr.drewN nq) osq) := GrW.below ⟨nq, osq, rfl⟩
    generalize grow (wr.drewN nq) osq = w2 at hbg ⊢
    have HB2 : Hid (Below w.heap.size w w2) := HB.out.trans (hbg.mono HB.out.size)
    have HX2 : Hid (X3 w2 w.heap.size (.int .i64 s) (.slice (some ⟨b, o, none⟩) sn sc) (.slice la ln lc)) := HX.out.later hbg
    have HP2 : Hid (Rd w2 (some ⟨b2, o2, none⟩) p) := HRO.out.later hbg
    clear r0 r3 r4 qx qy f0 f1 f2 g0 hbg HX HB HRO nq osq hge
    obtain ⟨⟨f0, f1, f2⟩, _⟩ := HX2.out
    go_wp2_with fail
    clear f0 f1 f2
    go_loopw [52] (fun jv w3 => ∃ j : Nat, j ≤ k ∧ jv = .int .i64 j ∧ Hid (p ∉ t.ps.take j) ∧ Hid (Below w2.heap.size w2 w3)) (fun jv _ => k - (intOf jv).toNat)
    case atStart => exact ⟨0, Nat.zero_le _, rfl, by show _ ∉ _; simp, Below.refl _ _⟩
    case round =>
      obtain ⟨j, hj, rfl, HNJ, HB3⟩ := hrel
      have HB4 : Hid (Below w.heap.size w wr) := HB2.out.trans (HB3.out.mono HB2.out.size)
      by_cases hjk : j < k
      · have hjl : j < t.ps.length := by rw [HPL.out]; omega
        obtain ⟨_, _, so, sc2, e, g0, hso⟩ := (HR.out wr HB4.out).rd.s.ii.get hjl
        simp only [Option.some.injEq, Addr.mk.injEq] at e
        obtain ⟨rfl, rfl, _⟩ := e
        have j0 : (0 : Int) ≤ (j : Int) := by omega
        have j1 : (j : Int) < (k : Int) := by omega
        have hjn := HRL.out _ (mem_getD [] hjl)
        have q := l1Same_c (some ⟨b2, o2, none⟩) so 2 (t.ps.getD j []).length rc sc2 p (t.ps.getD j []) wr HPN.out rfl (by omega) hjn (HP2.out.later HB3.out) hso
        have hno : p ≠ t.ps.getD j [] → p ∉ t.ps.take (j + 1) := fun h => by
          rw [take_snoc [] hjl, List.mem_append, List.mem_singleton]
          rintro (h2 | h2)
          · exact HNJ.out h2
          · exact h h2
        have hyes : p = t.ps.getD j [] → p ∈ t.ps.take k := fun h => by
          rw [h]
          have hl2 : j < (t.ps.take k).length := by rw [List.length_take]; omega
          have e2 : (t.ps.take k).getD j [] = t.ps.getD j [] := by simp [List.getD, List.getElem?_take, hjk]
          rw [← e2]; exact mem_getD [] hl2
        generalize (t.ps.getD j []).length = jn at g0 q
        by_cases hpe : p = t.ps.getD j []
        · rw [decide_eq_true hpe] at q
          have HE : Hid ((false : Bool) = zb) := (HFK.out (by rw [HOK2.out, decide_eq_true (hyes hpe)]; rfl)).symm
          clear hno hyes hpe hso hjl
          go_wp2_with fail
          refine q.mono ?_
          clear q
          rintro e w4 ⟨rfl, hb⟩
          have HB5 : Hid (Below w.heap.size w w4) := HB4.out.trans (hb.mono HB4.out.size)
          clear hb
          go_wp2
          go_ret
          exact ⟨ret_bool HE.out, HB5.out⟩
        · rw [decide_eq_false hpe] at q
          have HNJ2 : Hid (p ∉ t.ps.take (j + 1)) := hno hpe
          clear hno hyes hpe hso hjl
          go_wp2_with fail
          refine q.mono ?_
          clear q
          rintro e w4 ⟨rfl, hb⟩
          have HB5 : Hid (Below w2.heap.size w2 w4) := HB3.out.trans (hb.mono HB3.out.size)
          clear hb
          go_wp2
          go_roundw
          case rel => exact ⟨j + 1, by omega, by go_num, HNJ2, HB5⟩
          case measure => simp [intOf]; omega
      · obtain rfl : j = k := by omega
        have HS2 : Hid (∀ i, i < j + 1 → okAt hi t.ps i = true) := fun i hi2 => by
          by_cases e : i = j
          · rw [e, HOK2.out, decide_eq_false HNJ.out]; rfl
          · exact HS.out i (by omega)
        have HX4 : Hid (X3 wr w.heap.size (.int .i64 s) (.slice (some ⟨b, o, none⟩) sn sc) (.slice la ln lc)) := HX2.out.later HB3.out
        go_wp2
        go_roundw
        case rel => exact ⟨j + 1, by omega, by go_num, HS2, HB4, HX4⟩
        case measure => simp [intOf]; omega

end Go.Proofs.Ytbjpkklonjlmiaa
