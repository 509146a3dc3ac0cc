/- Chapter 15: l15Way of the specification. -/
import Derived.Test.YtbjpkklonjlmiaaSF15
import Derived.Test.YtbjpkklonjlmiaaSFF15
import Derived.Test.YtbjpkklonjlmiaaNW15B
import Derived.Test.YtbjpkklonjlmiaaTS15
namespace Go.Proofs.Ytbjpkklonjlmiaa
set_option linter.unusedVariables false
set_option maxRecDepth 1000000
set_option linter.unusedSimpArgs false
open Go.RowKit Go.Sort

/-- What the search for the next seat keeps: none yet of those before, or the first one. -/
def NxOk (ps : List (List Int)) (far : List Int) (n a s : Nat) (nx : Int) : Prop := (nx = -1 ∧ ∀ j, j < s → okS ps far a j = false) ∨ (∃ q : Nat, nx = q ∧ q < n ∧ okS ps far a q = true ∧ ∀ j, j < q → okS ps far a j = false)

set_option maxHeartbeats 16000000 in
theorem l15Way_c (sa : Option Addr) (sn sc : Nat) (la : Option Addr) (ln lc : Nat) (t : TbV) (a0 b0 n : Nat) (w : World) (h : RdT w sa sn sc la ln lc t) (hg : GoodT t) (hn : t.s = (n : Int)) (ha0 : a0 < n) (hb0 : b0 < n) :
    Calls Try.prog 52 #[.agg #[.int .i64 t.s, .slice sa sn sc, .slice la ln lc], .int .i64 a0, .int .i64 b0] w fun e w' => TellI e w w' (if 0 ≤ (farT t b0).getD a0 0 then wayL t.ps (farT t b0) n a0 else []) (decide (0 ≤ (farT t b0).getD a0 0)) := by
  have HX0 : Hid (X3 (w.alloc (.cells #[.int .i64 t.s, .slice sa sn sc, .slice la ln lc] 26)) w.heap.size (.int .i64 t.s) (.slice sa sn sc) (.slice la ln lc)) := x3_new w _ _ _ _ _ rfl
  have HB0 : Hid (Below w.heap.size w (w.alloc (.cells #[.int .i64 t.s, .slice sa sn sc, .slice la ln lc] 26))) := balloc w _
  have HR : Hid (∀ wx, Below w.heap.size w wx → RdT wx sa sn sc la ln lc t) := fun wx hb => h.later hb
  have HQP : Hid (∀ wx (x y : Int), Below w.heap.size w wx → Calls Try.prog 71 #[.agg #[.int .i64 n, .slice sa sn sc, .slice la ln lc], .int .i64 x, .int .i64 y] wx fun e w' => e = .returned (.int .i64 (prN t.ps x y)) ∧ Below wx.heap.size wx w') := fun wx x y hb => by
    have := l15Pair_c sa sn sc la ln lc t x y wx (HR.out wx hb) hg
    rw [hn] at this; exact this
  have hn6 : n ≤ 6 := by have := hg.s6; omega
  have hok : FarOk (stT t.ps t.ps.length) n b0 n (farT t b0) := by
    have h2 := hg.stB (Nat.le_refl t.ps.length)
    unfold farT farL
    rw [hn, Int.toNat_natCast] at h2 ⊢
    exact farN_ok h2 hb0 n
  have HNK : Hid (∀ i, i < n → 1 ≤ (farT t b0).getD i 0 → ∃ s, s < n ∧ okS t.ps (farT t b0) i s = true) := fun i hi h1 => near_ok hg (by rw [hn]; simp) hok hi h1
  have HZ : Hid (∀ i, i < n → ((farT t b0).getD i 0 = 0 ↔ i = b0)) := hok.z
  have HHI : Hid (∀ i, i < n → -100 ≤ (farT t b0).getD i 0 ∧ (farT t b0).getD i 0 ≤ 100) := fun i hi => ⟨by have := hok.lo i hi; omega, by have := hok.hi i hi; omega⟩
  have HFL : Hid ((farT t b0).length = n) := hok.len
  have HWL : Hid ((wayL t.ps (farT t b0) n a0).length ≤ 6) := by have := wayF_length t.ps (farT t b0) n ((farT t b0).getD a0 0).toNat a0; have := hok.hi a0 ha0; show _ ≤ _; unfold wayL; omega
  obtain ⟨V, hV⟩ : ∃ V, w.alloc (.cells #[.int .i64 t.s, .slice sa sn sc, .slice la ln lc] 26) = V := ⟨_, rfl⟩
  rw [hV] at HX0 HB0
  have q := l15Far_c sa sn sc la ln lc t b0 n V (HR.out V HB0.out) hg hn hb0
  generalize farT t b0 = far at q HNK HZ HHI HFL HWL ⊢
  rw [hn] at HX0 hV q
  obtain ⟨⟨f0, f1, f2⟩, _⟩ := HX0.out
  have hVs : w.heap.size + 1 = V.heap.size := by rw [← hV]; simp
  rw [hn]
  have a00 : (0 : Int) ≤ (a0 : Int) := by omega
  have a01 : (a0 : Int) < (n : Int) := by omega
  clear h hg hn hok HR
  obtain ⟨fa, hfa⟩ : ∃ fa, far.getD a0 0 = fa := ⟨_, rfl⟩
  have HFA : Hid (far.getD a0 0 = fa) := hfa
  simp only [hfa]
  clear hfa
  by_cases hneg : 0 ≤ fa
  case neg =>
    rw [decide_eq_false hneg, if_neg hneg]
    have hlt0 : fa < 0 := by omega
    clear hneg
    go_enter Try.func52, Try.ntmps52
    go_wp2_with fail
    refine q.mono ?_
    clear q f0 f1 f2 hV
    rintro e w1 ⟨a1, c1, rfl, ho, hb⟩
    have HB1 : Hid (Below w.heap.size w w1) := HB0.out.trans (hb.mono HB0.out.size)
    obtain ⟨fb, fo, rfl, ga⟩ := ho.rd'.2.get (k := a0) (by rw [HFL.out]; exact ha0)
    rw [HFA.out] at ga
    clear ho hb
    go_wp2
    refine bodyPost_ret (v := .tuple #[.slice none 0 0, .bool false]) (by simp [results, Try.results52, go_sem]; try rfl) rfl ?_
    exact tellI_none HB1.out
  rw [decide_eq_true hneg, if_pos hneg]
  have hlt0 : ¬ fa < 0 := by omega
  have HF0 : Hid (0 ≤ far.getD a0 0) := by show _ ≤ _; rw [HFA.out]; exact hneg
  clear hneg
  obtain ⟨W, hW⟩ : ∃ W, wayL t.ps far n a0 = W := ⟨_, rfl⟩
  rw [hW] at HWL ⊢
  have HW0 : Hid (([] : List Int) ++ wayL t.ps far n a0 = W) := by show _ = _; rw [List.nil_append]; exact hW
  clear hW
  go_enter Try.func52, Try.ntmps52
  go_wp2_with fail
  refine q.mono ?_
  clear q f0 f1 f2 hV
  rintro e w1 ⟨a1, c1, rfl, ho, hb⟩
  have HB1 : Hid (Below w.heap.size w w1) := HB0.out.trans (hb.mono HB0.out.size)
  have HX1 : Hid (X3 w1 w.heap.size (.int .i64 n) (.slice sa sn sc) (.slice la ln lc)) := HX0.out.later hb
  have HO1 : Hid (Own w1 V.heap.size (.slice a1 n c1) far) := ho
  have hsz1 : V.heap.size ≤ w1.heap.size := hb.size
  obtain ⟨fb, fo, rfl, ga⟩ := ho.rd'.2.get (k := a0) (by rw [HFL.out]; exact ha0)
  rw [HFA.out] at ga
  clear ho hb HX0 HB0
  go_wp2_with fail
  clear ga hlt0 HFA a00 a01
  go_loopw [1, 9] (fun av ov wr => ∃ (a : Nat) (pre : List Int) (a' : Option Addr) (c' : Nat), av = .int .i64 a ∧ ov = .slice a' pre.length c' ∧ a < n ∧ Hid (0 ≤ far.getD a 0) ∧ Hid (pre ++ wayL t.ps far n a = W) ∧ Hid (Own wr w1.heap.size (.slice a' pre.length c') pre) ∧ Hid (Below w1.heap.size w1 wr)) (fun _ ov _ => W.length - lenOf15 ov)
  case atStart => exact ⟨a0, [], none, 0, rfl, rfl, ha0, HF0, HW0, World.ownsRow_nil _ _ _ _, Below.refl _ _⟩
  case round =>
    clear HF0 HW0
    obtain ⟨a, pre, a', c', rfl, rfl, han, HF, HE, HO, HB⟩ := hrel
    by_cases hab : a = b0
    · have hpe : pre = W := by
        have := HE.out
        rw [wayL_end (by have := (HZ.out a han).2 hab; omega), List.append_nil] at this
        exact this
      subst hpe
      have hbe : ((a : Int) != (b0 : Int)) = false := by rw [hab]; simp
      have HE2 : Hid (Own wr w.heap.size (.slice a' pre.length c') pre) := HO.out.mono HB1.out.size
      have HB2 : Hid (Below w.heap.size w wr) := HB1.out.trans (HB.out.mono HB1.out.size)
      clear HF HE HO HB hab
      obtain ⟨pn, hpn⟩ : ∃ pn, pre.length = pn := ⟨_, rfl⟩
      rw [hpn] at HE2 ⊢
      have HPN : Hid (pre.length = pn) := hpn
      clear hpn
      go_wp2
      refine bodyPost_ret (v := .tuple #[.slice a' pn c', .bool true]) (by simp [results, Try.results52, go_sem]; try rfl) rfl ?_
      exact ⟨a', c', by rw [HPN.out], by rw [HPN.out]; exact HE2.out, HB2.out⟩
    have hbe : ((a : Int) != (b0 : Int)) = true := by rw [bne_iff_ne]; omega
    have hf1 : 1 ≤ far.getD a 0 := by have := HF.out; have := HZ.out a han; omega
    have HK : Hid (∃ s, s < n ∧ okS t.ps far a s = true) := HNK.out a han hf1
    have HP1 : Hid (0 < far.getD a 0) := by show _ < _; omega
    have hfb := HHI.out a han
    obtain ⟨_, _, e, ga⟩ := HO1.out.rd'.2.get (k := a) (by rw [HFL.out]; exact han)
    simp only [Option.some.injEq, Addr.mk.injEq, and_true] at e
    obtain ⟨rfl, rfl⟩ := e
    obtain ⟨fv, hfv⟩ : ∃ fv, far.getD a 0 = fv := ⟨_, rfl⟩
    rw [hfv] at ga hfb
    have HFV : Hid (far.getD a 0 = fv) := hfv
    have hwr : IntKind.i64.wrap (fv - 1) = fv - 1 := by rw [IntKind.wrap_i64]; omega
    have an0 : (0 : Int) ≤ (a : Int) := by omega
    have an1 : (a : Int) < (n : Int) := by omega
    clear hab hf1 hfb hfv HF
    go_wp2_with fail
    clear hbe
    go_loopw [10, 11] (fun nv sv wr => ∃ (s : Nat) (nx : Int), s ≤ n ∧ sv = .int .i64 s ∧ nv = .int .i64 nx ∧ Hid (NxOk t.ps far n a s nx) ∧ Hid (Own wr w1.heap.size (.slice a' pre.length c') pre) ∧ Hid (Below w1.heap.size w1 wr)) (fun _ sv _ => n - (intOf sv).toNat)
    case atStart => exact ⟨0, -1, Nat.zero_le _, rfl, rfl, Or.inl ⟨rfl, fun j h => absurd h (by omega)⟩, HO, HB⟩
    case round =>
      clear HO HB
      obtain ⟨s, nx, hs, rfl, rfl, HS, HO, HB⟩ := hrel
      obtain ⟨⟨f0, f1, f2⟩, _⟩ := HX1.out
      rcases HS.out with ⟨rfl, hnone⟩ | ⟨q, rfl, hqn, hq1, hq2⟩
      · have hsn : s < n := by
          rcases Nat.lt_or_ge s n with h | h
          · exact h
          · exfalso
            obtain ⟨j, hj, e⟩ := HK.out
            rw [hnone j (by omega)] at e
            cases e
        have HNO : Hid (∀ j, j < s → okS t.ps far a j = false) := hnone
        obtain ⟨_, _, e, gs⟩ := HO1.out.rd'.2.get (k := s) (by rw [HFL.out]; exact hsn)
        simp only [Option.some.injEq, Addr.mk.injEq, and_true] at e
        obtain ⟨rfl, rfl⟩ := e
        have hok : okS t.ps far a s = (decide (0 ≤ prN t.ps a s) && decide (far.getD s 0 = fv - 1)) := by unfold okS; rw [HFV.out]
        obtain ⟨fs, hfs⟩ : ∃ fs, far.getD s 0 = fs := ⟨_, rfl⟩
        rw [hfs] at gs hok
        obtain ⟨pv, hpn⟩ : ∃ pv, prN t.ps a s = pv := ⟨_, rfl⟩
        rw [hpn] at hok
        have HOK : Hid (okS t.ps far a s = (decide (0 ≤ pv) && decide (fs = fv - 1))) := hok
        have s0 : (0 : Int) ≤ (s : Int) := by omega
        have s1 : (s : Int) < (n : Int) := by omega
        have h0r := cell_keep (S := 0) HB.out f0
        clear hnone hok hfs HS HK
        by_cases hp : 0 ≤ pv
        case neg =>
          have hpg : ¬ pv ≥ 0 := hp
          have HS2 : Hid (NxOk t.ps far n a (s + 1) (-1)) := Or.inl ⟨rfl, fun j hj => by
            by_cases e : j = s
            · rw [e, HOK.out, decide_eq_false hp]; rfl
            · exact HNO.out j (by omega)⟩
          clear hp HNO HOK
          go_wp2_with fail
          obtain ⟨D, hD⟩ : ∃ D, wr.drew = D := ⟨_, rfl⟩
          have hbD : Below wr.heap.size wr D := by rw [← hD]; exact (Below.refl _ _).drew
          have HBD : Hid (Below w1.heap.size w1 D) := HB.out.trans (hbD.mono HB.out.size)
          have HOD : Hid (Own D w1.heap.size (.slice a' pre.length c') pre) := HO.out.later hbD
          have d0 := cell_keep (S := 0) HBD.out f0
          have d1 := cell_keep (S := 0) HBD.out f1
          have d2 := cell_keep (S := 0) HBD.out f2
          have d3 := cell_keep (S := 0) HBD.out gs
          have d4 := cell_keep (S := 0) HBD.out ga
          have hpd : decide (0 ≤ pv) = false := decide_eq_false (by omega)
          refine wp_region_held_drew (S := (fun X => (X.cell? ⟨w.heap.size, 0, none⟩ = some (.int .i64 n) ∧ X.cell? ⟨w.heap.size, 1, none⟩ = some (.slice sa sn sc) ∧ X.cell? ⟨w.heap.size, 2, none⟩ = some (.slice la ln lc)) ∧ X.cell? ⟨fb, fo + s, none⟩ = some (.int .i64 fs) ∧ X.cell? ⟨fb, fo + a, none⟩ = some (.int .i64 fv))) (by kernel_rfl) ?_ (fun hHeld => ?_)
          · (try rw [hD]); exact ⟨⟨d0, d1, d2⟩, d3, d4⟩
          rw [hD] at hHeld ⊢
          clear hD d0 d1 d2 d3 d4
          refine takeSO15 (i := 0) (oi := _) (v := ?_) (d := some 33) rfl (by kernel_rfl) (by kernel_rfl) (by kernel_rfl) (by kernel_rfl) (fun _ _ _ h => h) (Or.inl ⟨by rfl, ?_⟩) (by assumption) ?_
          rotate_left
          · (intro w hSw; (try dsimp only at hSw); go_simp <;> with_reducible rfl)
          try simp only [Act.put, List.setIfInBounds_toArray, List.set_cons_zero, List.set_cons_succ]
          refine takeSO15 (i := 1) (oi := _) (v := ?_) (d := some 34) rfl (by kernel_rfl) (by kernel_rfl) (by kernel_rfl) (by kernel_rfl) (fun _ _ _ h => h) (Or.inl ⟨by rfl, ?_⟩) (by assumption) ?_
          rotate_left
          · (intro w hSw; (try dsimp only at hSw); go_simp <;> with_reducible rfl)
          try simp only [Act.put, List.setIfInBounds_toArray, List.set_cons_zero, List.set_cons_succ]
          refine takeSO15 (i := 2) (oi := _) (v := ?_) (d := some 35) rfl (by kernel_rfl) (by kernel_rfl) (by kernel_rfl) (by kernel_rfl) (fun _ _ _ h => h) (Or.inl ⟨by rfl, ?_⟩) (by assumption) ?_
          rotate_left
          · (intro w hSw; (try dsimp only at hSw); go_simp <;> with_reducible rfl)
          try simp only [Act.put, List.setIfInBounds_toArray, List.set_cons_zero, List.set_cons_succ]
          refine wpAnyH_ready (rs := [3]) (by kernel_rfl) (by simp) ?_
          refine AllReadyH.cons (o := _) rfl (fun K hK => ?_) AllReadyH.nil
          go_simp
          refine (HQP.out D _ _ (HB1.out.trans (HBD.out.mono HB1.out.size))).mono ?_
          rintro e wq ⟨rfl, hb⟩
          have HBQ : Hid (Below w1.heap.size w1 wq) := HBD.out.trans (hb.mono HBD.out.size)
          have HOQ : Hid (Own wq w1.heap.size (.slice a' pre.length c') pre) := HOD.out.later hb
          rw [hpn]
          clear hb
          refine hK.out _ _ ?_ (fun hHeld => ?_)
          · exact ⟨⟨cell_keep (S := 0) HBQ.out f0, cell_keep (S := 0) HBQ.out f1, cell_keep (S := 0) HBQ.out f2⟩, cell_keep (S := 0) HBQ.out gs, cell_keep (S := 0) HBQ.out ga⟩
          clear hK K
          try simp only [Act.put, List.setIfInBounds_toArray, List.set_cons_zero, List.set_cons_succ]
          refine takeSO15 (i := 4) (oi := _) (v := ?_) (d := some 37) rfl (by kernel_rfl) (by kernel_rfl) (by kernel_rfl) (by kernel_rfl) (fun _ _ _ h => h) (Or.inl ⟨by rfl, ?_⟩) (by assumption) ?_
          rotate_left
          · (intro w hSw; (try dsimp only at hSw); go_simp <;> with_reducible rfl)
          try simp only [Act.put, List.setIfInBounds_toArray, List.set_cons_zero, List.set_cons_succ]
          refine takeSO15 (i := 5) (oi := _) (v := ?_) (d := some 38) rfl (by kernel_rfl) (by kernel_rfl) (by kernel_rfl) (by kernel_rfl) (fun _ _ _ h => h) (Or.inl ⟨by rfl, ?_⟩) (by assumption) ?_
          rotate_left
          · (intro w hSw; (try dsimp only at hSw); go_simp <;> with_reducible rfl)
          try simp only [Act.put, List.setIfInBounds_toArray, List.set_cons_zero, List.set_cons_succ]
          refine takeSO15 (i := 6) (oi := _) (v := undef) (d := some 39) rfl (by kernel_rfl) (by kernel_rfl) (by kernel_rfl) (by kernel_rfl) (fun _ _ _ h => h) (Or.inr ⟨by rfl, rfl⟩) (by assumption) ?_
          try simp only [Act.put, List.setIfInBounds_toArray, List.set_cons_zero, List.set_cons_succ]
          refine takeSO15 (i := 7) (oi := _) (v := undef) (d := some 40) rfl (by kernel_rfl) (by kernel_rfl) (by kernel_rfl) (by kernel_rfl) (fun _ _ _ h => h) (Or.inr ⟨by rfl, rfl⟩) (by assumption) ?_
          try simp only [Act.put, List.setIfInBounds_toArray, List.set_cons_zero, List.set_cons_succ]
          refine takeSO15 (i := 8) (oi := _) (v := undef) (d := some 41) rfl (by kernel_rfl) (by kernel_rfl) (by kernel_rfl) (by kernel_rfl) (fun _ _ _ h => h) (Or.inr ⟨by rfl, rfl⟩) (by assumption) ?_
          try simp only [Act.put, List.setIfInBounds_toArray, List.set_cons_zero, List.set_cons_succ]
          refine takeSO15 (i := 9) (oi := _) (v := undef) (d := some 42) rfl (by kernel_rfl) (by kernel_rfl) (by kernel_rfl) (by kernel_rfl) (fun _ _ _ h => h) (Or.inr ⟨by rfl, rfl⟩) (by assumption) ?_
          try simp only [Act.put, List.setIfInBounds_toArray, List.set_cons_zero, List.set_cons_succ]
          refine takeSO15 (i := 10) (oi := _) (v := undef) (d := some 43) rfl (by kernel_rfl) (by kernel_rfl) (by kernel_rfl) (by kernel_rfl) (fun _ _ _ h => h) (Or.inr ⟨by rfl, rfl⟩) (by assumption) ?_
          try simp only [Act.put, List.setIfInBounds_toArray, List.set_cons_zero, List.set_cons_succ]
          refine takeSO15 (i := 11) (oi := _) (v := undef) (d := some 44) rfl (by kernel_rfl) (by kernel_rfl) (by kernel_rfl) (by kernel_rfl) (fun _ _ _ h => h) (Or.inr ⟨by rfl, rfl⟩) (by assumption) ?_
          try simp only [Act.put, List.setIfInBounds_toArray, List.set_cons_zero, List.set_cons_succ]
          refine takeSO15 (i := 12) (oi := _) (v := undef) (d := some 45) rfl (by kernel_rfl) (by kernel_rfl) (by kernel_rfl) (by kernel_rfl) (fun _ _ _ h => h) (Or.inr ⟨by rfl, rfl⟩) (by assumption) ?_
          try simp only [Act.put, List.setIfInBounds_toArray, List.set_cons_zero, List.set_cons_succ]
          refine takeSO15 (i := 13) (oi := _) (v := undef) (d := some 46) rfl (by kernel_rfl) (by kernel_rfl) (by kernel_rfl) (by kernel_rfl) (fun _ _ _ h => h) (Or.inr ⟨by rfl, rfl⟩) (by assumption) ?_
          try simp only [Act.put, List.setIfInBounds_toArray, List.set_cons_zero, List.set_cons_succ]
          refine takeSO15 (i := 14) (oi := _) (v := undef) (d := some 47) rfl (by kernel_rfl) (by kernel_rfl) (by kernel_rfl) (by kernel_rfl) (fun _ _ _ h => h) (Or.inr ⟨by rfl, rfl⟩) (by assumption) ?_
          try simp only [Act.put, List.setIfInBounds_toArray, List.set_cons_zero, List.set_cons_succ]
          refine takeSO15 (i := 15) (oi := _) (v := undef) (d := some 48) rfl (by kernel_rfl) (by kernel_rfl) (by kernel_rfl) (by kernel_rfl) (fun _ _ _ h => h) (Or.inr ⟨by rfl, rfl⟩) (by assumption) ?_
          try simp only [Act.put, List.setIfInBounds_toArray, List.set_cons_zero, List.set_cons_succ]
          refine takeSO15 (i := 16) (oi := _) (v := ?_) (d := some 49) rfl (by kernel_rfl) (by kernel_rfl) (by kernel_rfl) (by kernel_rfl) (fun _ _ _ h => h) (Or.inl ⟨by rfl, ?_⟩) (by assumption) ?_
          rotate_left
          · (intro w hSw; (try dsimp only at hSw); go_simp <;> with_reducible rfl)
          try simp only [Act.put, List.setIfInBounds_toArray, List.set_cons_zero, List.set_cons_succ]
          refine wpAnyH_done (by kernel_rfl) ?_ _
          clear hHeld
          go_wp2
          go_roundw
          case rel => exact ⟨s + 1, -1, by omega, by go_num, rfl, HS2, HOQ, HBQ⟩
          case measure => simp [intOf]; omega
        have hpg : pv ≥ 0 := hp
        by_cases hz : fs = fv - 1
        · have hze : (fs == fv - 1) = true := by rw [hz]; simp
          have HS2 : Hid (NxOk t.ps far n a (s + 1) (s : Int)) := Or.inr ⟨s, rfl, hsn, by rw [HOK.out, decide_eq_true hp, decide_eq_true hz]; rfl, HNO.out⟩
          clear hp hz HNO HOK
          go_wp2_with fail
          obtain ⟨D, hD⟩ : ∃ D, wr.drew = D := ⟨_, rfl⟩
          have hbD : Below wr.heap.size wr D := by rw [← hD]; exact (Below.refl _ _).drew
          have HBD : Hid (Below w1.heap.size w1 D) := HB.out.trans (hbD.mono HB.out.size)
          have HOD : Hid (Own D w1.heap.size (.slice a' pre.length c') pre) := HO.out.later hbD
          have d0 := cell_keep (S := 0) HBD.out f0
          have d1 := cell_keep (S := 0) HBD.out f1
          have d2 := cell_keep (S := 0) HBD.out f2
          have d3 := cell_keep (S := 0) HBD.out gs
          have d4 := cell_keep (S := 0) HBD.out ga
          refine wp_region_held_drew (S := (fun X => (X.cell? ⟨w.heap.size, 0, none⟩ = some (.int .i64 n) ∧ X.cell? ⟨w.heap.size, 1, none⟩ = some (.slice sa sn sc) ∧ X.cell? ⟨w.heap.size, 2, none⟩ = some (.slice la ln lc)) ∧ X.cell? ⟨fb, fo + s, none⟩ = some (.int .i64 fs) ∧ X.cell? ⟨fb, fo + a, none⟩ = some (.int .i64 fv))) (by kernel_rfl) ?_ (fun hHeld => ?_)
          · (try rw [hD]); exact ⟨⟨d0, d1, d2⟩, d3, d4⟩
          rw [hD] at hHeld ⊢
          clear hD d0 d1 d2 d3 d4
          refine takeSO15 (i := 0) (oi := _) (v := ?_) (d := some 33) rfl (by kernel_rfl) (by kernel_rfl) (by kernel_rfl) (by kernel_rfl) (fun _ _ _ h => h) (Or.inl ⟨by rfl, ?_⟩) (by assumption) ?_
          rotate_left
          · (intro w hSw; (try dsimp only at hSw); go_simp <;> with_reducible rfl)
          try simp only [Act.put, List.setIfInBounds_toArray, List.set_cons_zero, List.set_cons_succ]
          refine takeSO15 (i := 1) (oi := _) (v := ?_) (d := some 34) rfl (by kernel_rfl) (by kernel_rfl) (by kernel_rfl) (by kernel_rfl) (fun _ _ _ h => h) (Or.inl ⟨by rfl, ?_⟩) (by assumption) ?_
          rotate_left
          · (intro w hSw; (try dsimp only at hSw); go_simp <;> with_reducible rfl)
          try simp only [Act.put, List.setIfInBounds_toArray, List.set_cons_zero, List.set_cons_succ]
          refine takeSO15 (i := 2) (oi := _) (v := ?_) (d := some 35) rfl (by kernel_rfl) (by kernel_rfl) (by kernel_rfl) (by kernel_rfl) (fun _ _ _ h => h) (Or.inl ⟨by rfl, ?_⟩) (by assumption) ?_
          rotate_left
          · (intro w hSw; (try dsimp only at hSw); go_simp <;> with_reducible rfl)
          try simp only [Act.put, List.setIfInBounds_toArray, List.set_cons_zero, List.set_cons_succ]
          refine wpAnyH_ready (rs := [3]) (by kernel_rfl) (by simp) ?_
          refine AllReadyH.cons (o := _) rfl (fun K hK => ?_) AllReadyH.nil
          go_simp
          refine (HQP.out D _ _ (HB1.out.trans (HBD.out.mono HB1.out.size))).mono ?_
          rintro e wq ⟨rfl, hb⟩
          have HBQ : Hid (Below w1.heap.size w1 wq) := HBD.out.trans (hb.mono HBD.out.size)
          have HOQ : Hid (Own wq w1.heap.size (.slice a' pre.length c') pre) := HOD.out.later hb
          rw [hpn]
          clear hb
          refine hK.out _ _ ?_ (fun hHeld => ?_)
          · exact ⟨⟨cell_keep (S := 0) HBQ.out f0, cell_keep (S := 0) HBQ.out f1, cell_keep (S := 0) HBQ.out f2⟩, cell_keep (S := 0) HBQ.out gs, cell_keep (S := 0) HBQ.out ga⟩
          clear hK K
          try simp only [Act.put, List.setIfInBounds_toArray, List.set_cons_zero, List.set_cons_succ]
          refine takeSO15 (i := 4) (oi := _) (v := ?_) (d := some 37) rfl (by kernel_rfl) (by kernel_rfl) (by kernel_rfl) (by kernel_rfl) (fun _ _ _ h => h) (Or.inl ⟨by rfl, ?_⟩) (by assumption) ?_
          rotate_left
          · (intro w hSw; (try dsimp only at hSw); go_simp <;> with_reducible rfl)
          try simp only [Act.put, List.setIfInBounds_toArray, List.set_cons_zero, List.set_cons_succ]
          refine takeSO15 (i := 5) (oi := _) (v := ?_) (d := some 38) rfl (by kernel_rfl) (by kernel_rfl) (by kernel_rfl) (by kernel_rfl) (fun _ _ _ h => h) (Or.inl ⟨by rfl, ?_⟩) (by assumption) ?_
          rotate_left
          · (intro w hSw; (try dsimp only at hSw); go_simp <;> with_reducible rfl)
          try simp only [Act.put, List.setIfInBounds_toArray, List.set_cons_zero, List.set_cons_succ]
          refine takeSO15 (i := 6) (oi := _) (v := ?_) (d := some 39) rfl (by kernel_rfl) (by kernel_rfl) (by kernel_rfl) (by kernel_rfl) (fun _ _ _ h => h) (Or.inl ⟨by rfl, ?_⟩) (by assumption) ?_
          rotate_left
          · (intro w hSw; (try dsimp only at hSw); go_simp <;> with_reducible rfl)
          try simp only [Act.put, List.setIfInBounds_toArray, List.set_cons_zero, List.set_cons_succ]
          refine takeSO15 (i := 7) (oi := _) (v := ?_) (d := some 40) rfl (by kernel_rfl) (by kernel_rfl) (by kernel_rfl) (by kernel_rfl) (fun _ _ _ h => h) (Or.inl ⟨by rfl, ?_⟩) (by assumption) ?_
          rotate_left
          · (intro w hSw; (try dsimp only at hSw); go_simp <;> with_reducible rfl)
          try simp only [Act.put, List.setIfInBounds_toArray, List.set_cons_zero, List.set_cons_succ]
          refine takeSO15 (i := 8) (oi := _) (v := ?_) (d := some 41) rfl (by kernel_rfl) (by kernel_rfl) (by kernel_rfl) (by kernel_rfl) (fun _ _ _ h => h) (Or.inl ⟨by rfl, ?_⟩) (by assumption) ?_
          rotate_left
          · (intro w hSw; (try dsimp only at hSw); go_simp <;> with_reducible rfl)
          try simp only [Act.put, List.setIfInBounds_toArray, List.set_cons_zero, List.set_cons_succ]
          refine takeSO15 (i := 9) (oi := _) (v := ?_) (d := some 42) rfl (by kernel_rfl) (by kernel_rfl) (by kernel_rfl) (by kernel_rfl) (fun _ _ _ h => h) (Or.inl ⟨by rfl, ?_⟩) (by assumption) ?_
          rotate_left
          · (intro w hSw; (try dsimp only at hSw); go_simp <;> with_reducible rfl)
          try simp only [Act.put, List.setIfInBounds_toArray, List.set_cons_zero, List.set_cons_succ]
          refine takeSO15 (i := 10) (oi := _) (v := ?_) (d := some 43) rfl (by kernel_rfl) (by kernel_rfl) (by kernel_rfl) (by kernel_rfl) (fun _ _ _ h => h) (Or.inl ⟨by rfl, ?_⟩) (by assumption) ?_
          rotate_left
          · (intro w hSw; (try dsimp only at hSw); go_simp <;> with_reducible rfl)
          try simp only [Act.put, List.setIfInBounds_toArray, List.set_cons_zero, List.set_cons_succ]
          refine takeSO15 (i := 11) (oi := _) (v := ?_) (d := some 44) rfl (by kernel_rfl) (by kernel_rfl) (by kernel_rfl) (by kernel_rfl) (fun _ _ _ h => h) (Or.inl ⟨by rfl, ?_⟩) (by assumption) ?_
          rotate_left
          · (intro w hSw; (try dsimp only at hSw); go_simp <;> with_reducible rfl)
          try simp only [Act.put, List.setIfInBounds_toArray, List.set_cons_zero, List.set_cons_succ]
          refine takeSO15 (i := 12) (oi := _) (v := ?_) (d := some 45) rfl (by kernel_rfl) (by kernel_rfl) (by kernel_rfl) (by kernel_rfl) (fun _ _ _ h => h) (Or.inl ⟨by rfl, ?_⟩) (by assumption) ?_
          rotate_left
          · (intro w hSw; (try dsimp only at hSw); go_simp <;> with_reducible rfl)
          try simp only [Act.put, List.setIfInBounds_toArray, List.set_cons_zero, List.set_cons_succ]
          refine takeSO15 (i := 13) (oi := _) (v := ?_) (d := some 46) rfl (by kernel_rfl) (by kernel_rfl) (by kernel_rfl) (by kernel_rfl) (fun _ _ _ h => h) (Or.inl ⟨by rfl, ?_⟩) (by assumption) ?_
          rotate_left
          · (intro w hSw; (try dsimp only at hSw); go_simp <;> with_reducible rfl)
          try simp only [Act.put, List.setIfInBounds_toArray, List.set_cons_zero, List.set_cons_succ]
          refine takeSO15 (i := 14) (oi := _) (v := ?_) (d := some 47) rfl (by kernel_rfl) (by kernel_rfl) (by kernel_rfl) (by kernel_rfl) (fun _ _ _ h => h) (Or.inl ⟨by rfl, ?_⟩) (by assumption) ?_
          rotate_left
          · (intro w hSw; (try dsimp only at hSw); go_simp <;> with_reducible rfl)
          try simp only [Act.put, List.setIfInBounds_toArray, List.set_cons_zero, List.set_cons_succ]
          refine takeSO15 (i := 15) (oi := _) (v := ?_) (d := some 48) rfl (by kernel_rfl) (by kernel_rfl) (by kernel_rfl) (by kernel_rfl) (fun _ _ _ h => h) (Or.inl ⟨by rfl, ?_⟩) (by assumption) ?_
          rotate_left
          · (intro w hSw; (try dsimp only at hSw); go_simp <;> with_reducible rfl)
          try simp only [Act.put, List.setIfInBounds_toArray, List.set_cons_zero, List.set_cons_succ]
          refine takeSO15 (i := 16) (oi := _) (v := ?_) (d := some 49) rfl (by kernel_rfl) (by kernel_rfl) (by kernel_rfl) (by kernel_rfl) (fun _ _ _ h => h) (Or.inl ⟨by rfl, ?_⟩) (by assumption) ?_
          rotate_left
          · (intro w hSw; (try dsimp only at hSw); go_simp <;> with_reducible rfl)
          try simp only [Act.put, List.setIfInBounds_toArray, List.set_cons_zero, List.set_cons_succ]
          refine wpAnyH_done (by kernel_rfl) ?_ _
          clear hHeld
          go_wp2
          go_roundw
          case rel => exact ⟨s + 1, (s : Int), by omega, by go_num, rfl, HS2, HOQ, HBQ⟩
          case measure => simp [intOf]; omega
        · have hze : (fs == fv - 1) = false := by rw [beq_eq_false_iff_ne]; exact hz
          have HS2 : Hid (NxOk t.ps far n a (s + 1) (-1)) := Or.inl ⟨rfl, fun j hj => by
            by_cases e : j = s
            · rw [e, HOK.out, decide_eq_false hz, Bool.and_false]
            · exact HNO.out j (by omega)⟩
          clear hp hz HNO HOK
          go_wp2_with fail
          obtain ⟨D, hD⟩ : ∃ D, wr.drew = D := ⟨_, rfl⟩
          have hbD : Below wr.heap.size wr D := by rw [← hD]; exact (Below.refl _ _).drew
          have HBD : Hid (Below w1.heap.size w1 D) := HB.out.trans (hbD.mono HB.out.size)
          have HOD : Hid (Own D w1.heap.size (.slice a' pre.length c') pre) := HO.out.later hbD
          have d0 := cell_keep (S := 0) HBD.out f0
          have d1 := cell_keep (S := 0) HBD.out f1
          have d2 := cell_keep (S := 0) HBD.out f2
          have d3 := cell_keep (S := 0) HBD.out gs
          have d4 := cell_keep (S := 0) HBD.out ga
          refine wp_region_held_drew (S := (fun X => (X.cell? ⟨w.heap.size, 0, none⟩ = some (.int .i64 n) ∧ X.cell? ⟨w.heap.size, 1, none⟩ = some (.slice sa sn sc) ∧ X.cell? ⟨w.heap.size, 2, none⟩ = some (.slice la ln lc)) ∧ X.cell? ⟨fb, fo + s, none⟩ = some (.int .i64 fs) ∧ X.cell? ⟨fb, fo + a, none⟩ = some (.int .i64 fv))) (by kernel_rfl) ?_ (fun hHeld => ?_)
          · (try rw [hD]); exact ⟨⟨d0, d1, d2⟩, d3, d4⟩
          rw [hD] at hHeld ⊢
          clear hD d0 d1 d2 d3 d4
          refine takeSO15 (i := 0) (oi := _) (v := ?_) (d := some 33) rfl (by kernel_rfl) (by kernel_rfl) (by kernel_rfl) (by kernel_rfl) (fun _ _ _ h => h) (Or.inl ⟨by rfl, ?_⟩) (by assumption) ?_
          rotate_left
          · (intro w hSw; (try dsimp only at hSw); go_simp <;> with_reducible rfl)
          try simp only [Act.put, List.setIfInBounds_toArray, List.set_cons_zero, List.set_cons_succ]
          refine takeSO15 (i := 1) (oi := _) (v := ?_) (d := some 34) rfl (by kernel_rfl) (by kernel_rfl) (by kernel_rfl) (by kernel_rfl) (fun _ _ _ h => h) (Or.inl ⟨by rfl, ?_⟩) (by assumption) ?_
          rotate_left
          · (intro w hSw; (try dsimp only at hSw); go_simp <;> with_reducible rfl)
          try simp only [Act.put, List.setIfInBounds_toArray, List.set_cons_zero, List.set_cons_succ]
          refine takeSO15 (i := 2) (oi := _) (v := ?_) (d := some 35) rfl (by kernel_rfl) (by kernel_rfl) (by kernel_rfl) (by kernel_rfl) (fun _ _ _ h => h) (Or.inl ⟨by rfl, ?_⟩) (by assumption) ?_
          rotate_left
          · (intro w hSw; (try dsimp only at hSw); go_simp <;> with_reducible rfl)
          try simp only [Act.put, List.setIfInBounds_toArray, List.set_cons_zero, List.set_cons_succ]
          refine wpAnyH_ready (rs := [3]) (by kernel_rfl) (by simp) ?_
          refine AllReadyH.cons (o := _) rfl (fun K hK => ?_) AllReadyH.nil
          go_simp
          refine (HQP.out D _ _ (HB1.out.trans (HBD.out.mono HB1.out.size))).mono ?_
          rintro e wq ⟨rfl, hb⟩
          have HBQ : Hid (Below w1.heap.size w1 wq) := HBD.out.trans (hb.mono HBD.out.size)
          have HOQ : Hid (Own wq w1.heap.size (.slice a' pre.length c') pre) := HOD.out.later hb
          rw [hpn]
          clear hb
          refine hK.out _ _ ?_ (fun hHeld => ?_)
          · exact ⟨⟨cell_keep (S := 0) HBQ.out f0, cell_keep (S := 0) HBQ.out f1, cell_keep (S := 0) HBQ.out f2⟩, cell_keep (S := 0) HBQ.out gs, cell_keep (S := 0) HBQ.out ga⟩
          clear hK K
          try simp only [Act.put, List.setIfInBounds_toArray, List.set_cons_zero, List.set_cons_succ]
          refine takeSO15 (i := 4) (oi := _) (v := ?_) (d := some 37) rfl (by kernel_rfl) (by kernel_rfl) (by kernel_rfl) (by kernel_rfl) (fun _ _ _ h => h) (Or.inl ⟨by rfl, ?_⟩) (by assumption) ?_
          rotate_left
          · (intro w hSw; (try dsimp only at hSw); go_simp <;> with_reducible rfl)
          try simp only [Act.put, List.setIfInBounds_toArray, List.set_cons_zero, List.set_cons_succ]
          refine takeSO15 (i := 5) (oi := _) (v := ?_) (d := some 38) rfl (by kernel_rfl) (by kernel_rfl) (by kernel_rfl) (by kernel_rfl) (fun _ _ _ h => h) (Or.inl ⟨by rfl, ?_⟩) (by assumption) ?_
          rotate_left
          · (intro w hSw; (try dsimp only at hSw); go_simp <;> with_reducible rfl)
          try simp only [Act.put, List.setIfInBounds_toArray, List.set_cons_zero, List.set_cons_succ]
          refine takeSO15 (i := 6) (oi := _) (v := ?_) (d := some 39) rfl (by kernel_rfl) (by kernel_rfl) (by kernel_rfl) (by kernel_rfl) (fun _ _ _ h => h) (Or.inl ⟨by rfl, ?_⟩) (by assumption) ?_
          rotate_left
          · (intro w hSw; (try dsimp only at hSw); go_simp <;> with_reducible rfl)
          try simp only [Act.put, List.setIfInBounds_toArray, List.set_cons_zero, List.set_cons_succ]
          refine takeSO15 (i := 7) (oi := _) (v := ?_) (d := some 40) rfl (by kernel_rfl) (by kernel_rfl) (by kernel_rfl) (by kernel_rfl) (fun _ _ _ h => h) (Or.inl ⟨by rfl, ?_⟩) (by assumption) ?_
          rotate_left
          · (intro w hSw; (try dsimp only at hSw); go_simp <;> with_reducible rfl)
          try simp only [Act.put, List.setIfInBounds_toArray, List.set_cons_zero, List.set_cons_succ]
          refine takeSO15 (i := 8) (oi := _) (v := ?_) (d := some 41) rfl (by kernel_rfl) (by kernel_rfl) (by kernel_rfl) (by kernel_rfl) (fun _ _ _ h => h) (Or.inl ⟨by rfl, ?_⟩) (by assumption) ?_
          rotate_left
          · (intro w hSw; (try dsimp only at hSw); go_simp <;> with_reducible rfl)
          try simp only [Act.put, List.setIfInBounds_toArray, List.set_cons_zero, List.set_cons_succ]
          refine takeSO15 (i := 9) (oi := _) (v := ?_) (d := some 42) rfl (by kernel_rfl) (by kernel_rfl) (by kernel_rfl) (by kernel_rfl) (fun _ _ _ h => h) (Or.inl ⟨by rfl, ?_⟩) (by assumption) ?_
          rotate_left
          · (intro w hSw; (try dsimp only at hSw); go_simp <;> with_reducible rfl)
          try simp only [Act.put, List.setIfInBounds_toArray, List.set_cons_zero, List.set_cons_succ]
          refine takeSO15 (i := 10) (oi := _) (v := ?_) (d := some 43) rfl (by kernel_rfl) (by kernel_rfl) (by kernel_rfl) (by kernel_rfl) (fun _ _ _ h => h) (Or.inl ⟨by rfl, ?_⟩) (by assumption) ?_
          rotate_left
          · (intro w hSw; (try dsimp only at hSw); go_simp <;> with_reducible rfl)
          try simp only [Act.put, List.setIfInBounds_toArray, List.set_cons_zero, List.set_cons_succ]
          refine takeSO15 (i := 11) (oi := _) (v := ?_) (d := some 44) rfl (by kernel_rfl) (by kernel_rfl) (by kernel_rfl) (by kernel_rfl) (fun _ _ _ h => h) (Or.inl ⟨by rfl, ?_⟩) (by assumption) ?_
          rotate_left
          · (intro w hSw; (try dsimp only at hSw); go_simp <;> with_reducible rfl)
          try simp only [Act.put, List.setIfInBounds_toArray, List.set_cons_zero, List.set_cons_succ]
          refine takeSO15 (i := 12) (oi := _) (v := ?_) (d := some 45) rfl (by kernel_rfl) (by kernel_rfl) (by kernel_rfl) (by kernel_rfl) (fun _ _ _ h => h) (Or.inl ⟨by rfl, ?_⟩) (by assumption) ?_
          rotate_left
          · (intro w hSw; (try dsimp only at hSw); go_simp <;> with_reducible rfl)
          try simp only [Act.put, List.setIfInBounds_toArray, List.set_cons_zero, List.set_cons_succ]
          refine takeSO15 (i := 13) (oi := _) (v := ?_) (d := some 46) rfl (by kernel_rfl) (by kernel_rfl) (by kernel_rfl) (by kernel_rfl) (fun _ _ _ h => h) (Or.inl ⟨by rfl, ?_⟩) (by assumption) ?_
          rotate_left
          · (intro w hSw; (try dsimp only at hSw); go_simp <;> with_reducible rfl)
          try simp only [Act.put, List.setIfInBounds_toArray, List.set_cons_zero, List.set_cons_succ]
          refine takeSO15 (i := 14) (oi := _) (v := ?_) (d := some 47) rfl (by kernel_rfl) (by kernel_rfl) (by kernel_rfl) (by kernel_rfl) (fun _ _ _ h => h) (Or.inl ⟨by rfl, ?_⟩) (by assumption) ?_
          rotate_left
          · (intro w hSw; (try dsimp only at hSw); go_simp <;> with_reducible rfl)
          try simp only [Act.put, List.setIfInBounds_toArray, List.set_cons_zero, List.set_cons_succ]
          refine takeSO15 (i := 15) (oi := _) (v := ?_) (d := some 48) rfl (by kernel_rfl) (by kernel_rfl) (by kernel_rfl) (by kernel_rfl) (fun _ _ _ h => h) (Or.inl ⟨by rfl, ?_⟩) (by assumption) ?_
          rotate_left
          · (intro w hSw; (try dsimp only at hSw); go_simp <;> with_reducible rfl)
          try simp only [Act.put, List.setIfInBounds_toArray, List.set_cons_zero, List.set_cons_succ]
          refine takeSO15 (i := 16) (oi := _) (v := ?_) (d := some 49) rfl (by kernel_rfl) (by kernel_rfl) (by kernel_rfl) (by kernel_rfl) (fun _ _ _ h => h) (Or.inl ⟨by rfl, ?_⟩) (by assumption) ?_
          rotate_left
          · (intro w hSw; (try dsimp only at hSw); go_simp <;> with_reducible rfl)
          try simp only [Act.put, List.setIfInBounds_toArray, List.set_cons_zero, List.set_cons_succ]
          refine wpAnyH_done (by kernel_rfl) ?_ _
          clear hHeld
          go_wp2
          go_roundw
          case rel => exact ⟨s + 1, -1, by omega, by go_num, rfl, HS2, HOQ, HBQ⟩
          case measure => simp [intOf]; omega
      have hws := wayL_step (n := n) HP1.out hqn hq1 hq2
      have hfq := (okS_iff.1 hq1).2
      have HF2 : Hid (0 ≤ far.getD q 0) := by have := HP1.out; show _ ≤ _; omega
      obtain ⟨pv, hpv⟩ : ∃ pv, prN t.ps a q = pv := ⟨_, rfl⟩
      rw [hpv] at hws
      have HE2 : Hid ((pre ++ [pv]) ++ wayL t.ps far n q = W) := by
        show _ = _
        rw [List.append_assoc, ← HE.out, hws]
        rfl
      have hWl : pre.length + 1 ≤ W.length := by rw [← HE2.out]; simp
      have hpl : pre.length + 1 ≤ 6 := by have := HWL.out; omega
      have qp := HQP.out wr a q (HB1.out.trans (HB.out.mono HB1.out.size))
      rw [hpv] at qp
      have q0 : ¬ (q : Int) < 0 := by omega
      have h0r := cell_keep (S := 0) HB.out f0
      have h1r := cell_keep (S := 0) HB.out f1
      have h2r := cell_keep (S := 0) HB.out f2
      clear hws hfq hpv hq1 hq2 HS HE HK
      by_cases hsn : s < n
      · have s1 : (s : Int) < (n : Int) := by omega
        go_wp2_with fail
        refine qp.mono ?_
        clear qp f0 f1 f2
        rintro e w2 ⟨rfl, hb⟩
        have hlit := litI w2 pv
        have hbl := balloc w2 (.cells #[.int .i64 pv] 3)
        obtain ⟨U, hU⟩ : ∃ X, w2.alloc (.cells #[.int .i64 pv] 3) = X := ⟨_, rfl⟩
        rw [hU] at hlit hbl
        have hb2 : Below wr.heap.size wr U := hb.trans (hbl.mono hb.size)
        obtain ⟨v', w3, r1, o1, gg, b1⟩ := appendI_run U w1.heap.size (.slice a' pre.length c') pre [pv] (some ⟨w2.heap.size, 0, none⟩) 1 1 (HO.out.later hb2) hlit rfl (by intro h; cases h) (by simp; omega) (by have := hb2.size; have := HB.out.size; omega)
        obtain ⟨a3, c3, hv3⟩ := o1.shape
        rw [List.length_append] at hv3
        simp only [List.length_cons, List.length_nil, Nat.zero_add] at hv3
        subst hv3
        have HO3 : Hid (Own w3 w1.heap.size (.slice a3 (pre.length + 1) c3) (pre ++ [pv])) := o1
        have HB3 : Hid (Below w1.heap.size w1 w3) := (HB.out.trans (hb2.mono HB.out.size)).trans (b1.mono (Nat.le_refl _))
        clear o1 gg b1 hb hbl hlit hb2 HO HB
        go_wp2_with (first | (at_builtin; refine Lib.wpList_append_run _ rfl _ _ _ _ rfl _ _ rfl rfl _ _ (r1 _) ?_; clear r1))
        go_roundw
        case rel => exact ⟨q, pre ++ [pv], a3, c3, rfl, by simp, hqn, HF2, HE2, by rw [List.length_append]; exact HO3, HB3⟩
        case measure => simp [lenOf15]; omega
      · have s1 : ¬ (s : Int) < (n : Int) := by omega
        go_wp2_with fail
        refine qp.mono ?_
        clear qp f0 f1 f2
        rintro e w2 ⟨rfl, hb⟩
        have hlit := litI w2 pv
        have hbl := balloc w2 (.cells #[.int .i64 pv] 3)
        obtain ⟨U, hU⟩ : ∃ X, w2.alloc (.cells #[.int .i64 pv] 3) = X := ⟨_, rfl⟩
        rw [hU] at hlit hbl
        have hb2 : Below wr.heap.size wr U := hb.trans (hbl.mono hb.size)
        obtain ⟨v', w3, r1, o1, gg, b1⟩ := appendI_run U w1.heap.size (.slice a' pre.length c') pre [pv] (some ⟨w2.heap.size, 0, none⟩) 1 1 (HO.out.later hb2) hlit rfl (by intro h; cases h) (by simp; omega) (by have := hb2.size; have := HB.out.size; omega)
        obtain ⟨a3, c3, hv3⟩ := o1.shape
        rw [List.length_append] at hv3
        simp only [List.length_cons, List.length_nil, Nat.zero_add] at hv3
        subst hv3
        have HO3 : Hid (Own w3 w1.heap.size (.slice a3 (pre.length + 1) c3) (pre ++ [pv])) := o1
        have HB3 : Hid (Below w1.heap.size w1 w3) := (HB.out.trans (hb2.mono HB.out.size)).trans (b1.mono (Nat.le_refl _))
        clear o1 gg b1 hb hbl hlit hb2 HO HB
        go_wp2_with (first | (at_builtin; refine Lib.wpList_append_run _ rfl _ _ _ _ rfl _ _ rfl rfl _ _ (r1 _) ?_; clear r1))
        go_roundw
        case rel => exact ⟨q, pre ++ [pv], a3, c3, rfl, by simp, hqn, HF2, HE2, by rw [List.length_append]; exact HO3, HB3⟩
        case measure => simp [lenOf15]; omega

end Go.Proofs.Ytbjpkklonjlmiaa
