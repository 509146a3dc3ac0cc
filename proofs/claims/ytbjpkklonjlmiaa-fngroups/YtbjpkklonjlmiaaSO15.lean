/- Chapter 15: the steps over a table's pairs, of the program. -/
import Derived.Test.YtbjpkklonjlmiaaST15
import Derived.Test.YtbjpkklonjlmiaaG15C
import Derived.Deep.RegionHeld3
import Derived.Deep.Light
namespace Go.Proofs.Ytbjpkklonjlmiaa
set_option linter.unusedVariables false
set_option maxRecDepth 1000000
set_option linter.unusedSimpArgs false
open Go.RowKit Go.Sort

theorem takeSO15 {P : Program} {ops : Array Oper} {Q : Exit → Act → World → Prop} {md : Region.Mode} {S : World → Prop} {i : Nat} {oi : Oper} {v : Value} {d : Option Tmp} {fuel : Nat} {listed : Array Bool} {a : Act} {w : World} (hi : ops[i]? = some oi) (hd : oi.dst = d)
    (hs : Region.noSelect ops = true) (hf : Region.free md ops listed i = true) (hr : (Region.ready md ops listed).contains i = true)
    (hQ : ∀ c a w, Q (.panic c) (a.put d v) w → Q (.panic c) a w) (hy : YieldsIf P ops S oi v a) (hS : S w)
    (h : wpAnyH P md ops Q S fuel (listed.setIfInBounds i true) (a.put d v) w) : wpAnyH P md ops Q S (fuel + 1) listed a w := by
  subst hd
  exact wpAnyH_take hi hs hf hr hQ hy hS h

theorem lesser_c (ro : Option Addr) (rc : Nat) (p : List Int) (w : World) (hp : p.length = 2) (hr : Rd w ro p) : Calls Try.prog 73 #[.slice ro 2 rc] w fun e w' => e = .returned (.int .i64 (p.getD 0 0)) ∧ w' = w := by
  obtain ⟨b, o, rfl, g⟩ := hr.get (k := 0) (by omega)
  rw [Nat.add_zero] at g
  generalize p.getD 0 0 = x at g ⊢
  go_enter Try.func73, Try.ntmps73
  go_wp2
  go_ret
  exact ⟨rfl, rfl⟩
theorem greater_c (ro : Option Addr) (rc : Nat) (p : List Int) (w : World) (hp : p.length = 2) (hr : Rd w ro p) : Calls Try.prog 74 #[.slice ro 2 rc] w fun e w' => e = .returned (.int .i64 (p.getD 1 0)) ∧ w' = w := by
  obtain ⟨b, o, rfl, g⟩ := hr.get (k := 1) (by omega)
  generalize p.getD 1 0 = x at g ⊢
  go_enter Try.func74, Try.ntmps74
  go_wp2
  go_ret
  exact ⟨rfl, rfl⟩

theorem courses_c (w : World) : Calls Try.prog 64 #[] w fun e w' => e = .returned (.agg #[.func (.func 73) #[] #[], .func (.func 74) #[] #[], .func (.func 74) #[] #[], .func (.func 73) #[] #[]]) ∧ Below w.heap.size w w' := by
  have hX := x4_new w .nilFunc .nilFunc .nilFunc .nilFunc 84 w.heap.size rfl
  have hbU := balloc w (.cells #[.nilFunc, .nilFunc, .nilFunc, .nilFunc] 84)
  obtain ⟨U, hU⟩ : ∃ X, w.alloc (.cells #[.nilFunc, .nilFunc, .nilFunc, .nilFunc] 84) = X := ⟨_, rfl⟩
  rw [hU] at hX hbU
  have hF := ((((hX.set0 (.func (.func 73) #[] #[])).set1 (.func (.func 74) #[] #[])).set2 (.func (.func 74) #[] #[])).set3 (.func (.func 73) #[] #[]))
  have hB : Below w.heap.size w ((((U.setCell ⟨w.heap.size, 0, none⟩ (.func (.func 73) #[] #[])).setCell ⟨w.heap.size, 1, none⟩ (.func (.func 74) #[] #[])).setCell ⟨w.heap.size, 2, none⟩ (.func (.func 74) #[] #[])).setCell ⟨w.heap.size, 3, none⟩ (.func (.func 73) #[] #[])) := ((((hbU).setCell (Nat.le_refl _) _).setCell (Nat.le_refl _) _).setCell (Nat.le_refl _) _).setCell (Nat.le_refl _) _
  obtain ⟨⟨c0, c1, c2, c3⟩, fz⟩ := hX
  have z0 := fz 0
  have z1 := fz 1
  have z2 := fz 2
  have z3 := fz 3
  clear fz
  obtain ⟨FW, hFW⟩ : ∃ X, ((((U.setCell ⟨w.heap.size, 0, none⟩ (.func (.func 73) #[] #[])).setCell ⟨w.heap.size, 1, none⟩ (.func (.func 74) #[] #[])).setCell ⟨w.heap.size, 2, none⟩ (.func (.func 74) #[] #[])).setCell ⟨w.heap.size, 3, none⟩ (.func (.func 73) #[] #[])) = X := ⟨_, rfl⟩
  rw [hFW] at hF hB
  obtain ⟨⟨t0, t1, t2, t3⟩, _⟩ := hF
  have sf : ∀ (a : Addr) (w : World), (store a (.func (.func 73) #[] #[])).run Try.prog w = stored Try.prog w a (.func (.func 73) #[] #[]) .plain := fun a w => run_store Try.prog w a _ .plain rfl
  have sg : ∀ (a : Addr) (w : World), (store a (.func (.func 74) #[] #[])).run Try.prog w = stored Try.prog w a (.func (.func 74) #[] #[]) .plain := fun a w => run_store Try.prog w a _ .plain rfl
  go_enter Try.func64, Try.ntmps64
  go_wp2
  refine bodyPost_ret (v := .agg #[.func (.func 73) #[] #[], .func (.func 74) #[] #[], .func (.func 74) #[] #[], .func (.func 73) #[] #[]]) (by simp [results, Try.results64, go_sem, t0, t1, t2, t3]; try rfl) rfl ?_
  exact ⟨rfl, hB⟩

theorem insNil_c (w : World) : Calls Try.prog 78 #[.slice none 0 0, .int .i64 0, .int .i64 0, .func (.func 66) #[] #[]] w fun e w' => e = .returned (.tuple #[]) ∧ w' = w := by
  go_enter Try.func78, Try.ntmps78
  go_wp2
  refine wp_loop_rounds 1 ?_
  rw [rounds_succ]
  go_wp2
  go_end0
  exact ⟨rfl, rfl⟩
theorem stableNil_c (w : World) : Calls Try.prog 75 #[.slice none 0 0, .int .i64 0, .func (.func 66) #[] #[]] w fun e w' => e = .returned (.tuple #[]) ∧ w' = w := by
  have q := insNil_c w
  go_enter Try.func75, Try.ntmps75
  go_wp2
  refine wp_loop_rounds 1 ?_
  rw [rounds_succ]
  go_wp2_with fail
  refine q.mono ?_
  rintro e w' ⟨rfl, hw⟩
  subst hw
  go_wp2
  refine wp_loop_rounds 1 ?_
  rw [rounds_succ]
  go_wp2
  go_end0
  exact ⟨rfl, rfl⟩
theorem sortNil_c (w : World) : Calls Try.prog 65 #[.slice none 0 0, .func (.func 66) #[] #[]] w fun e w' => e = .returned (.tuple #[]) ∧ w' = w := by
  have q := stableNil_c w
  go_enter Try.func65, Try.ntmps65
  go_wp2_with fail
  refine q.mono ?_
  rintro e w' ⟨rfl, hw⟩
  subst hw
  go_wp2
  go_end0
  exact ⟨rfl, rfl⟩

set_option maxHeartbeats 8000000 in
theorem stepsOver_c (sa : Option Addr) (sn sc : Nat) (la : Option Addr) (ln lc : Nat) (t : TbV) (w : World) (h : RdT w sa sn sc la ln lc t) (hg : GoodT t) :
    Calls Try.prog 47 #[.agg #[.int .i64 t.s, .slice sa sn sc, .slice la ln lc]] w fun e w' => ∃ a' c' ys, e = .returned (.slice a' (2 * sn) c') ∧ OwnQ w' w.heap.size (.slice a' (2 * sn) c') ys ∧ ys.Perm (stT t.ps sn) ∧ RisT ys ∧ Below w.heap.size w w' := by
  have HX0 : Hid (X3 (w.alloc (.cells #[.int .i64 t.s, .slice sa sn sc, .slice la ln lc] 26)) w.heap.size (.int .i64 t.s) (.slice sa sn sc) (.slice la ln lc)) := x3_new w _ _ _ _ _ rfl
  have HB0 : Hid (Below w.heap.size w (w.alloc (.cells #[.int .i64 t.s, .slice sa sn sc, .slice la ln lc] 26))) := balloc w _
  have HR : Hid (∀ wx, Below w.heap.size w wx → RdNN wx sa t.ps) := fun wx hb => h.rd.s.later hb
  have HPL : Hid (t.ps.length = sn) := h.rd.sl
  have H2 : Hid (∀ k, k < sn → (t.ps.getD k []).length = 2) := fun k hk => (hg.two k (by rw [h.rd.sl]; exact hk)).1
  have hpn := h.pn
  have hpl15 : sn ≤ 15 := by rw [← h.rd.sl]; exact hg.pl
  obtain ⟨V, hV⟩ : ∃ V, w.alloc (.cells #[.int .i64 t.s, .slice sa sn sc, .slice la ln lc] 26) = V := ⟨_, rfl⟩
  rw [hV] at HX0 HB0
  generalize t.s = s at HX0 hV ⊢
  obtain ⟨⟨f0, f1, f2⟩, _⟩ := HX0.out
  have x0 : ∀ w : World, (Instr.index 84 (.agg #[.func (.func 73) #[] #[], .func (.func 74) #[] #[], .func (.func 74) #[] #[], .func (.func 73) #[] #[]]) (.int .i64 0)).run Try.prog w = .ok (.agg #[.func (.func 73) #[] #[], .func (.func 74) #[] #[]]) w := fun _ => by kernel_rfl
  have x1 : ∀ w : World, (Instr.index 84 (.agg #[.func (.func 73) #[] #[], .func (.func 74) #[] #[], .func (.func 74) #[] #[], .func (.func 73) #[] #[]]) (.int .i64 1)).run Try.prog w = .ok (.agg #[.func (.func 74) #[] #[], .func (.func 73) #[] #[]]) w := fun _ => by kernel_rfl
  have sf : ∀ (a : Addr) (w : World), (store a (.func (.func 73) #[] #[])).run Try.prog w = stored Try.prog w a (.func (.func 73) #[] #[]) .plain := fun a w => run_store Try.prog w a _ .plain rfl
  have sg : ∀ (a : Addr) (w : World), (store a (.func (.func 74) #[] #[])).run Try.prog w = stored Try.prog w a (.func (.func 74) #[] #[]) .plain := fun a w => run_store Try.prog w a _ .plain rfl
  clear h hg
  go_enter Try.func47, Try.ntmps47
  go_wp2_with fail
  clear f0 f1 f2 hV
  go_loopw [3, 11] (fun sv iv wr => ∃ (k m : Nat) (a' : Option Addr) (c' : Nat), k ≤ sn ∧ Hid (m = 2 * k) ∧ iv = .int .i64 k ∧ sv = .slice a' m c' ∧ Hid (OwnQ wr w.heap.size (.slice a' m c') (stT t.ps k)) ∧ Hid (Below w.heap.size w wr)) (fun _ iv _ => sn - (intOf iv).toNat)
  case atStart => exact ⟨0, 0, none, 0, Nat.zero_le _, (show Hid _ from rfl), rfl, rfl, own_nilQ _ _, HB0⟩
  case round =>
    clear HX0 HB0
    obtain ⟨k, m, a1, c1, hk, HM, rfl, rfl, HO, HB⟩ := hrel
    by_cases hlt : k < sn
    case neg =>
      obtain rfl : k = sn := by omega
      cases a1 with
      | none =>
        have hm0 := (HO.out.nil rfl)
        obtain ⟨rfl, rfl⟩ := hm0
        have hk0 : k = 0 := by have := HM.out; omega
        have HE : Hid (∃ a' c' ys, Value.slice none 0 0 = .slice a' (2 * k) c' ∧ OwnQ wr w.heap.size (.slice a' (2 * k) c') ys ∧ ys.Perm (stT t.ps k) ∧ RisT ys ∧ Below w.heap.size w wr) := ⟨none, 0, stT t.ps k, by rw [hk0], by rw [hk0]; have := HO.out; rw [hk0] at this; exact this, List.Perm.refl _, fun i j _ h => by rw [stT_length] at h; omega, HB.out⟩
        have q := sortNil_c wr
        go_wp2_with fail
        refine q.mono ?_
        clear q
        rintro e w1 ⟨rfl, hw⟩
        subst hw
        go_wp2
        go_ret
        obtain ⟨a', c', ys, e1, e2⟩ := HE.out
        refine ⟨a', c', ys, ?_, e2⟩
        first | rfl | (rw [← e1]; rfl)
      | some ad =>
        obtain ⟨g, rfl⟩ : ∃ g, ad = ⟨g, 0, none⟩ := by
          rcases HO.out.addr with ⟨h, _⟩ | ⟨g, h, _⟩
          · cases h
          · exact ⟨g, by injection h⟩
        have q := sortStableQ_c g m c1 w.heap.size (stT t.ps k) wr (by have := HM.out; omega) (by rw [stT_length]; exact HM.out.symm) HO.out
        go_wp2_with fail
        refine q.mono ?_
        clear q
        rintro e w1 ⟨rfl, ys, hp, hri, ho, hgr⟩
        have HE : Hid (∃ a' c' ys, Value.slice (some ⟨g, 0, none⟩) m c1 = .slice a' (2 * k) c' ∧ OwnQ w1 w.heap.size (.slice a' (2 * k) c') ys ∧ ys.Perm (stT t.ps k) ∧ RisT ys ∧ Below w.heap.size w w1) := ⟨_, c1, ys, by rw [HM.out], by rw [← HM.out]; exact ho, hp, hri, HB.out.grown hgr HB.out.size (fun q hq => by cases hq; exact own_block_geQ HO.out _ rfl)⟩
        clear hp hri ho hgr
        go_wp2
        go_ret
        obtain ⟨a', c', ys, e1, e2⟩ := HE.out
        refine ⟨a', c', ys, ?_, e2⟩
        first | rfl | (rw [← e1]; rfl)
    have hkl : k < t.ps.length := by rw [HPL.out]; exact hlt
    obtain ⟨b, o, ro, rc, hsa, gw, hrw, _⟩ := (HR.out w (Below.refl _ _)).get hkl
    have g0 := cell_keep (S := 0) HB.out gw
    have hro : ∀ wx, Below w.heap.size w wx → Rd wx ro (t.ps.getD k []) := fun wx hb => hrw.later hb
    clear hrw gw
    subst hsa
    have h2 := H2.out k hlt
    have HST : Hid (stT t.ps (k + 1) = (stT t.ps k ++ [((t.ps.getD k []).getD 0 0, (t.ps.getD k []).getD 1 0, (k : Int))]) ++ [((t.ps.getD k []).getD 1 0, (t.ps.getD k []).getD 0 0, (k : Int))]) := by show _ = _; rw [stT, List.append_assoc]; rfl
    generalize t.ps.getD k [] = p at g0 hro h2 HST
    rw [h2] at g0
    have HP : Hid (∀ wx, Below w.heap.size w wx → Rd wx ro p) := hro
    have HP2 : Hid (p.length = 2) := h2
    have HLE : Hid (∀ wx, Below w.heap.size w wx → Calls Try.prog 73 #[.slice ro 2 rc] wx fun e w' => e = .returned (.int .i64 (p.getD 0 0)) ∧ w' = wx) := fun wx hb => lesser_c ro rc p wx HP2.out (HP.out wx hb)
    have HGR : Hid (∀ wx, Below w.heap.size w wx → Calls Try.prog 74 #[.slice ro 2 rc] wx fun e w' => e = .returned (.int .i64 (p.getD 1 0)) ∧ w' = wx) := fun wx hb => greater_c ro rc p wx HP2.out (HP.out wx hb)
    generalize p.getD 0 0 = X0 at HST HLE
    generalize p.getD 1 0 = X1 at HST HGR
    clear HP HP2
    have HTL : Hid ((stT t.ps k).length = m) := by show _ = _; rw [stT_length]; exact HM.out.symm
    have k0 : (0 : Int) ≤ (k : Int) := by omega
    have k1 : (k : Int) < (sn : Int) := by omega
    clear hro h2 hkl
    go_wp2_with fail
    refine (courses_c wr).mono ?_
    rintro e w1 ⟨rfl, hb⟩
    have HB1 : Hid (Below w.heap.size w w1) := HB.out.trans (hb.mono HB.out.size)
    have HO1 : Hid (OwnQ w1 w.heap.size (.slice a1 m c1) (stT t.ps k)) := HO.out.later hb
    clear hb HB HO g0
    go_wp2
    refine wp_loop_rounds 3 ?_
    rw [rounds_succ]
    have hX := x2_new w1 .nilFunc .nilFunc 83 w1.heap.size rfl
    have hbU := balloc w1 (.cells #[.nilFunc, .nilFunc] 83)
    obtain ⟨U1, hU1⟩ : ∃ X, (w1.alloc (.cells #[.nilFunc, .nilFunc] 83)) = X := ⟨_, rfl⟩
    rw [hU1] at hX hbU
    have hXF := (hX.set0 (.func (.func 73) #[] #[])).set1 (.func (.func 74) #[] #[])
    have hbV : Below w1.heap.size w1 ((U1.setCell ⟨w1.heap.size, 0, none⟩ (.func (.func 73) #[] #[])).setCell ⟨w1.heap.size, 1, none⟩ (.func (.func 74) #[] #[])) := (hbU.setCell (Nat.le_refl _) _).setCell (Nat.le_refl _) _
    obtain ⟨⟨c0, c1x⟩, fz⟩ := hX
    have z0 := fz 0
    have z1 := fz 1
    clear fz
    obtain ⟨V1, hV1⟩ : ∃ X, ((U1.setCell ⟨w1.heap.size, 0, none⟩ (.func (.func 73) #[] #[])).setCell ⟨w1.heap.size, 1, none⟩ (.func (.func 74) #[] #[])) = X := ⟨_, rfl⟩
    rw [hV1] at hXF hbV
    have HX1 : Hid (X2 V1 w1.heap.size (.func (.func 73) #[] #[]) (.func (.func 74) #[] #[])) := hXF
    have HV1 : Hid (Below w1.heap.size w1 V1) := hbV
    clear hXF hbV
    go_wp2_with fail
    try rw [hV1]
    clear hV1 hU1 hbU c0 c1x z0 z1
    obtain ⟨D1, hD1⟩ : ∃ D, V1.drew = D := ⟨_, rfl⟩
    refine wp_region_held_drew (S := (fun X => X.cell? ⟨w1.heap.size, 0, none⟩ = some (.func (.func 73) #[] #[]) ∧ X.cell? ⟨w1.heap.size, 1, none⟩ = some (.func (.func 74) #[] #[]))) (by kernel_rfl) ?_ (fun hHeld => ?_)
    · exact (HX1.out.later (Below.refl _ _).drew).1
    have HD1 : Hid (Below w1.heap.size w1 D1) := by rw [← hD1]; exact HV1.out.drew
    have HXD1 : Hid (X2 D1 w1.heap.size (.func (.func 73) #[] #[]) (.func (.func 74) #[] #[])) := by rw [← hD1]; exact HX1.out.later (Below.refl _ _).drew
    rw [hD1] at hHeld ⊢
    clear hD1
    refine takeSO15 (i := 0) (oi := _) (v := ?_) (d := some 20) rfl (by kernel_rfl) (by kernel_rfl) (by kernel_rfl) (by kernel_rfl) (fun _ _ _ h => h) (Or.inl ⟨by rfl, ?_⟩) (by assumption) ?_
    rotate_left
    · (intro w hSw; (try dsimp only at hSw); go_simp <;> with_reducible rfl)
    try simp only [Act.put, List.setIfInBounds_toArray, List.set_cons_zero, List.set_cons_succ]
    refine takeSO15 (i := 1) (oi := _) (v := ?_) (d := some 21) rfl (by kernel_rfl) (by kernel_rfl) (by kernel_rfl) (by kernel_rfl) (fun _ _ _ h => h) (Or.inl ⟨by rfl, ?_⟩) (by assumption) ?_
    rotate_left
    · (intro w hSw; (try dsimp only at hSw); go_simp <;> with_reducible rfl)
    try simp only [Act.put, List.setIfInBounds_toArray, List.set_cons_zero, List.set_cons_succ]
    refine takeSO15 (i := 2) (oi := _) (v := ?_) (d := some 22) rfl (by kernel_rfl) (by kernel_rfl) (by kernel_rfl) (by kernel_rfl) (fun _ _ _ h => h) (Or.inl ⟨by rfl, ?_⟩) (by assumption) ?_
    rotate_left
    · (intro w hSw; (try dsimp only at hSw); go_simp <;> with_reducible rfl)
    try simp only [Act.put, List.setIfInBounds_toArray, List.set_cons_zero, List.set_cons_succ]
    refine takeSO15 (i := 3) (oi := _) (v := ?_) (d := some 23) rfl (by kernel_rfl) (by kernel_rfl) (by kernel_rfl) (by kernel_rfl) (fun _ _ _ h => h) (Or.inl ⟨by rfl, ?_⟩) (by assumption) ?_
    rotate_left
    · (intro w hSw; (try dsimp only at hSw); go_simp <;> with_reducible rfl)
    try simp only [Act.put, List.setIfInBounds_toArray, List.set_cons_zero, List.set_cons_succ]
    refine takeSO15 (i := 5) (oi := _) (v := ?_) (d := some 25) rfl (by kernel_rfl) (by kernel_rfl) (by kernel_rfl) (by kernel_rfl) (fun _ _ _ h => h) (Or.inl ⟨by rfl, ?_⟩) (by assumption) ?_
    rotate_left
    · (intro w hSw; (try dsimp only at hSw); go_simp <;> with_reducible rfl)
    try simp only [Act.put, List.setIfInBounds_toArray, List.set_cons_zero, List.set_cons_succ]
    refine takeSO15 (i := 6) (oi := _) (v := ?_) (d := some 26) rfl (by kernel_rfl) (by kernel_rfl) (by kernel_rfl) (by kernel_rfl) (fun _ _ _ h => h) (Or.inl ⟨by rfl, ?_⟩) (by assumption) ?_
    rotate_left
    · (intro w hSw; (try dsimp only at hSw); go_simp <;> with_reducible rfl)
    try simp only [Act.put, List.setIfInBounds_toArray, List.set_cons_zero, List.set_cons_succ]
    refine takeSO15 (i := 7) (oi := _) (v := ?_) (d := some 27) rfl (by kernel_rfl) (by kernel_rfl) (by kernel_rfl) (by kernel_rfl) (fun _ _ _ h => h) (Or.inl ⟨by rfl, ?_⟩) (by assumption) ?_
    rotate_left
    · (intro w hSw; (try dsimp only at hSw); go_simp <;> with_reducible rfl)
    try simp only [Act.put, List.setIfInBounds_toArray, List.set_cons_zero, List.set_cons_succ]
    refine takeSO15 (i := 9) (oi := _) (v := ?_) (d := some 29) rfl (by kernel_rfl) (by kernel_rfl) (by kernel_rfl) (by kernel_rfl) (fun _ _ _ h => h) (Or.inl ⟨by rfl, ?_⟩) (by assumption) ?_
    rotate_left
    · (intro w hSw; (try dsimp only at hSw); go_simp <;> with_reducible rfl)
    try simp only [Act.put, List.setIfInBounds_toArray, List.set_cons_zero, List.set_cons_succ]
    refine wpAnyH_ready (rs := [4]) (by kernel_rfl) (by simp) ?_
    refine AllReadyH.cons (o := _) rfl (fun K hK => ?_) AllReadyH.nil
    go_simp
    refine (HLE.out D1 (HB1.out.trans (HD1.out.mono HB1.out.size))).mono ?_
    rintro e wq ⟨rfl, hw⟩
    have hw2 := hw.symm
    clear hw
    subst hw2
    refine hK.out _ _ ?_ (fun hHeld => ?_)
    · exact HXD1.out.1
    clear hK K
    try simp only [Act.put, List.setIfInBounds_toArray, List.set_cons_zero, List.set_cons_succ]
    refine wpAnyH_ready (rs := [8]) (by kernel_rfl) (by simp) ?_
    refine AllReadyH.cons (o := _) rfl (fun K hK => ?_) AllReadyH.nil
    go_simp
    refine (HGR.out D1 (HB1.out.trans (HD1.out.mono HB1.out.size))).mono ?_
    rintro e wr2 ⟨rfl, hw⟩
    have hw2 := hw.symm
    clear hw
    subst hw2
    refine hK.out _ _ ?_ (fun hHeld => ?_)
    · exact HXD1.out.1
    clear hK K
    try simp only [Act.put, List.setIfInBounds_toArray, List.set_cons_zero, List.set_cons_succ]
    refine takeSO15 (i := 10) (oi := _) (v := ?_) (d := some 30) rfl (by kernel_rfl) (by kernel_rfl) (by kernel_rfl) (by kernel_rfl) (fun _ _ _ h => h) (Or.inl ⟨by rfl, ?_⟩) (by assumption) ?_
    rotate_left
    · (intro w hSw; (try dsimp only at hSw); go_simp <;> with_reducible rfl)
    try simp only [Act.put, List.setIfInBounds_toArray, List.set_cons_zero, List.set_cons_succ]
    have hbL := balloc D1 (.cells #[.int .i64 (X0), .int .i64 (X1), .int .i64 k] 78)
    have hLit := litQ D1 (X0) (X1) (k : Int)
    obtain ⟨E1, hE1⟩ : ∃ X, (D1.alloc (.cells #[.int .i64 (X0), .int .i64 (X1), .int .i64 k] 78)) = X := ⟨_, rfl⟩
    rw [hE1] at hbL hLit
    have HE1 : Hid (Below w1.heap.size w1 E1) := HD1.out.trans (hbL.mono HD1.out.size)
    have HXE1 : Hid (X2 E1 w1.heap.size (.func (.func 73) #[] #[]) (.func (.func 74) #[] #[])) := HXD1.out.later hbL
    refine wpAnyH_ready (rs := [11]) (by kernel_rfl) (by simp) ?_
    refine AllReadyH.cons (o := _) rfl (fun K hK => ?_) AllReadyH.nil
    go_simp
    refine hK.out _ _ ?_ (fun hHeld => ?_)
    · exact HXE1.out.1
    clear hK K
    try simp only [Act.put, List.setIfInBounds_toArray, List.set_cons_zero, List.set_cons_succ]
    clear hE1
    obtain ⟨v1, F1, r1, o1, hg1, hb1⟩ := appendQ_run E1 w.heap.size (.slice a1 m c1) (stT t.ps k) [(X0, X1, (k : Int))] (some ⟨D1.heap.size, 0, none⟩) 1 1 (HO1.out.later HE1.out) hLit rfl (by intro h; cases h) (by rw [HTL.out]; simp; have := HM.out; omega) (by have h1 := HB1.out.size; have h2 := HE1.out.size; omega)
    obtain ⟨a11, c11, hv1⟩ := o1.shape
    rw [List.length_append, HTL.out] at hv1
    simp only [List.length_cons, List.length_nil] at hv1
    subst hv1
    have HO11 : Hid (OwnQ F1 w.heap.size (.slice a11 (m + 1) c11) (stT t.ps k ++ [(X0, X1, (k : Int))])) := o1
    have HF1 : Hid (Below w.heap.size E1 F1) := hb1
    have HXF1 : Hid (X2 F1 w1.heap.size (.func (.func 73) #[] #[]) (.func (.func 74) #[] #[])) := HXE1.out.grown hg1 (fun e => by rcases (HO1.out.later (Below.refl _ _)).addr with ⟨h, _⟩ | ⟨g, h, _, h3⟩ <;> rw [h] at e <;> simp [Value.ownBlock] at e; omega)
    clear o1 hg1 hb1 hLit hbL
    refine wpAnyH_ready (rs := [12]) (by kernel_rfl) (by simp) ?_
    refine AllReadyH.cons (o := _) rfl (fun K hK => ?_) AllReadyH.nil
    rw [if_pos (by rfl)]
    refine Lib.wp_append_run _ _ _ _ _ rfl (.slice a1 m c1) (.slice (some ⟨D1.heap.size, 0, none⟩) 1 1) (by rfl) (by rfl) (.slice a11 (m + 1) c11) F1 (r1 _) ?_
    clear r1
    refine hK.out _ _ ?_ (fun hHeld => ?_)
    · exact HXF1.out.1
    clear hK K
    try simp only [Act.put, List.setIfInBounds_toArray, List.set_cons_zero, List.set_cons_succ]
    refine takeSO15 (i := 13) (oi := _) (v := ?_) (d := some 3) rfl (by kernel_rfl) (by kernel_rfl) (by kernel_rfl) (by kernel_rfl) (fun _ _ _ h => h) (Or.inl ⟨by rfl, ?_⟩) (by assumption) ?_
    rotate_left
    · (intro w hSw; (try dsimp only at hSw); go_simp <;> with_reducible rfl)
    try simp only [Act.put, List.setIfInBounds_toArray, List.set_cons_zero, List.set_cons_succ]
    refine wpAnyH_done (by kernel_rfl) ?_ _
    clear hHeld
    have HB2 : Hid (Below w.heap.size w F1) := HB1.out.trans ((HE1.out.mono HB1.out.size).trans HF1.out)
    have HTL2 : Hid ((stT t.ps k ++ [(X0, X1, (k : Int))]).length = m + 1) := by show _ = _; rw [List.length_append, HTL.out]; rfl
    clear HX1 HV1 HD1 HXD1 HE1 HXE1 HF1 HXF1 HO1 HB1
    go_wp2_with fail
    rw [rounds_succ]
    have hX := x2_new F1 .nilFunc .nilFunc 83 F1.heap.size rfl
    have hbU := balloc F1 (.cells #[.nilFunc, .nilFunc] 83)
    obtain ⟨U2, hU2⟩ : ∃ X, (F1.alloc (.cells #[.nilFunc, .nilFunc] 83)) = X := ⟨_, rfl⟩
    rw [hU2] at hX hbU
    have hXF := (hX.set0 (.func (.func 74) #[] #[])).set1 (.func (.func 73) #[] #[])
    have hbV : Below F1.heap.size F1 ((U2.setCell ⟨F1.heap.size, 0, none⟩ (.func (.func 74) #[] #[])).setCell ⟨F1.heap.size, 1, none⟩ (.func (.func 73) #[] #[])) := (hbU.setCell (Nat.le_refl _) _).setCell (Nat.le_refl _) _
    obtain ⟨⟨c0, c1x⟩, fz⟩ := hX
    have z0 := fz 0
    have z1 := fz 1
    clear fz
    obtain ⟨V2, hV2⟩ : ∃ X, ((U2.setCell ⟨F1.heap.size, 0, none⟩ (.func (.func 74) #[] #[])).setCell ⟨F1.heap.size, 1, none⟩ (.func (.func 73) #[] #[])) = X := ⟨_, rfl⟩
    rw [hV2] at hXF hbV
    have HX2 : Hid (X2 V2 F1.heap.size (.func (.func 74) #[] #[]) (.func (.func 73) #[] #[])) := hXF
    have HV2 : Hid (Below F1.heap.size F1 V2) := hbV
    clear hXF hbV
    go_wp2_with fail
    try rw [hV2]
    clear hV2 hU2 hbU c0 c1x z0 z1
    obtain ⟨D2, hD2⟩ : ∃ D, V2.drew = D := ⟨_, rfl⟩
    refine wp_region_held_drew (S := (fun X => X.cell? ⟨F1.heap.size, 0, none⟩ = some (.func (.func 74) #[] #[]) ∧ X.cell? ⟨F1.heap.size, 1, none⟩ = some (.func (.func 73) #[] #[]))) (by kernel_rfl) ?_ (fun hHeld => ?_)
    · exact (HX2.out.later (Below.refl _ _).drew).1
    have HD2 : Hid (Below F1.heap.size F1 D2) := by rw [← hD2]; exact HV2.out.drew
    have HXD2 : Hid (X2 D2 F1.heap.size (.func (.func 74) #[] #[]) (.func (.func 73) #[] #[])) := by rw [← hD2]; exact HX2.out.later (Below.refl _ _).drew
    rw [hD2] at hHeld ⊢
    clear hD2
    refine takeSO15 (i := 0) (oi := _) (v := ?_) (d := some 20) rfl (by kernel_rfl) (by kernel_rfl) (by kernel_rfl) (by kernel_rfl) (fun _ _ _ h => h) (Or.inl ⟨by rfl, ?_⟩) (by assumption) ?_
    rotate_left
    · (intro w hSw; (try dsimp only at hSw); go_simp <;> with_reducible rfl)
    try simp only [Act.put, List.setIfInBounds_toArray, List.set_cons_zero, List.set_cons_succ]
    refine takeSO15 (i := 1) (oi := _) (v := ?_) (d := some 21) rfl (by kernel_rfl) (by kernel_rfl) (by kernel_rfl) (by kernel_rfl) (fun _ _ _ h => h) (Or.inl ⟨by rfl, ?_⟩) (by assumption) ?_
    rotate_left
    · (intro w hSw; (try dsimp only at hSw); go_simp <;> with_reducible rfl)
    try simp only [Act.put, List.setIfInBounds_toArray, List.set_cons_zero, List.set_cons_succ]
    refine takeSO15 (i := 2) (oi := _) (v := ?_) (d := some 22) rfl (by kernel_rfl) (by kernel_rfl) (by kernel_rfl) (by kernel_rfl) (fun _ _ _ h => h) (Or.inl ⟨by rfl, ?_⟩) (by assumption) ?_
    rotate_left
    · (intro w hSw; (try dsimp only at hSw); go_simp <;> with_reducible rfl)
    try simp only [Act.put, List.setIfInBounds_toArray, List.set_cons_zero, List.set_cons_succ]
    refine takeSO15 (i := 3) (oi := _) (v := ?_) (d := some 23) rfl (by kernel_rfl) (by kernel_rfl) (by kernel_rfl) (by kernel_rfl) (fun _ _ _ h => h) (Or.inl ⟨by rfl, ?_⟩) (by assumption) ?_
    rotate_left
    · (intro w hSw; (try dsimp only at hSw); go_simp <;> with_reducible rfl)
    try simp only [Act.put, List.setIfInBounds_toArray, List.set_cons_zero, List.set_cons_succ]
    refine takeSO15 (i := 5) (oi := _) (v := ?_) (d := some 25) rfl (by kernel_rfl) (by kernel_rfl) (by kernel_rfl) (by kernel_rfl) (fun _ _ _ h => h) (Or.inl ⟨by rfl, ?_⟩) (by assumption) ?_
    rotate_left
    · (intro w hSw; (try dsimp only at hSw); go_simp <;> with_reducible rfl)
    try simp only [Act.put, List.setIfInBounds_toArray, List.set_cons_zero, List.set_cons_succ]
    refine takeSO15 (i := 6) (oi := _) (v := ?_) (d := some 26) rfl (by kernel_rfl) (by kernel_rfl) (by kernel_rfl) (by kernel_rfl) (fun _ _ _ h => h) (Or.inl ⟨by rfl, ?_⟩) (by assumption) ?_
    rotate_left
    · (intro w hSw; (try dsimp only at hSw); go_simp <;> with_reducible rfl)
    try simp only [Act.put, List.setIfInBounds_toArray, List.set_cons_zero, List.set_cons_succ]
    refine takeSO15 (i := 7) (oi := _) (v := ?_) (d := some 27) rfl (by kernel_rfl) (by kernel_rfl) (by kernel_rfl) (by kernel_rfl) (fun _ _ _ h => h) (Or.inl ⟨by rfl, ?_⟩) (by assumption) ?_
    rotate_left
    · (intro w hSw; (try dsimp only at hSw); go_simp <;> with_reducible rfl)
    try simp only [Act.put, List.setIfInBounds_toArray, List.set_cons_zero, List.set_cons_succ]
    refine takeSO15 (i := 9) (oi := _) (v := ?_) (d := some 29) rfl (by kernel_rfl) (by kernel_rfl) (by kernel_rfl) (by kernel_rfl) (fun _ _ _ h => h) (Or.inl ⟨by rfl, ?_⟩) (by assumption) ?_
    rotate_left
    · (intro w hSw; (try dsimp only at hSw); go_simp <;> with_reducible rfl)
    try simp only [Act.put, List.setIfInBounds_toArray, List.set_cons_zero, List.set_cons_succ]
    refine wpAnyH_ready (rs := [4]) (by kernel_rfl) (by simp) ?_
    refine AllReadyH.cons (o := _) rfl (fun K hK => ?_) AllReadyH.nil
    go_simp
    refine (HGR.out D2 (HB2.out.trans (HD2.out.mono HB2.out.size))).mono ?_
    rintro e wq ⟨rfl, hw⟩
    have hw2 := hw.symm
    clear hw
    subst hw2
    refine hK.out _ _ ?_ (fun hHeld => ?_)
    · exact HXD2.out.1
    clear hK K
    try simp only [Act.put, List.setIfInBounds_toArray, List.set_cons_zero, List.set_cons_succ]
    refine wpAnyH_ready (rs := [8]) (by kernel_rfl) (by simp) ?_
    refine AllReadyH.cons (o := _) rfl (fun K hK => ?_) AllReadyH.nil
    go_simp
    refine (HLE.out D2 (HB2.out.trans (HD2.out.mono HB2.out.size))).mono ?_
    rintro e wr2 ⟨rfl, hw⟩
    have hw2 := hw.symm
    clear hw
    subst hw2
    refine hK.out _ _ ?_ (fun hHeld => ?_)
    · exact HXD2.out.1
    clear hK K
    try simp only [Act.put, List.setIfInBounds_toArray, List.set_cons_zero, List.set_cons_succ]
    refine takeSO15 (i := 10) (oi := _) (v := ?_) (d := some 30) rfl (by kernel_rfl) (by kernel_rfl) (by kernel_rfl) (by kernel_rfl) (fun _ _ _ h => h) (Or.inl ⟨by rfl, ?_⟩) (by assumption) ?_
    rotate_left
    · (intro w hSw; (try dsimp only at hSw); go_simp <;> with_reducible rfl)
    try simp only [Act.put, List.setIfInBounds_toArray, List.set_cons_zero, List.set_cons_succ]
    have hbL := balloc D2 (.cells #[.int .i64 (X1), .int .i64 (X0), .int .i64 k] 78)
    have hLit := litQ D2 (X1) (X0) (k : Int)
    obtain ⟨E2, hE2⟩ : ∃ X, (D2.alloc (.cells #[.int .i64 (X1), .int .i64 (X0), .int .i64 k] 78)) = X := ⟨_, rfl⟩
    rw [hE2] at hbL hLit
    have HE2 : Hid (Below F1.heap.size F1 E2) := HD2.out.trans (hbL.mono HD2.out.size)
    have HXE2 : Hid (X2 E2 F1.heap.size (.func (.func 74) #[] #[]) (.func (.func 73) #[] #[])) := HXD2.out.later hbL
    refine wpAnyH_ready (rs := [11]) (by kernel_rfl) (by simp) ?_
    refine AllReadyH.cons (o := _) rfl (fun K hK => ?_) AllReadyH.nil
    go_simp
    refine hK.out _ _ ?_ (fun hHeld => ?_)
    · exact HXE2.out.1
    clear hK K
    try simp only [Act.put, List.setIfInBounds_toArray, List.set_cons_zero, List.set_cons_succ]
    clear hE2
    obtain ⟨v2, F2, r1, o1, hg1, hb1⟩ := appendQ_run E2 w.heap.size (.slice a11 (m + 1) c11) ((stT t.ps k ++ [(X0, X1, (k : Int))])) [(X1, X0, (k : Int))] (some ⟨D2.heap.size, 0, none⟩) 1 1 (HO11.out.later HE2.out) hLit rfl (by intro h; cases h) (by rw [HTL2.out]; simp; have := HM.out; omega) (by have h1 := HB2.out.size; have h2 := HE2.out.size; omega)
    obtain ⟨a12, c12, hv2⟩ := o1.shape
    rw [List.length_append, HTL2.out] at hv2
    simp only [List.length_cons, List.length_nil] at hv2
    subst hv2
    have HO12 : Hid (OwnQ F2 w.heap.size (.slice a12 ((m + 1) + 1) c12) ((stT t.ps k ++ [(X0, X1, (k : Int))]) ++ [(X1, X0, (k : Int))])) := o1
    have HF2 : Hid (Below w.heap.size E2 F2) := hb1
    have HXF2 : Hid (X2 F2 F1.heap.size (.func (.func 74) #[] #[]) (.func (.func 73) #[] #[])) := HXE2.out.grown hg1 (fun e => by rcases (HO11.out.later (Below.refl _ _)).addr with ⟨h, _⟩ | ⟨g, h, _, h3⟩ <;> rw [h] at e <;> simp [Value.ownBlock] at e; omega)
    clear o1 hg1 hb1 hLit hbL
    refine wpAnyH_ready (rs := [12]) (by kernel_rfl) (by simp) ?_
    refine AllReadyH.cons (o := _) rfl (fun K hK => ?_) AllReadyH.nil
    rw [if_pos (by rfl)]
    refine Lib.wp_append_run _ _ _ _ _ rfl (.slice a11 (m + 1) c11) (.slice (some ⟨D2.heap.size, 0, none⟩) 1 1) (by rfl) (by rfl) (.slice a12 ((m + 1) + 1) c12) F2 (r1 _) ?_
    clear r1
    refine hK.out _ _ ?_ (fun hHeld => ?_)
    · exact HXF2.out.1
    clear hK K
    try simp only [Act.put, List.setIfInBounds_toArray, List.set_cons_zero, List.set_cons_succ]
    refine takeSO15 (i := 13) (oi := _) (v := ?_) (d := some 3) rfl (by kernel_rfl) (by kernel_rfl) (by kernel_rfl) (by kernel_rfl) (fun _ _ _ h => h) (Or.inl ⟨by rfl, ?_⟩) (by assumption) ?_
    rotate_left
    · (intro w hSw; (try dsimp only at hSw); go_simp <;> with_reducible rfl)
    try simp only [Act.put, List.setIfInBounds_toArray, List.set_cons_zero, List.set_cons_succ]
    refine wpAnyH_done (by kernel_rfl) ?_ _
    clear hHeld
    have HB3 : Hid (Below w.heap.size w F2) := HB2.out.trans ((HE2.out.mono HB2.out.size).trans HF2.out)
    have HO3 : Hid (OwnQ F2 w.heap.size (.slice a12 (m + 1 + 1) c12) (stT t.ps (k + 1))) := by show OwnQ _ _ _ _; rw [HST.out]; exact HO12.out
    have HM3 : Hid (m + 1 + 1 = 2 * (k + 1)) := by show _ = _; have := HM.out; omega
    clear HX2 HV2 HD2 HXD2 HE2 HXE2 HF2 HXF2 HO11 HO12 HB2
    go_wp2_with fail
    rw [rounds_succ]
    go_wp2
    go_roundw
    case rel => exact ⟨k + 1, m + 1 + 1, a12, c12, by omega, HM3, by go_num, rfl, HO3, HB3⟩
    case measure => simp [intOf]; omega

end Go.Proofs.Ytbjpkklonjlmiaa
