/- Chapter 8, the specification: own copies of mixes, a tick. -/
import Derived.Test.YtnppmgnfignbcaaPL8
import Derived.Test.YtnppmgnfignbcaaV8
namespace Go.Proofs.Ytnppmgnfignbcaa
set_option linter.unusedVariables false
set_option maxRecDepth 1000000
set_option linter.unusedSimpArgs false
open Go.RowKit

set_option maxHeartbeats 2000000 in
theorem l8Own_c (po so : Option Addr) (n c m d : Nat) (a b t : Int) (xs : List ByteArray) (ys : List Int) (w : World) (hx : xs.length = n) (hy : ys.length = m) (hn : n ≤ 1000) (hm : m ≤ 1000) (hr : RdS w po xs) (hs : Rd w so ys) (hpn : po = none → n = 0 ∧ c = 0) (hsn : so = none → m = 0 ∧ d = 0) :
    Calls Try.prog 75 #[.agg #[.slice po n c, .int .i64 a, .int .i64 b, .int .i64 t, .slice so m d]] w fun e w' => ∃ p' c' s' d', e = .returned (.agg #[.slice p' n c', .int .i64 a, .int .i64 b, .int .i64 t, .slice s' m d']) ∧ OwnS w' w.heap.size (.slice p' n c') xs ∧ Own w' w.heap.size (.slice s' m d') ys ∧ Below w.heap.size w w' := by
  obtain ⟨W0, hW0, hC0, hD0, hB0, hS0⟩ := two_boxes w (.slice po n c) a b t (.slice so m d) 41
  -- the pool's copy
  have hE := emptyS W0
  have bE := balloc W0 (.cells #[] 9)
  have cE := hC0.later bE
  have dE := hD0.later bE
  obtain ⟨E, hEe⟩ : ∃ E, W0.alloc (.cells #[] 9) = E := ⟨_, rfl⟩
  rw [hEe] at hE bE cE dE
  obtain ⟨v1, w1, r1, o1, g1, b1⟩ := appendS_run E W0.heap.size _ [] xs po n c hE (hr.later (hB0.trans (bE.mono hB0.size))) hx hpn (by simp; omega) bE.size
  rw [List.nil_append] at o1
  obtain ⟨p1, k1, hv1⟩ := o1.shape
  rw [hx] at hv1
  subst hv1
  have hBW : Below W0.heap.size W0 w1 := bE.trans b1
  have c1 := cE.grown g1 (by simp [Value.ownBlock]; omega)
  have d1 := dE.grown g1 (by simp [Value.ownBlock]; omega)
  -- behind the store
  have c2 := c1.set0 (.slice p1 n k1)
  have d2 := d1.setOther (g := w.heap.size) (k := 0) (by omega) (.slice p1 n k1)
  have o2 := o1.setBox (r := w.heap.size) (k := 0) (by omega) (.slice p1 n k1)
  have B1 : Below w.heap.size w w1 := hB0.trans (hBW.mono hB0.size)
  have B2 := B1.setCell (p := ⟨w.heap.size, 0, none⟩) (Nat.le_refl _) (.slice p1 n k1)
  have s2 : (w1.setCell ⟨w.heap.size, 0, none⟩ (.slice p1 n k1)).heap.size = w1.heap.size := by simp
  have z1 : W0.heap.size ≤ w1.heap.size := hBW.size
  obtain ⟨U, hU⟩ : ∃ U, w1.setCell ⟨w.heap.size, 0, none⟩ (.slice p1 n k1) = U := ⟨_, rfl⟩
  rw [hU] at c2 d2 o2 B2 s2
  -- the copy of what was seen
  have hF := emptyI U
  have bF := balloc U (.cells #[] 3)
  have cF := c2.later bF
  have dF := d2.later bF
  have oF := o2.later bF
  have BF := B2.alloc B2.size (.cells #[] 3)
  obtain ⟨F, hFe⟩ : ∃ F, U.alloc (.cells #[] 3) = F := ⟨_, rfl⟩
  rw [hFe] at hF bF cF dF oF BF
  obtain ⟨v3, w3, r3, o3, g3, b3⟩ := appendI_run F U.heap.size _ [] ys so m d hF (hs.later BF) hy hsn (by simp; omega) bF.size
  rw [List.nil_append] at o3
  obtain ⟨s3, d3, hv3⟩ := o3.shape
  rw [hy] at hv3
  subst hv3
  have c3 := cF.grown g3 (by simp [Value.ownBlock]; omega)
  have d3' := dF.grown g3 (by simp [Value.ownBlock]; omega)
  have q3 := oF.kept g3 (Or.inr fun e => by have := (World.ownsRow.lt o2 _ e).2; have h := hF.rd'.1; simp [Value.ownBlock] at *)
  have B3 : Below w.heap.size w w3 := BF.trans (b3.mono (by omega))
  have d4 := d3'.setOther (g := w.heap.size) (k := 4) (by omega) (.slice s3 m d3)
  have q4 := q3.setBox (r := w.heap.size) (k := 4) (by omega) (.slice s3 m d3)
  have o4 := o3.setBox (r := w.heap.size) (k := 4) (by omega) (.slice s3 m d3)
  have c4 := c3.set4 (.slice s3 m d3)
  have B4 := B3.setCell (p := ⟨w.heap.size, 4, none⟩) (Nat.le_refl _) (.slice s3 m d3)
  obtain ⟨U2, hU2⟩ : ∃ U2, w3.setCell ⟨w.heap.size, 4, none⟩ (.slice s3 m d3) = U2 := ⟨_, rfl⟩
  rw [hU2] at d4 q4 o4 c4 B4
  have HQ : Hid (OwnS U2 (w.heap.size + 2) (.slice p1 n k1) xs) := q4.mono (by omega)
  have HO : Hid (Own U2 (w.heap.size + 2) (.slice s3 m d3) ys) := o4.mono (by omega)
  have HB : Hid (Below w.heap.size w U2) := B4
  obtain ⟨⟨a0, a1, a2, a3, a4⟩, af⟩ := cE
  obtain ⟨⟨f0, _⟩, ff⟩ := c1
  have ff0 := ff 0
  obtain ⟨⟨_, _, _, _, h4⟩, hf⟩ := cF
  obtain ⟨⟨_, _, _, _, i4⟩, if'⟩ := c3
  have if4 := if' 4
  obtain ⟨⟨j0, j1, j2, j3, j4⟩, jf⟩ := c4
  obtain ⟨⟨e0, e1, e2, e3, e4⟩, ef⟩ := d4
  have ef0 := ef 0; have ef1 := ef 1; have ef2 := ef 2; have ef3 := ef 3; have ef4 := ef 4
  clear hr hs hpn hsn hC0 hD0 hB0 hS0 hE bE dE o1 g1 b1 hBW d1 c2 d2 o2 B1 B2 s2 z1 hF bF dF oF BF o3 g3 b3 d3' q3 B3 q4 o4 B4 af ff hf if' jf ef hx hy
  go_enter Try.func75, Try.ntmps75
  go_wp2_with (first | (at_builtin; refine Lib.wpList_append_run _ rfl _ _ _ _ rfl _ _ rfl rfl _ _ (r1 _) ?_; clear r1) | (at_builtin; refine Lib.wpList_append_run _ rfl _ _ _ _ rfl _ _ rfl rfl _ _ (r3 _) ?_; clear r3))
  refine bodyPost_ret (v := .agg #[.slice p1 n k1, .int .i64 a, .int .i64 b, .int .i64 t, .slice s3 m d3]) (by simp [results, Try.results75, go_sem, e0, e1, e2, e3, e4]; try rfl) rfl ?_
  exact ⟨p1, k1, s3, d3, rfl, (HQ.out.putBox (r := w.heap.size + 1) (by omega) _ _ _ _ _).mono (by omega), (HO.out.putBox (r := w.heap.size + 1) (by omega) _ _ _ _ _).mono (by omega), HB.out.trans (below_grown (put5_grown _ _ _ _ _ _ _) (by omega) HB.out.size)⟩

/-- What a tick makes of a mix's value: the pool and what goes out are the pool as it was, or nothing. -/
def TickV (w w' : World) (e : Ending) (po : Option Addr) (c : Nat) (a b : Int) (so : Option Addr) (m d : Nat) (z : MixV) (l : List ByteArray) : Prop :=
  ∃ p' c' q' k', e = .returned (.tuple #[.agg #[.slice p' z.pool.length c', .int .i64 a, .int .i64 b, .int .i64 z.old, .slice so m d], .slice q' l.length k']) ∧ RdS w' p' z.pool ∧ RdS w' q' l ∧ (p' = none → z.pool.length = 0 ∧ c' = 0) ∧ (q' = none → l.length = 0 ∧ k' = 0) ∧ ((p' = po ∧ c' = c ∧ q' = none ∧ k' = 0 ∧ l = []) ∨ (p' = none ∧ c' = 0 ∧ q' = po ∧ k' = c ∧ z.pool = []))

set_option maxHeartbeats 1000000 in
theorem l8Tick_none (po so : Option Addr) (c m d : Nat) (a b t : Int) (ys : List Int) (w : World) (hpn : po = none → c = 0) :
    Calls Try.prog 60 #[.agg #[.slice po 0 c, .int .i64 a, .int .i64 b, .int .i64 t, .slice so m d]] w fun e w' => TickV w w' e po c a b so m d ⟨[], a, b, t, ys⟩ [] ∧ Below w.heap.size w w' := by
  obtain ⟨W0, hW0, hC0, hD0, hB0, hS0⟩ := two_boxes w (.slice po 0 c) a b t (.slice so m d) 41
  have HB0 : Hid (Below w.heap.size w W0) := hB0
  have HPN : Hid (po = none → c = 0) := hpn
  clear hpn
  obtain ⟨⟨c0, c1, c2, c3, c4⟩, f⟩ := hC0
  obtain ⟨⟨e0, e1, e2, e3, e4⟩, ef⟩ := hD0
  have ef0 := ef 0; have ef1 := ef 1; have ef2 := ef 2; have ef3 := ef 3; have ef4 := ef 4
  clear f ef hB0 hS0
  go_enter Try.func60, Try.ntmps60
  go_wp2
  refine bodyPost_ret (v := .tuple #[.agg #[.slice po 0 c, .int .i64 a, .int .i64 b, .int .i64 t, .slice so m d], .slice none 0 0]) (by simp [results, Try.results60, go_sem, e0, e1, e2, e3, e4]; try rfl) rfl ?_
  exact ⟨⟨po, c, none, 0, rfl, Or.inl rfl, Or.inl rfl, fun h => ⟨rfl, HPN.out h⟩, fun _ => ⟨rfl, rfl⟩, Or.inl ⟨rfl, rfl, rfl, rfl, rfl⟩⟩, HB0.out.trans (below_grown (put5_grown _ _ _ _ _ _ _) (by omega) HB0.out.size)⟩

set_option maxHeartbeats 1000000 in
theorem l8Tick_wait (po so : Option Addr) (n c m d : Nat) (a b t : Int) (xs : List ByteArray) (ys : List Int) (w : World) (hx : xs.length = n) (hn : n ≤ 1000) (hr : RdS w po xs) (hpn : po = none → n = 0 ∧ c = 0) (h0 : ¬ n = 0) (ht : 0 ≤ t ∧ t ≤ 10) (h1 : (n : Int) < a) (h2 : min 10 (t + 1) < b) :
    Calls Try.prog 60 #[.agg #[.slice po n c, .int .i64 a, .int .i64 b, .int .i64 t, .slice so m d]] w fun e w' => TickV w w' e po c a b so m d ⟨xs, a, b, min 10 (t + 1), ys⟩ [] ∧ Below w.heap.size w w' := by
  obtain ⟨W0, hW0, hC0, hD0, hB0, hS0⟩ := two_boxes w (.slice po n c) a b t (.slice so m d) 41
  have HB0 : Hid (Below w.heap.size w W0) := hB0
  have q := fun wx => l1Least_c 10 (t + 1) wx
  obtain ⟨ol, hol⟩ : ∃ ol, min 10 (t + 1) = ol := ⟨_, rfl⟩
  rw [hol] at q h2 ⊢
  have hz : ((n : Int) == 0) = false := by rw [beq_eq_false_iff_ne]; omega
  have hC1 := hC0.set3 ol
  have hD1 := hD0.setOther (g := w.heap.size) (k := 3) (by omega) (.int .i64 ol)
  have hR1 : RdS (put5 (W0.setCell ⟨w.heap.size, 3, none⟩ (.int .i64 ol)) (w.heap.size + 1) (.slice po n c) a b ol (.slice so m d)) po xs := hr.later ((hB0.setCell (p := ⟨w.heap.size, 3, none⟩) (Nat.le_refl _) _).trans (below_grown (put5_grown _ _ _ _ _ _ _) (by omega) (by simp; have := hB0.size; omega)))
  have HR1 : Hid (RdS (put5 (W0.setCell ⟨w.heap.size, 3, none⟩ (.int .i64 ol)) (w.heap.size + 1) (.slice po n c) a b ol (.slice so m d)) po xs) := hR1
  have HX : Hid (xs.length = n) := hx
  obtain ⟨⟨c0, c1, c2, c3, c4⟩, f⟩ := hC0
  have f3 := f 3
  obtain ⟨⟨k0, k1, k2, k3, k4⟩, kf⟩ := hC1
  obtain ⟨⟨e0, e1, e2, e3, e4⟩, ef⟩ := hD1
  have ef0 := ef 0; have ef1 := ef 1; have ef2 := ef 2; have ef3 := ef 3; have ef4 := ef 4
  clear f ef kf hB0 hS0 hD0 h0 hr hol hx hR1
  go_enter Try.func60, Try.ntmps60
  go_wp2_with (go_at_call 97; refine (q _).mono ?_; clear q; rintro e w' ⟨rfl, hw⟩; subst w')
  refine bodyPost_ret (v := .tuple #[.agg #[.slice po n c, .int .i64 a, .int .i64 b, .int .i64 ol, .slice so m d], .slice none 0 0]) (by simp [results, Try.results60, go_sem, e0, e1, e2, e3, e4]; try rfl) rfl ?_
  refine ⟨⟨po, c, none, 0, ?_, HR1.out, Or.inl rfl, ?_, fun _ => ⟨rfl, rfl⟩, Or.inl ⟨rfl, rfl, rfl, rfl, rfl⟩⟩, (HB0.out.setCell (p := ⟨w.heap.size, 3, none⟩) (Nat.le_refl _) _).trans (below_grown (put5_grown _ _ _ _ _ _ _) (by omega) (by simp; have := HB0.out.size; omega))⟩
  · show _ = Ending.returned (.tuple #[.agg #[.slice po xs.length c, .int .i64 a, .int .i64 b, .int .i64 ol, .slice so m d], .slice none 0 0])
    rw [HX.out]
  · show po = none → xs.length = 0 ∧ c = 0
    rw [HX.out]; exact hpn

set_option maxHeartbeats 1000000 in
theorem l8Tick_goes (po so : Option Addr) (n c m d : Nat) (a b t : Int) (xs : List ByteArray) (ys : List Int) (w : World) (hx : xs.length = n) (hn : n ≤ 1000) (hr : RdS w po xs) (hpn : po = none → n = 0 ∧ c = 0) (h0 : ¬ n = 0) (ht : 0 ≤ t ∧ t ≤ 10) (h1 : ¬ ((n : Int) < a ∧ min 10 (t + 1) < b)) :
    Calls Try.prog 60 #[.agg #[.slice po n c, .int .i64 a, .int .i64 b, .int .i64 t, .slice so m d]] w fun e w' => TickV w w' e po c a b so m d ⟨[], a, b, 0, ys⟩ xs ∧ Below w.heap.size w w' := by
  obtain ⟨W0, hW0, hC0, hD0, hB0, hS0⟩ := two_boxes w (.slice po n c) a b t (.slice so m d) 41
  have q := fun wx => l1Least_c 10 (t + 1) wx
  obtain ⟨ol, hol⟩ : ∃ ol, min 10 (t + 1) = ol := ⟨_, rfl⟩
  rw [hol] at q h1
  have hz : ((n : Int) == 0) = false := by rw [beq_eq_false_iff_ne]; omega
  have hC1 := hC0.set3 ol
  have hD1 := hD0.setOther (g := w.heap.size) (k := 3) (by omega) (.int .i64 ol)
  have hB1 := hB0.setCell (p := ⟨w.heap.size, 3, none⟩) (Nat.le_refl _) (.int .i64 ol)
  obtain ⟨U, hU⟩ : ∃ U, W0.setCell ⟨w.heap.size, 3, none⟩ (.int .i64 ol) = U := ⟨_, rfl⟩
  rw [hU] at hC1 hD1 hB1
  have hC2 := hC1.set0 (.slice none 0 0)
  have hD2 := hD1.setOther (g := w.heap.size) (k := 0) (by omega) (.slice none 0 0)
  have hB2 := hB1.setCell (p := ⟨w.heap.size, 0, none⟩) (Nat.le_refl _) (.slice none 0 0)
  obtain ⟨U2, hU2⟩ : ∃ U2, U.setCell ⟨w.heap.size, 0, none⟩ (.slice none 0 0) = U2 := ⟨_, rfl⟩
  rw [hU2] at hC2 hD2 hB2
  have hC3 := hC2.set3 0
  have hD3 := hD2.setOther (g := w.heap.size) (k := 3) (by omega) (.int .i64 0)
  have hB3 := hB2.setCell (p := ⟨w.heap.size, 3, none⟩) (Nat.le_refl _) (.int .i64 0)
  obtain ⟨U3, hU3⟩ : ∃ U3, U2.setCell ⟨w.heap.size, 3, none⟩ (.int .i64 0) = U3 := ⟨_, rfl⟩
  rw [hU3] at hC3 hD3 hB3
  have HB3 : Hid (Below w.heap.size w U3) := hB3
  have hR1 : RdS (put5 U3 (w.heap.size + 1) (.slice none 0 0) a b 0 (.slice so m d)) po xs := hr.later (hB3.trans (below_grown (put5_grown _ _ _ _ _ _ _) (by omega) hB3.size))
  have HR1 : Hid (RdS (put5 U3 (w.heap.size + 1) (.slice none 0 0) a b 0 (.slice so m d)) po xs) := hR1
  have HX : Hid (xs.length = n) := hx
  obtain ⟨⟨c0, c1, c2, c3, c4⟩, f⟩ := hC0
  have f3 := f 3
  obtain ⟨⟨k0, k1, k2, k3, k4⟩, kf⟩ := hC1
  have kf0 := kf 0
  obtain ⟨⟨_, _, _, l3, _⟩, lf⟩ := hC2
  have lf3 := lf 3
  obtain ⟨⟨m0, m1, m2, m3, m4⟩, mf⟩ := hC3
  obtain ⟨⟨e0, e1, e2, e3, e4⟩, ef⟩ := hD3
  have ef0 := ef 0; have ef1 := ef 1; have ef2 := ef 2; have ef3 := ef 3; have ef4 := ef 4
  clear f ef kf lf mf hB0 hB1 hB2 hB3 hS0 hD0 hD1 hD2 h0 hr hol hx hR1
  by_cases h2 : (n : Int) < a
  · have h3 : ¬ ol < b := fun h => h1 ⟨h2, h⟩
    clear h1
    go_enter Try.func60, Try.ntmps60
    go_wp2_with (go_at_call 97; refine (q _).mono ?_; clear q; rintro e w' ⟨rfl, hw⟩; subst w')
    refine bodyPost_ret (v := .tuple #[.agg #[.slice none 0 0, .int .i64 a, .int .i64 b, .int .i64 0, .slice so m d], .slice po n c]) (by simp [results, Try.results60, go_sem, e0, e1, e2, e3, e4]; try rfl) rfl ?_
    refine ⟨⟨none, 0, po, c, ?_, Or.inl rfl, HR1.out, fun _ => ⟨rfl, rfl⟩, ?_, Or.inr ⟨rfl, rfl, rfl, rfl, rfl⟩⟩, HB3.out.trans (below_grown (put5_grown _ _ _ _ _ _ _) (by omega) HB3.out.size)⟩
    · show _ = Ending.returned (.tuple #[.agg #[.slice none 0 0, .int .i64 a, .int .i64 b, .int .i64 0, .slice so m d], .slice po xs.length c])
      rw [HX.out]
    · show po = none → xs.length = 0 ∧ c = 0
      rw [HX.out]; exact hpn
  · clear h1
    go_enter Try.func60, Try.ntmps60
    go_wp2_with (go_at_call 97; refine (q _).mono ?_; clear q; rintro e w' ⟨rfl, hw⟩; subst w')
    refine bodyPost_ret (v := .tuple #[.agg #[.slice none 0 0, .int .i64 a, .int .i64 b, .int .i64 0, .slice so m d], .slice po n c]) (by simp [results, Try.results60, go_sem, e0, e1, e2, e3, e4]; try rfl) rfl ?_
    refine ⟨⟨none, 0, po, c, ?_, Or.inl rfl, HR1.out, fun _ => ⟨rfl, rfl⟩, ?_, Or.inr ⟨rfl, rfl, rfl, rfl, rfl⟩⟩, HB3.out.trans (below_grown (put5_grown _ _ _ _ _ _ _) (by omega) HB3.out.size)⟩
    · show _ = Ending.returned (.tuple #[.agg #[.slice none 0 0, .int .i64 a, .int .i64 b, .int .i64 0, .slice so m d], .slice po xs.length c])
      rw [HX.out]
    · show po = none → xs.length = 0 ∧ c = 0
      rw [HX.out]; exact hpn

theorem l8Tick_c (po so : Option Addr) (n c m d : Nat) (a b t : Int) (xs : List ByteArray) (ys : List Int) (w : World) (hx : xs.length = n) (hn : n ≤ 1000) (hr : RdS w po xs) (hpn : po = none → n = 0 ∧ c = 0) (ht : 0 ≤ t ∧ t ≤ 10) :
    Calls Try.prog 60 #[.agg #[.slice po n c, .int .i64 a, .int .i64 b, .int .i64 t, .slice so m d]] w fun e w' => TickV w w' e po c a b so m d (tickM ⟨xs, a, b, t, ys⟩).1 (tickM ⟨xs, a, b, t, ys⟩).2 ∧ Below w.heap.size w w' := by
  by_cases h0 : n = 0
  · subst h0
    obtain rfl := List.length_eq_zero_iff.1 hx
    have hF : tickM ⟨[], a, b, t, ys⟩ = (⟨[], a, b, t, ys⟩, []) := by unfold tickM; rw [if_pos rfl]
    rw [hF]
    exact l8Tick_none po so c m d a b t ys w (fun e => (hpn e).2)
  · have hne : ¬ xs = [] := fun e => h0 (by rw [← hx, e]; rfl)
    by_cases h1 : (xs.length : Int) < a ∧ min 10 (t + 1) < b
    · have hF : tickM ⟨xs, a, b, t, ys⟩ = (⟨xs, a, b, min 10 (t + 1), ys⟩, []) := by unfold tickM; rw [if_neg hne, if_pos h1]
      rw [hF]
      exact l8Tick_wait po so n c m d a b t xs ys w hx hn hr hpn h0 ht (by rw [← hx]; exact h1.1) h1.2
    · have hF : tickM ⟨xs, a, b, t, ys⟩ = (⟨[], a, b, 0, ys⟩, xs) := by unfold tickM; rw [if_neg hne, if_neg h1]
      rw [hF]
      exact l8Tick_goes po so n c m d a b t xs ys w hx hn hr hpn h0 ht (by rw [← hx]; exact h1)

theorem tickM_seen (m : MixV) : (tickM m).1.seen = m.seen ∧ (tickM m).1.least = m.least ∧ (tickM m).1.wait = m.wait := by
  unfold tickM
  split
  · exact ⟨rfl, rfl, rfl⟩
  · split <;> exact ⟨rfl, rfl, rfl⟩
theorem tickM_small {m : MixV} (h : m.pool.length ≤ 12) : (tickM m).1.pool.length ≤ 12 ∧ (tickM m).2.length ≤ 12 := by
  unfold tickM
  split
  · exact ⟨h, by simp⟩
  · split
    · exact ⟨h, by simp⟩
    · exact ⟨by simp, h⟩

set_option maxHeartbeats 4000000 in
theorem specTick_c (po so : Option Addr) (n c m d : Nat) (a b t : Int) (xs : List ByteArray) (ys : List Int) (w : World) (hx : xs.length = n) (hy : ys.length = m) (hn : n ≤ 1048576) (hm : m ≤ 17592186044416) (hr : RdS w po xs) (hs : Rd w so ys) (hz : ∀ s ∈ xs, s.size ≤ 9223372036854775807) (hpn : po = none → n = 0 ∧ c = 0) (hsn : so = none → m = 0 ∧ d = 0) :
    Calls Try.prog 32 #[.agg #[.slice po n c, .int .i64 a, .int .i64 b, .int .i64 t, .slice so m d]] w fun e w' => TickOut w w' e (tickF ⟨xs, a, b, t, ys⟩).1 (tickF ⟨xs, a, b, t, ys⟩).2.1 (tickF ⟨xs, a, b, t, ys⟩).2.2 ∧ Below w.heap.size w w' := by
  obtain ⟨W0, hW0, hC0, hD0, hB0, hS0⟩ := two_boxes w (.slice po n c) a b t (.slice so m d) 41
  have HC0 : Hid (C5 W0 w.heap.size (.slice po n c) a b t (.slice so m d)) := hC0
  have HD0 : Hid (C5 W0 (w.heap.size + 1) (.slice none 0 0) 0 0 0 (.slice none 0 0)) := hD0
  have HB0 : Hid (Below w.heap.size w W0) := hB0
  have HS0 : Hid (W0.heap.size = w.heap.size + 2) := hS0
  have HX : Hid (xs.length = n) := hx
  have HY : Hid (ys.length = m) := hy
  have HR : Hid (∀ wx, Below w.heap.size w wx → RdS wx po xs) := fun wx h => hr.later h
  have HS : Hid (∀ wx, Below w.heap.size w wx → Rd wx so ys) := fun wx h => hs.later h
  have q2 := specGood_c po so n c m d a b t xs ys W0 hx hy hn hm (hr.later hB0) (hs.later hB0) hz
  obtain ⟨⟨c0, c1, c2, c3, c4⟩, f⟩ := hC0
  have HPN : Hid (po = none → n = 0 ∧ c = 0) := hpn
  have HSN : Hid (so = none → m = 0 ∧ d = 0) := hsn
  clear hr hs hz hB0 hS0 f hx hy hpn hsn hD0
  cases hg : goodB ⟨xs, a, b, t, ys⟩ with
  | false =>
    have hF : tickF ⟨xs, a, b, t, ys⟩ = (MixV.zero, [], false) := by unfold tickF; rw [if_neg (by rw [hg]; simp)]
    rw [hF]
    rw [hg] at q2
    clear hg hF
    go_enter Try.func32, Try.ntmps32
    go_wp2_with fail
    refine q2.mono ?_
    clear q2
    rintro e w1 ⟨rfl, hb1⟩
    have HB1 : Hid (Below w.heap.size w w1) := HB0.out.trans (hb1.mono HB0.out.size)
    clear hW0
    obtain ⟨⟨e0, e1, e2, e3, e4⟩, ef⟩ := HD0.out.later hb1
    have ef0 := ef 0; have ef1 := ef 1; have ef2 := ef 2; have ef3 := ef 3; have ef4 := ef 4
    clear hb1 ef c0 c1 c2 c3 c4
    go_wp2
    refine bodyPost_ret (v := .tuple #[.agg #[.slice none 0 0, .int .i64 0, .int .i64 0, .int .i64 0, .slice none 0 0], .slice none 0 0, .bool false]) (by simp [results, Try.results32, go_sem, e0, e1, e2, e3, e4]; try rfl) rfl ?_
    exact ⟨tickOut_zero _ _, HB1.out.trans (below_grown (put5_grown _ _ _ _ _ _ _) (by omega) HB1.out.size)⟩
  | true =>
    have G := (goodB_iff _).1 hg
    have hn12 : n ≤ 12 := by have := G.many; rw [← HX.out]; exact this
    have hm100 : m ≤ 100 := by have := G.seens; rw [← HY.out]; exact this
    have go : 0 ≤ t ∧ t ≤ 10 := G.old
    have hF0 : tickF ⟨xs, a, b, t, ys⟩ = ((tickM ⟨xs, a, b, t, ys⟩).1, (tickM ⟨xs, a, b, t, ys⟩).2, true) := by unfold tickF; rw [if_pos hg]
    have hsm := tickM_small (m := ⟨xs, a, b, t, ys⟩) G.many
    obtain ⟨hse, hle, hwe⟩ := tickM_seen ⟨xs, a, b, t, ys⟩
    have HTC : Hid (∀ p' c' s' d' wx, RdS wx p' xs → (p' = none → n = 0 ∧ c' = 0) → Calls Try.prog 60 #[.agg #[.slice p' n c', .int .i64 a, .int .i64 b, .int .i64 t, .slice s' m d']] wx fun e w' => TickV wx w' e p' c' a b s' m d' (tickM ⟨xs, a, b, t, ys⟩).1 (tickM ⟨xs, a, b, t, ys⟩).2 ∧ Below wx.heap.size wx w') := fun p' c' s' d' wx h1 h2 => l8Tick_c p' s' n c' m d' a b t xs ys wx HX.out (by omega) h1 h2 go
    rw [hF0]
    rw [hg] at q2
    obtain ⟨Z, hZ⟩ : ∃ Z, (tickM ⟨xs, a, b, t, ys⟩).1 = Z := ⟨_, rfl⟩
    obtain ⟨l, hl⟩ : ∃ l, (tickM ⟨xs, a, b, t, ys⟩).2 = l := ⟨_, rfl⟩
    rw [hZ, hl] at HTC hsm ⊢
    rw [hZ] at hse hle hwe
    obtain ⟨zp, za, zb, zt, zs⟩ := Z
    have e1 : za = a := hle
    have e2 : zb = b := hwe
    have e3 : zs = ys := hse
    subst e1; subst e2; subst e3
    obtain ⟨pn, hpn⟩ : ∃ pn, zp.length = pn := ⟨_, rfl⟩
    obtain ⟨ln, hln⟩ : ∃ ln, l.length = ln := ⟨_, rfl⟩
    have HPL : Hid (zp.length = pn) := hpn
    have HLL : Hid (l.length = ln) := hln
    have hpn12 : pn ≤ 12 := by rw [← hpn]; exact hsm.1
    have hln12 : ln ≤ 12 := by rw [← hln]; exact hsm.2
    clear G hg hF0 hZ hl hse hle hwe hsm hpn hln
    go_enter Try.func32, Try.ntmps32
    go_wp2_with fail
    refine q2.mono ?_
    clear q2
    rintro e w1 ⟨rfl, hb1⟩
    have HB1 : Hid (Below w.heap.size w w1) := HB0.out.trans (hb1.mono HB0.out.size)
    have HD1 : Hid (C5 w1 (w.heap.size + 1) (.slice none 0 0) 0 0 0 (.slice none 0 0)) := HD0.out.later hb1
    have HZ1 : Hid (w.heap.size + 2 ≤ w1.heap.size) := by show _ ≤ _; have := HS0.out; have := hb1.size; omega
    have hC1 := HC0.out.later hb1
    clear hW0 c0 c1 c2 c3 c4 hb1 HC0 HD0 HB0
    obtain ⟨⟨c0, c1, c2, c3, c4⟩, f⟩ := hC1
    clear f
    have q3 := l8Own_c po so n c m d za zb t xs zs w1 HX.out HY.out (by omega) (by omega) (HR.out _ HB1.out) (HS.out _ HB1.out) HPN.out HSN.out
    go_wp2_with fail
    refine q3.mono ?_
    clear q3 c0 c1 c2 c3 c4
    rintro e w2 ⟨p2, k2, s2, d2, rfl, ho2, hp2, hb2⟩
    have HB2 : Hid (Below w.heap.size w w2) := HB1.out.trans (hb2.mono HB1.out.size)
    have HD2 : Hid (C5 w2 (w.heap.size + 1) (.slice none 0 0) 0 0 0 (.slice none 0 0)) := HD1.out.later hb2
    have HZ2 : Hid (w.heap.size + 2 ≤ w2.heap.size) := Nat.le_trans HZ1.out hb2.size
    have HP2 : Hid (Own w2 w1.heap.size (.slice s2 m d2) zs) := hp2
    have q4 := HTC.out p2 k2 s2 d2 w2 ho2.rd'.2 ho2.nil
    clear ho2 hp2 hb2 HB1 HD1 HZ1 HTC
    go_wp2_with fail
    refine q4.mono ?_
    clear q4
    rintro e w3 ⟨⟨p3, k3, q3, j3, rfl, hr3, hl3, hn3, hm3, _⟩, hb3⟩
    have hr3' : RdS w3 p3 zp := hr3
    have hn3' : p3 = none → pn = 0 ∧ k3 = 0 := fun h => by have := hn3 h; rw [← HPL.out]; exact this
    have hm3' : q3 = none → ln = 0 ∧ j3 = 0 := fun h => by have := hm3 h; rw [← HLL.out]; exact this
    have HB3 : Hid (Below w.heap.size w w3) := HB2.out.trans (hb3.mono HB2.out.size)
    have HD3 : Hid (C5 w3 (w.heap.size + 1) (.slice none 0 0) 0 0 0 (.slice none 0 0)) := HD2.out.later hb3
    have HP3 : Hid (Own w3 w1.heap.size (.slice s2 m d2) zs) := HP2.out.later hb3
    have HZ3 : Hid (w.heap.size + 2 ≤ w3.heap.size) := Nat.le_trans HZ2.out hb3.size
    clear hb3 HB2 HD2 HP2 HZ2 hr3 hn3 hm3
    -- the box of what was ticked
    have bV := balloc w3 (.cells #[.slice p3 pn k3, .int .i64 za, .int .i64 zb, .int .i64 zt, .slice s2 m d2] 41)
    have hN := c5_new w3 (.slice p3 pn k3) za zb zt (.slice s2 m d2) 41 w3.heap.size rfl
    have hD4 := HD3.out.later bV
    have hP4 := HP3.out.later bV
    have hr4 := hr3'.later bV
    have hl4 := hl3.later bV
    have hB4 := HB3.out.alloc HB3.out.size (.cells #[.slice p3 pn k3, .int .i64 za, .int .i64 zb, .int .i64 zt, .slice s2 m d2] 41)
    have hZ4 : (w3.alloc (.cells #[.slice p3 pn k3, .int .i64 za, .int .i64 zb, .int .i64 zt, .slice s2 m d2] 41)).heap.size = w3.heap.size + 1 := by simp
    obtain ⟨V, hV⟩ : ∃ V, w3.alloc (.cells #[.slice p3 pn k3, .int .i64 za, .int .i64 zb, .int .i64 zt, .slice s2 m d2] 41) = V := ⟨_, rfl⟩
    rw [hV] at hN hD4 hP4 hr4 hl4 hB4 hZ4
    have HD4 : Hid (C5 V (w.heap.size + 1) (.slice none 0 0) 0 0 0 (.slice none 0 0)) := hD4
    have HB4 : Hid (Below w.heap.size w V) := hB4
    have HL4 : Hid (RdS V q3 l) := hl4
    have HZ4 : Hid (w.heap.size + 2 ≤ V.heap.size) := by show _ ≤ _; have := HZ3.out; omega
    have HM3 : Hid (q3 = none → ln = 0 ∧ j3 = 0) := hm3'
    have q5 := l8Own_c p3 s2 pn k3 m d2 za zb zt zp zs V HPL.out HY.out (by omega) (by omega) hr4 hP4.rd'.2 hn3' HP3.out.nil
    obtain ⟨⟨n0, n1, n2, n3, n4⟩, nf⟩ := hN
    rw [HPL.out, HLL.out]
    clear nf bV hD4 hP4 hr4 hl4 hB4 hZ4 HD3 HB3 HZ3 hr3' hl3 hn3' hm3' HP3
    go_wp2_with fail
    refine q5.mono ?_
    clear q5 n0 n1 n2 n3 n4 hV
    rintro e w5 ⟨p5, k5, s5, d5, rfl, ho5, hp5, hb5⟩
    have hB5 : Below w.heap.size w w5 := HB4.out.trans (hb5.mono HB4.out.size)
    have hD5 := HD4.out.later hb5
    have hE := emptyS w5
    have bE := balloc w5 (.cells #[] 9)
    have dE := hD5.later bE
    have oE := ho5.later bE
    have pE := hp5.later bE
    have BE := hB5.alloc hB5.size (.cells #[] 9)
    obtain ⟨E, hEe⟩ : ∃ E, w5.alloc (.cells #[] 9) = E := ⟨_, rfl⟩
    rw [hEe] at hE bE dE oE pE BE
    obtain ⟨v6, w6, r6, o6, g6, b6⟩ := appendS_run E w5.heap.size _ [] l q3 ln j3 hE (HL4.out.later (hb5.trans (bE.mono hb5.size))) HLL.out HM3.out (by simp; omega) bE.size
    rw [List.nil_append] at o6
    obtain ⟨q6, j6, hv6⟩ := o6.shape
    rw [HLL.out] at hv6
    subst hv6
    have z5 : w.heap.size + 2 ≤ w5.heap.size := Nat.le_trans HZ4.out hb5.size
    have d6 := dE.grown g6 (by simp [Value.ownBlock]; omega)
    have o7 := oE.kept g6 (Or.inr fun e => by have := (World.ownsRow.lt ho5 _ e).2; simp [Value.ownBlock] at *)
    have p7 := pE.kept g6 (Or.inr fun e => by have := (World.ownsRow.lt hp5 _ e).2; simp [Value.ownBlock] at *)
    have HO7 : Hid (OwnS w6 (w.heap.size + 2) (.slice p5 pn k5) zp) := o7.mono HZ4.out
    have HP7 : Hid (Own w6 (w.heap.size + 2) (.slice s5 m d5) zs) := p7.mono HZ4.out
    have HQ7 : Hid (OwnS w6 (w.heap.size + 2) (.slice q6 ln j6) l) := o6.mono z5
    have HB7 : Hid (Below w.heap.size w w6) := BE.trans (b6.mono (by omega))
    have HSEP : Hid ((Value.slice p5 pn k5).ownBlock = none ∨ (Value.slice p5 pn k5).ownBlock ≠ (Value.slice q6 ln j6).ownBlock) := by
      rcases Option.eq_none_or_eq_some (Value.slice p5 pn k5).ownBlock with e | ⟨x, e⟩
      · exact Or.inl e
      · refine Or.inr fun e2 => ?_
        have h1 := (World.ownsRow.lt ho5 x e).2
        have h2 := (World.ownsRow.lt o6 x (e2.symm.trans e)).1
        omega
    obtain ⟨⟨e0, e1, e2, e3, e4⟩, ef⟩ := d6
    have ef0 := ef 0; have ef1 := ef 1; have ef2 := ef 2; have ef3 := ef 3; have ef4 := ef 4
    clear ef hB5 hD5 hE bE dE oE pE BE o6 g6 b6 z5 o7 p7 ho5 hp5 hb5
    go_wp2_with (at_builtin; refine Lib.wpList_append_run _ rfl _ _ _ _ rfl _ _ rfl rfl _ _ (r6 _) ?_; clear r6)
    refine bodyPost_ret (v := .tuple #[.agg #[.slice p5 pn k5, .int .i64 za, .int .i64 zb, .int .i64 zt, .slice s5 m d5], .slice q6 ln j6, .bool true]) (by simp [results, Try.results32, go_sem, e0, e1, e2, e3, e4]; try rfl) rfl ?_
    refine ⟨⟨p5, k5, s5, d5, q6, j6, ?_, ?_, ?_, ?_, ?_⟩, HB7.out.trans (below_grown (put5_grown _ _ _ _ _ _ _) (by omega) HB7.out.size)⟩
    · show _ = Ending.returned (.tuple #[.agg #[.slice p5 zp.length k5, .int .i64 za, .int .i64 zb, .int .i64 zt, .slice s5 zs.length d5], .slice q6 l.length j6, .bool true])
      rw [HPL.out, HY.out, HLL.out]
    · show OwnS _ _ (.slice p5 zp.length k5) zp
      rw [HPL.out]; exact (HO7.out.putBox (r := w.heap.size + 1) (by omega) _ _ _ _ _).mono (by omega)
    · show Own _ _ (.slice s5 zs.length d5) zs
      rw [HY.out]; exact (HP7.out.putBox (r := w.heap.size + 1) (by omega) _ _ _ _ _).mono (by omega)
    · rw [HLL.out]; exact (HQ7.out.putBox (r := w.heap.size + 1) (by omega) _ _ _ _ _).mono (by omega)
    · show (Value.slice p5 zp.length k5).ownBlock = none ∨ (Value.slice p5 zp.length k5).ownBlock ≠ (Value.slice q6 l.length j6).ownBlock
      rw [HPL.out, HLL.out]; exact HSEP.out

end Go.Proofs.Ytnppmgnfignbcaa
