/- Chapter 16: PlayNumbers of both sides. -/
import Derived.Test.YtjpegbodhpnflaaDoorX16
import Derived.Test.YtjpegbodhpnflaaDoorLAB16
import Derived.Deep.RegionHeld3
namespace Go.Proofs.YtjpegbodhpnflaaDoor
set_option linter.unusedVariables false
set_option maxRecDepth 1000000
set_option linter.unusedSimpArgs false
open Go.RowKit

/-- One number more for a window: the window, and the codes so far. -/
def stepN (s : (Int × Nat) × List Int) (n : Int) : (Int × Nat) × List Int := ((takeW s.1.1 s.1.2 n).1, s.2 ++ [(takeW s.1.1 s.1.2 n).2])
def codesV (l : List Int) : List Int := if playOk l = true then (l.foldl stepN ((0, 0), [])).2 else []
def winV (l : List Int) : Int × Int := if playOk l = true then ((l.foldl stepN ((0, 0), [])).1.1, (((l.foldl stepN ((0, 0), [])).1.2 : Nat) : Int)) else (0, 0)

theorem foldN_good : ∀ (l : List Int) (s : (Int × Nat) × List Int), GoodW s.1.1 s.1.2 → (∀ x ∈ l, 1 ≤ x ∧ x ≤ 100000) → GoodW (l.foldl stepN s).1.1 (l.foldl stepN s).1.2
  | [], s, h, _ => h
  | n :: r, s, h, hl => foldN_good r (stepN s n) (take_good h (hl n (by simp)).1 (hl n (by simp)).2) (fun x hx => hl x (by simp [hx]))
theorem foldN_len : ∀ (l : List Int) (s : (Int × Nat) × List Int), (l.foldl stepN s).2.length = s.2.length + l.length
  | [], s => rfl
  | n :: r, s => by
    rw [List.foldl_cons, foldN_len r]
    show (s.2 ++ [(takeW s.1.1 s.1.2 n).2]).length + r.length = _
    simp; omega
theorem good_zero : GoodW 0 0 := ⟨by omega, by omega, by omega, by simp, fun k _ h => by simp at h⟩
theorem codesV_len (l : List Int) : (codesV l).length ≤ 60 := by
  unfold codesV
  cases hok : playOk l
  · rw [if_neg (by decide)]; simp
  · rw [if_pos rfl, foldN_len]
    have := (playOk_all hok).1
    simp; omega

/-- A box of two cells that may be written. -/
def FX (w : World) (g : Nat) (x y : Value) : Prop := g < w.heap.size ∧ w.cell? ⟨g, 0, none⟩ = some x ∧ w.cell? ⟨g, 1, none⟩ = some y ∧ w.frozen? ⟨g, 0, none⟩ = false ∧ w.frozen? ⟨g, 1, none⟩ = false
theorem fx_new (w : World) (x y : Value) (t : TypeId) : FX (w.alloc (.cells #[x, y] t)) w.heap.size x y := by
  have h := cell2 (g := w.heap.size) (B := w.heap.size + 1) (Below.refl _ (w.alloc (.cells #[x, y] t))) (by omega) (heap_alloc_new w _)
  exact ⟨by simp, h⟩
theorem FX.low {w w' : World} {g B : Nat} {x y : Value} (h : FX w g x y) (hb : Below B w w') (hg : g < B) : FX w' g x y :=
  ⟨Nat.lt_of_lt_of_le h.1 hb.size, by rw [hb.cell (p := ⟨g, 0, none⟩) hg]; exact h.2.1, by rw [hb.cell (p := ⟨g, 1, none⟩) hg]; exact h.2.2.1, by rw [hb.frozen (p := ⟨g, 0, none⟩) hg]; exact h.2.2.2.1, by rw [hb.frozen (p := ⟨g, 1, none⟩) hg]; exact h.2.2.2.2⟩
theorem FX.later {w w' : World} {g : Nat} {x y : Value} (h : FX w g x y) (hb : Below w.heap.size w w') : FX w' g x y := h.low hb h.1
theorem set_size (w : World) (g : Nat) (u v : Value) : ((w.setCell ⟨g, 0, none⟩ u).setCell ⟨g, 1, none⟩ v).heap.size = w.heap.size := by simp [World.setCell]
theorem FX.set {w : World} {g : Nat} {x y : Value} (h : FX w g x y) (u v : Value) : FX ((w.setCell ⟨g, 0, none⟩ u).setCell ⟨g, 1, none⟩ v) g u v := by
  obtain ⟨a, b⟩ := set2 w g u v h.2.1 h.2.2.1
  exact ⟨by rw [set_size]; exact h.1, a, b, by rw [World.frozen?_setCell, World.frozen?_setCell]; exact h.2.2.2.1, by rw [World.frozen?_setCell, World.frozen?_setCell]; exact h.2.2.2.2⟩
theorem FX.other {w : World} {g g' : Nat} {x y : Value} (h : FX w g x y) (hne : g' ≠ g) (u v : Value) : FX ((w.setCell ⟨g', 0, none⟩ u).setCell ⟨g', 1, none⟩ v) g x y := by
  refine ⟨by rw [set_size]; exact h.1, ?_, ?_, by rw [World.frozen?_setCell, World.frozen?_setCell]; exact h.2.2.2.1, by rw [World.frozen?_setCell, World.frozen?_setCell]; exact h.2.2.2.2⟩
  · rw [World.cell?_setCell_other _ _ _ _ (by intro e; injection e with e1; exact hne e1), World.cell?_setCell_other _ _ _ _ (by intro e; injection e with e1; exact hne e1)]; exact h.2.1
  · rw [World.cell?_setCell_other _ _ _ _ (by intro e; injection e with e1; exact hne e1), World.cell?_setCell_other _ _ _ _ (by intro e; injection e with e1; exact hne e1)]; exact h.2.2.1
theorem own_set {w : World} {base : Nat} {v : Value} {xs : List Int} (h : Own w base v xs) {g : Nat} (hg : g < base) (u u' : Value) : Own ((w.setCell ⟨g, 0, none⟩ u).setCell ⟨g, 1, none⟩ u') base v xs := by
  have hne : ∀ {w2 : World}, Own w2 base v xs → (v.ownBlock = none ∨ v.ownBlock ≠ some g) := fun h2 => by
    cases hv : v.ownBlock with
    | none => exact Or.inl rfl
    | some j => exact Or.inr fun e => by injection e with e1; have := own_block_ge h2 j hv; omega
  have h1 := h.kept (grown_setCell w g 0 u) (hne h)
  exact h1.kept (grown_setCell _ g 1 u') (hne h1)

theorem takePN16 {P : Program} {ops : Array Oper} {Q : Exit → Act → World → Prop} {md : Region.Mode} {S : World → Prop} {i : Nat} {oi : Oper} {v : Value} {d : Option Tmp} {fuel : Nat} {listed : Array Bool} {a : Act} {w : World} (hi : ops[i]? = some oi) (hd : oi.dst = d)
    (hs : Region.noSelect ops = true) (hf : Region.free md ops listed i = true) (hr : (Region.ready md ops listed).contains i = true)
    (hQ : ∀ c a w, Q (.panic c) (a.put d v) w → Q (.panic c) a w) (hy : YieldsIf P ops S oi v a) (hS : S w)
    (h : wpAnyH P md ops Q S fuel (listed.setIfInBounds i true) (a.put d v) w) : wpAnyH P md ops Q S (fuel + 1) listed a w := by
  subst hd
  exact wpAnyH_take hi hs hf hr hQ hy hS h

set_option maxHeartbeats 4000000 in
theorem specNums_c (ao : Option Addr) (n c : Nat) (l : List Int) (w : World) (hx : l.length = n) (hn : n ≤ 17592186044416) (hr : Rd w ao l) :
    Calls Tryd.prog 13 #[.slice ao n c] w fun e w' => ∃ a' c', e = .returned (.tuple #[.slice a' (codesV l).length c', .agg #[.int .i64 (winV l).1, .int .i64 (winV l).2], .bool (playOk l)]) ∧ Own w' w.heap.size (.slice a' (codesV l).length c') (codesV l) ∧ Below w.heap.size w w' := by
  have q0 := l16Numbers_c ao n c l (w.alloc (.cells #[.int .i64 0, .int .i64 0] 26)) hx hn (hr.later (balloc w _))
  unfold codesV winV
  cases hok : playOk l
  · rw [if_neg (by decide), if_neg (by decide)]
    rw [hok] at q0
    clear hx hr hok
    go_enter Tryd.func13, Tryd.ntmps13
    go_wp2_with fail
    refine q0.mono ?_
    clear q0
    rintro e w1 ⟨rfl, hw⟩
    subst w1
    go_wp2
    refine bodyPost_ret (v := .tuple #[.slice none 0 0, .agg #[.int .i64 0, .int .i64 0], .bool false]) (by simp [results, Tryd.results13, go_sem, ]; try rfl) rfl ?_
    exact ⟨none, 0, rfl, World.ownsRow_nil _ _ _ _, balloc w _⟩
  rw [if_pos rfl, if_pos rfl]
  rw [hok] at q0
  obtain ⟨h60, hall⟩ := playOk_all hok
  have HG : Hid (∀ k, k ≤ n → GoodW ((l.take k).foldl stepN ((0, 0), [])).1.1 ((l.take k).foldl stepN ((0, 0), [])).1.2) := fun k _ => foldN_good _ _ good_zero (fun x hx => hall x (List.mem_of_mem_take hx))
  have HLn : Hid (∀ k, k ≤ n → ((l.take k).foldl stepN ((0, 0), [])).2.length = k) := fun k hk => by
    rw [foldN_len, List.length_take]; simp; omega
  have HBd : Hid (∀ k, k < n → 1 ≤ l.getD k 0 ∧ l.getD k 0 ≤ 100000) := fun k hk => hall _ (mem_getD 0 (by omega))
  have HF : Hid (∀ k, k < n → (l.take (k + 1)).foldl stepN ((0, 0), []) = stepN ((l.take k).foldl stepN ((0, 0), [])) (l.getD k 0)) := fun k hk => fold_take stepN _ (by omega)
  have HE : Hid ((l.take n).foldl stepN ((0, 0), []) = l.foldl stepN ((0, 0), [])) := by show _ = _; rw [← hx, List.take_length]
  have HX : Hid (l.length = n) := hx
  have HR : Hid (∀ wx, Below w.heap.size w wx → Rd wx ao l) := fun wx h => hr.later h
  rw [hx] at h60
  obtain ⟨W0, hW0⟩ : ∃ X, (w.alloc (.cells #[.int .i64 0, .int .i64 0] 26)).alloc (.cells #[.int .i64 0, .int .i64 0] 26) = X := ⟨_, rfl⟩
  have HB0 : Hid (Below w.heap.size w W0) := by rw [← hW0]; exact ((Below.refl _ _).alloc (Nat.le_refl _) _).alloc (by simp) _
  have HS0 : Hid (W0.heap.size = w.heap.size + 2) := by show _ = _; rw [← hW0]; simp
  have H30 : Hid (FX W0 w.heap.size (.int .i64 0) (.int .i64 0)) := by rw [← hW0]; exact (fx_new w _ _ _).later (balloc _ _)
  have H50 : Hid (FX W0 (w.heap.size + 1) (.int .i64 0) (.int .i64 0)) := by
    have h := fx_new (w.alloc (.cells #[.int .i64 0, .int .i64 0] 26)) (.int .i64 0) (.int .i64 0) 26
    rw [← hW0]
    rw [show (w.alloc (.cells #[.int .i64 0, .int .i64 0] 26)).heap.size = w.heap.size + 1 by simp] at h
    exact h
  clear hx hr hok hall
  go_enter Tryd.func13, Tryd.ntmps13
  go_wp2_with fail
  refine q0.mono ?_
  clear q0
  rintro e w1 ⟨rfl, hw⟩
  subst w1
  go_wp2
  clear hW0
  go_loopw [6, 17] (fun cv iv wr => ∃ (k : Nat) (t : Int) (b : Nat) (cs : List Int) (ca : Option Addr) (cc : Nat), k ≤ n ∧ cv = .slice ca cs.length cc ∧ iv = .int .i64 k ∧ Hid (((t, b), cs) = (l.take k).foldl stepN ((0, 0), [])) ∧ Hid (FX wr w.heap.size (.int .i64 0) (.int .i64 0)) ∧ Hid (FX wr (w.heap.size + 1) (.int .i64 t) (.int .i64 b)) ∧ Hid (Own wr (w.heap.size + 2) (.slice ca cs.length cc) cs) ∧ Hid (Below w.heap.size w wr) ∧ w.heap.size + 2 ≤ wr.heap.size) (fun _ iv _ => n - (intOf iv).toNat)
  case atStart => exact ⟨0, 0, 0, [], none, 0, Nat.zero_le _, rfl, rfl, rfl, H30, H50, World.ownsRow_nil _ _ _ _, HB0, by rw [HS0.out]; exact Nat.le_refl _⟩
  case round =>
    obtain ⟨k, t, b, cs, ca, cc, hk, rfl, rfl, HS, H3, H5, HO, HB, hsz⟩ := hrel
    by_cases hlt : k < n
    · have hG : GoodW t b := by have := HG.out k hk; rw [← HS.out] at this; exact this
      have hcs : cs.length ≤ 1000 := by have := HLn.out k hk; rw [← HS.out] at this; have h3 : cs.length = k := this; omega
      have hbd := HBd.out k hlt
      have hf := HF.out k hlt
      rw [← HS.out] at hf
      obtain ⟨bb, o, rfl, g1⟩ := (HR.out wr HB.out).get (k := k) (by rw [HX.out]; exact hlt)
      have hk0 : (0 : Int) ≤ (k : Int) := by omega
      have hkl : (k : Int) < (n : Int) := by omega
      have q1 := l16Take_c t (l.getD k 0) b wr hG hbd
      unfold stepN at hf
      dsimp only at hf
      obtain ⟨T, R, cd, hT⟩ : ∃ T R cd, takeW t b (l.getD k 0) = ((T, R), cd) := ⟨_, _, _, rfl⟩
      rw [hT] at q1 hf
      dsimp only at q1 hf
      clear hT
      generalize l.getD k 0 = z at g1 q1 hbd
      obtain ⟨_, a0, a1, _, _⟩ := H5.out
      clear hG
      go_wp2_with fail
      refine q1.mono ?_
      clear q1 a0 a1 g1
      rintro e w1 ⟨rfl, hb1⟩
      have hb2 := hb1.trans ((balloc w1 (.cells #[.int .i64 T, .int .i64 R] 26)).mono hb1.size)
      have h3 := H3.out.later hb2
      have h5 := H5.out.later hb2
      have hO := HO.out.later hb2
      have hB := HB.out.trans (hb2.mono HB.out.size)
      have hs2 := Nat.le_trans hsz hb2.size
      clear hb1 hb2
      obtain ⟨W2, hW2⟩ : ∃ X, ((w1.alloc (.cells #[.int .i64 T, .int .i64 R] 26)).setCell ⟨w.heap.size + 1, 0, none⟩ (.int .i64 T)).setCell ⟨w.heap.size + 1, 1, none⟩ (.int .i64 R) = X := ⟨_, rfl⟩
      have h3' : FX W2 w.heap.size (.int .i64 0) (.int .i64 0) := by rw [← hW2]; exact h3.other (by omega) _ _
      have h5' : FX W2 (w.heap.size + 1) (.int .i64 T) (.int .i64 R) := by rw [← hW2]; exact h5.set _ _
      have hO' : Own W2 (w.heap.size + 2) (.slice ca cs.length cc) cs := by rw [← hW2]; exact own_set hO (by omega) _ _
      have hB' : Below w.heap.size w W2 := by rw [← hW2]; exact (hB.setCell (p := ⟨w.heap.size + 1, 0, none⟩) (by show w.heap.size ≤ w.heap.size + 1; omega) _).setCell (p := ⟨w.heap.size + 1, 1, none⟩) (by show w.heap.size ≤ w.heap.size + 1; omega) _
      have hs3 : w.heap.size + 2 ≤ W2.heap.size := by rw [← hW2, set_size]; exact hs2
      obtain ⟨g, cap, w3, hrun, how, hgr, hgg, hglt⟩ := pushC_run W2 (w.heap.size + 2) (.slice ca cs.length cc) cs cd hO' hcs hs3
      have hbm : Below (w.heap.size + 2) W2 w3 := (Below.refl _ _).grown hgr hs3 (own_block_ge hO')
      have H33 : Hid (FX w3 w.heap.size (.int .i64 0) (.int .i64 0)) := h3'.low hbm (by omega)
      have H53 : Hid (FX w3 (w.heap.size + 1) (.int .i64 T) (.int .i64 R)) := h5'.low hbm (by omega)
      have HO3 : Hid (Own w3 (w.heap.size + 2) (.slice (some ⟨g, 0, none⟩) (cs.length + 1) cap) (cs ++ [cd])) := how
      have HB3 : Hid (Below w.heap.size w w3) := hB'.trans (hbm.mono (by omega))
      have hs4 : w.heap.size + 2 ≤ w3.heap.size := Nat.le_trans hs3 hbm.size
      have hl2 : (cs ++ [cd]).length = cs.length + 1 := by simp
      have HS2 : Hid (((T, R), cs ++ [cd]) = (l.take (k + 1)).foldl stepN ((0, 0), [])) := hf.symm
      obtain ⟨_, a0, a1, f0, f1⟩ := h5
      clear H3 H5 HO HB HS hf h3 hO hB hs2 h3' h5' hO' hB' hs3 how hgr hgg hbm
      go_wp2_with (at_builtin; refine Lib.wpList_append_run _ rfl _ _ _ _ rfl _ _ rfl rfl _ _ (hrun _) ?_; clear hrun hW2)
      go_roundw
      case rel => exact ⟨k + 1, T, R, cs ++ [cd], some ⟨g, 0, none⟩, cap, by omega, by rw [hl2], by go_num, HS2, H33, H53, by rw [hl2]; exact HO3, HB3, hs4⟩
      case measure => simp [intOf]; omega
    · obtain rfl : k = n := by omega
      have hE := HS.out.trans HE.out
      have HE2 : Hid ((l.foldl stepN ((0, 0), [])).2 = cs ∧ (l.foldl stepN ((0, 0), [])).1.1 = t ∧ (l.foldl stepN ((0, 0), [])).1.2 = b) := by rw [← hE]; exact ⟨rfl, rfl, rfl⟩
      clear hE HS
      obtain ⟨_, a0, a1, _, _⟩ := H5.out
      obtain ⟨_, c0, c1, f0, f1⟩ := H3.out
      go_wp2
      refine wp_region_held_drew (S := (fun X => X.cell? ⟨w.heap.size + 1, 0, none⟩ = some (.int .i64 t) ∧ X.cell? ⟨w.heap.size + 1, 1, none⟩ = some (.int .i64 b))) (by kernel_rfl) ?_ (fun hHeld => ?_)
      · exact ⟨a0, a1⟩
      obtain ⟨D0, hD0⟩ : ∃ D, wr.drew = D := ⟨_, rfl⟩
      have H3d : FX D0 w.heap.size (.int .i64 0) (.int .i64 0) := by rw [← hD0]; exact H3.out
      have H5d : Hid (FX D0 (w.heap.size + 1) (.int .i64 t) (.int .i64 b)) := by rw [← hD0]; exact H5.out
      have HOd : Hid (Own D0 (w.heap.size + 2) (.slice ca cs.length cc) cs) := by rw [← hD0]; exact HO.out
      have HBd : Hid (Below w.heap.size w D0) := by rw [← hD0]; exact HB.out.drew
      rw [hD0] at hHeld ⊢
      clear hD0 a0 a1 c0 c1 f0 f1 H3 H5 HO HB
      refine takePN16 (i := 0) (oi := _) (v := ?_) (d := some 33) rfl (by kernel_rfl) (by kernel_rfl) (by kernel_rfl) (by kernel_rfl) (fun _ _ _ h => h) (Or.inl ⟨by rfl, ?_⟩) (by assumption) ?_
      rotate_left
      · (intro w hSw; (try dsimp only at hSw); go_simp <;> with_reducible rfl)
      try simp only [Act.put, List.setIfInBounds_toArray, List.set_cons_zero, List.set_cons_succ]
      refine takePN16 (i := 1) (oi := _) (v := ?_) (d := some 34) rfl (by kernel_rfl) (by kernel_rfl) (by kernel_rfl) (by kernel_rfl) (fun _ _ _ h => h) (Or.inl ⟨by rfl, ?_⟩) (by assumption) ?_
      rotate_left
      · (intro w hSw; (try dsimp only at hSw); go_simp <;> with_reducible rfl)
      try simp only [Act.put, List.setIfInBounds_toArray, List.set_cons_zero, List.set_cons_succ]
      refine takePN16 (i := 2) (oi := _) (v := ?_) (d := some 2) rfl (by kernel_rfl) (by kernel_rfl) (by kernel_rfl) (by kernel_rfl) (fun _ _ _ h => h) (Or.inl ⟨by rfl, ?_⟩) (by assumption) ?_
      rotate_left
      · (intro w hSw; (try dsimp only at hSw); go_simp <;> with_reducible rfl)
      try simp only [Act.put, List.setIfInBounds_toArray, List.set_cons_zero, List.set_cons_succ]
      obtain ⟨_, c0, c1, f0, f1⟩ := H3d
      obtain ⟨D1, hD1⟩ : ∃ X, (D0.setCell ⟨w.heap.size, 0, none⟩ (.int .i64 t)).setCell ⟨w.heap.size, 1, none⟩ (.int .i64 b) = X := ⟨_, rfl⟩
      refine wpAnyH_ready (rs := [3]) (by kernel_rfl) (by simp) ?_
      refine AllReadyH.cons (o := _) rfl (fun K hK => ?_) AllReadyH.nil
      go_simp
      refine hK.out _ _ ?_ (fun hHeld => ?_)
      · rw [← hD1]; exact ⟨(H5d.out.other (by omega) _ _).2.1, (H5d.out.other (by omega) _ _).2.2.1⟩
      clear hK K
      try simp only [Act.put, List.setIfInBounds_toArray, List.set_cons_zero, List.set_cons_succ]
      refine takePN16 (i := 4) (oi := _) (v := ?_) (d := some 4) rfl (by kernel_rfl) (by kernel_rfl) (by kernel_rfl) (by kernel_rfl) (fun _ _ _ h => h) (Or.inl ⟨by rfl, ?_⟩) (by assumption) ?_
      rotate_left
      · (intro w hSw; (try dsimp only at hSw); go_simp <;> with_reducible rfl)
      try simp only [Act.put, List.setIfInBounds_toArray, List.set_cons_zero, List.set_cons_succ]
      refine wpAnyH_done (by kernel_rfl) ?_ _
      clear hHeld
      have H31 : FX D1 w.heap.size (.int .i64 t) (.int .i64 b) := by rw [← hD1]; exact FX.set (x := .int .i64 0) (y := .int .i64 0) ⟨by have := HBd.out.size; have := hsz; have := H5d.out.1; omega, c0, c1, f0, f1⟩ _ _
      have HO1 : Hid (Own D1 (w.heap.size + 2) (.slice ca cs.length cc) cs) := by rw [← hD1]; exact own_set HOd.out (by omega) _ _
      have HB1 : Hid (Below w.heap.size w D1) := by rw [← hD1]; exact (HBd.out.setCell (p := ⟨w.heap.size, 0, none⟩) (Nat.le_refl _) _).setCell (p := ⟨w.heap.size, 1, none⟩) (Nat.le_refl _) _
      try rw [hD1]
      clear hD1 c0 c1 f0 f1
      obtain ⟨_, c0, c1, _, _⟩ := H31
      go_wp2
      refine bodyPost_ret (v := .tuple #[.slice ca cs.length cc, .agg #[.int .i64 t, .int .i64 b], .bool true]) (by simp [results, Tryd.results13, go_sem, c0, c1]; try rfl) rfl ?_
      exact ⟨ca, cc, by rw [HE2.out.1, HE2.out.2.1, HE2.out.2.2], by rw [HE2.out.1]; exact HO1.out.mono (by omega), HB1.out⟩

theorem implTakeN_c (t n : Int) (b : Nat) (w : World) (ht : Tb w) (h : GoodW t b) (hn : 1 ≤ n ∧ n ≤ 100000) :
    Calls Tryd.prog 19 #[.agg #[.int .i64 t, .int .i64 b], .int .i64 n] w fun e w' => e = .returned (.tuple #[.agg #[.int .i64 (takeW t b n).1.1, .int .i64 ((takeW t b n).1.2 : Nat)], .int .i64 (takeW t b n).2, .bool true]) ∧ Below w.heap.size w w' := by
  have hp : playB n = true := decide_eq_true hn
  obtain ⟨eT, eK⟩ := takeT_good h hp
  have q := implTake_c t b n w ht (by have := h.2.2.1; omega)
  rw [eT, eK] at q
  exact q

set_option maxHeartbeats 4000000 in
theorem implNums_c (ao : Option Addr) (n c : Nat) (l : List Int) (w : World) (hx : l.length = n) (hn : n ≤ 17592186044416) (hr : Rd w ao l) (ht : Tb w) :
    Calls Tryd.prog 12 #[.slice ao n c] w fun e w' => ∃ a' c', e = .returned (.tuple #[.slice a' (codesV l).length c', .agg #[.int .i64 (winV l).1, .int .i64 (winV l).2], .bool (playOk l)]) ∧ Own w' w.heap.size (.slice a' (codesV l).length c') (codesV l) ∧ Below w.heap.size w w' := by
  have q0 := fewP_c 60 (by omega) ao n c l (w.alloc (.cells #[.int .i64 0, .int .i64 0] 26)) hx hn (hr.later (balloc w _))
  unfold codesV winV
  cases hok : playOk l
  · rw [if_neg (by decide), if_neg (by decide)]
    have hq : (decide (l.length ≤ 60) && l.all playB) = false := hok
    rw [hq] at q0
    clear hq
    clear hx hr hok
    go_enter Tryd.func12, Tryd.ntmps12
    go_wp2_with fail
    refine q0.mono ?_
    clear q0
    rintro e w1 ⟨rfl, hw⟩
    subst w1
    go_wp2
    refine bodyPost_ret (v := .tuple #[.slice none 0 0, .agg #[.int .i64 0, .int .i64 0], .bool false]) (by simp [results, Tryd.results12, go_sem, ]; try rfl) rfl ?_
    exact ⟨none, 0, rfl, World.ownsRow_nil _ _ _ _, balloc w _⟩
  rw [if_pos rfl, if_pos rfl]
  have hq : (decide (l.length ≤ 60) && l.all playB) = true := hok
  rw [hq] at q0
  clear hq
  obtain ⟨h60, hall⟩ := playOk_all hok
  have HG : Hid (∀ k, k ≤ n → GoodW ((l.take k).foldl stepN ((0, 0), [])).1.1 ((l.take k).foldl stepN ((0, 0), [])).1.2) := fun k _ => foldN_good _ _ good_zero (fun x hx => hall x (List.mem_of_mem_take hx))
  have HLn : Hid (∀ k, k ≤ n → ((l.take k).foldl stepN ((0, 0), [])).2.length = k) := fun k hk => by
    rw [foldN_len, List.length_take]; simp; omega
  have HBd : Hid (∀ k, k < n → 1 ≤ l.getD k 0 ∧ l.getD k 0 ≤ 100000) := fun k hk => hall _ (mem_getD 0 (by omega))
  have HF : Hid (∀ k, k < n → (l.take (k + 1)).foldl stepN ((0, 0), []) = stepN ((l.take k).foldl stepN ((0, 0), [])) (l.getD k 0)) := fun k hk => fold_take stepN _ (by omega)
  have HE : Hid ((l.take n).foldl stepN ((0, 0), []) = l.foldl stepN ((0, 0), [])) := by show _ = _; rw [← hx, List.take_length]
  have HX : Hid (l.length = n) := hx
  have HR : Hid (∀ wx, Below w.heap.size w wx → Rd wx ao l) := fun wx h => hr.later h
  rw [hx] at h60
  obtain ⟨W0, hW0⟩ : ∃ X, (w.alloc (.cells #[.int .i64 0, .int .i64 0] 26)).alloc (.cells #[.int .i64 0, .int .i64 0] 26) = X := ⟨_, rfl⟩
  have HB0 : Hid (Below w.heap.size w W0) := by rw [← hW0]; exact ((Below.refl _ _).alloc (Nat.le_refl _) _).alloc (by simp) _
  have HS0 : Hid (W0.heap.size = w.heap.size + 2) := by show _ = _; rw [← hW0]; simp
  have H30 : Hid (FX W0 w.heap.size (.int .i64 0) (.int .i64 0)) := by rw [← hW0]; exact (fx_new w _ _ _).later (balloc _ _)
  have H50 : Hid (FX W0 (w.heap.size + 1) (.int .i64 0) (.int .i64 0)) := by
    have h := fx_new (w.alloc (.cells #[.int .i64 0, .int .i64 0] 26)) (.int .i64 0) (.int .i64 0) 26
    rw [← hW0]
    rw [show (w.alloc (.cells #[.int .i64 0, .int .i64 0] 26)).heap.size = w.heap.size + 1 by simp] at h
    exact h
  clear hx hr hok hall
  go_enter Tryd.func12, Tryd.ntmps12
  go_wp2_with fail
  refine q0.mono ?_
  clear q0
  rintro e w1 ⟨rfl, hw⟩
  subst w1
  go_wp2
  clear hW0
  go_loopw [6, 18] (fun cv iv wr => ∃ (k : Nat) (t : Int) (b : Nat) (cs : List Int) (ca : Option Addr) (cc : Nat), k ≤ n ∧ cv = .slice ca cs.length cc ∧ iv = .int .i64 k ∧ Hid (((t, b), cs) = (l.take k).foldl stepN ((0, 0), [])) ∧ Hid (FX wr w.heap.size (.int .i64 0) (.int .i64 0)) ∧ Hid (FX wr (w.heap.size + 1) (.int .i64 t) (.int .i64 b)) ∧ Hid (Own wr (w.heap.size + 2) (.slice ca cs.length cc) cs) ∧ Hid (Below w.heap.size w wr) ∧ w.heap.size + 2 ≤ wr.heap.size) (fun _ iv _ => n - (intOf iv).toNat)
  case atStart => exact ⟨0, 0, 0, [], none, 0, Nat.zero_le _, rfl, rfl, rfl, H30, H50, World.ownsRow_nil _ _ _ _, HB0, by rw [HS0.out]; exact Nat.le_refl _⟩
  case round =>
    obtain ⟨k, t, b, cs, ca, cc, hk, rfl, rfl, HS, H3, H5, HO, HB, hsz⟩ := hrel
    by_cases hlt : k < n
    · have hG : GoodW t b := by have := HG.out k hk; rw [← HS.out] at this; exact this
      have hcs : cs.length ≤ 1000 := by have := HLn.out k hk; rw [← HS.out] at this; have h3 : cs.length = k := this; omega
      have hbd := HBd.out k hlt
      have hf := HF.out k hlt
      rw [← HS.out] at hf
      obtain ⟨bb, o, rfl, g1⟩ := (HR.out wr HB.out).get (k := k) (by rw [HX.out]; exact hlt)
      have hk0 : (0 : Int) ≤ (k : Int) := by omega
      have hkl : (k : Int) < (n : Int) := by omega
      have q1 := implTakeN_c t (l.getD k 0) b wr (ht.later HB.out) hG hbd
      unfold stepN at hf
      dsimp only at hf
      obtain ⟨T, R, cd, hT⟩ : ∃ T R cd, takeW t b (l.getD k 0) = ((T, R), cd) := ⟨_, _, _, rfl⟩
      rw [hT] at q1 hf
      dsimp only at q1 hf
      clear hT
      generalize l.getD k 0 = z at g1 q1 hbd
      obtain ⟨_, a0, a1, _, _⟩ := H5.out
      clear hG
      go_wp2_with fail
      refine q1.mono ?_
      clear q1 a0 a1 g1
      rintro e w1 ⟨rfl, hb1⟩
      have hb2 := hb1.trans ((balloc w1 (.cells #[.int .i64 T, .int .i64 R] 26)).mono hb1.size)
      have h3 := H3.out.later hb2
      have h5 := H5.out.later hb2
      have hO := HO.out.later hb2
      have hB := HB.out.trans (hb2.mono HB.out.size)
      have hs2 := Nat.le_trans hsz hb2.size
      clear hb1 hb2
      obtain ⟨W2, hW2⟩ : ∃ X, ((w1.alloc (.cells #[.int .i64 T, .int .i64 R] 26)).setCell ⟨w.heap.size + 1, 0, none⟩ (.int .i64 T)).setCell ⟨w.heap.size + 1, 1, none⟩ (.int .i64 R) = X := ⟨_, rfl⟩
      have h3' : FX W2 w.heap.size (.int .i64 0) (.int .i64 0) := by rw [← hW2]; exact h3.other (by omega) _ _
      have h5' : FX W2 (w.heap.size + 1) (.int .i64 T) (.int .i64 R) := by rw [← hW2]; exact h5.set _ _
      have hO' : Own W2 (w.heap.size + 2) (.slice ca cs.length cc) cs := by rw [← hW2]; exact own_set hO (by omega) _ _
      have hB' : Below w.heap.size w W2 := by rw [← hW2]; exact (hB.setCell (p := ⟨w.heap.size + 1, 0, none⟩) (by show w.heap.size ≤ w.heap.size + 1; omega) _).setCell (p := ⟨w.heap.size + 1, 1, none⟩) (by show w.heap.size ≤ w.heap.size + 1; omega) _
      have hs3 : w.heap.size + 2 ≤ W2.heap.size := by rw [← hW2, set_size]; exact hs2
      obtain ⟨g, cap, w3, hrun, how, hgr, hgg, hglt⟩ := pushC_run W2 (w.heap.size + 2) (.slice ca cs.length cc) cs cd hO' hcs hs3
      have hbm : Below (w.heap.size + 2) W2 w3 := (Below.refl _ _).grown hgr hs3 (own_block_ge hO')
      have H33 : Hid (FX w3 w.heap.size (.int .i64 0) (.int .i64 0)) := h3'.low hbm (by omega)
      have H53 : Hid (FX w3 (w.heap.size + 1) (.int .i64 T) (.int .i64 R)) := h5'.low hbm (by omega)
      have HO3 : Hid (Own w3 (w.heap.size + 2) (.slice (some ⟨g, 0, none⟩) (cs.length + 1) cap) (cs ++ [cd])) := how
      have HB3 : Hid (Below w.heap.size w w3) := hB'.trans (hbm.mono (by omega))
      have hs4 : w.heap.size + 2 ≤ w3.heap.size := Nat.le_trans hs3 hbm.size
      have hl2 : (cs ++ [cd]).length = cs.length + 1 := by simp
      have HS2 : Hid (((T, R), cs ++ [cd]) = (l.take (k + 1)).foldl stepN ((0, 0), [])) := hf.symm
      obtain ⟨_, a0, a1, f0, f1⟩ := h5
      clear H3 H5 HO HB HS hf h3 hO hB hs2 h3' h5' hO' hB' hs3 how hgr hgg hbm
      go_wp2_with (at_builtin; refine Lib.wpList_append_run _ rfl _ _ _ _ rfl _ _ rfl rfl _ _ (hrun _) ?_; clear hrun hW2)
      go_roundw
      case rel => exact ⟨k + 1, T, R, cs ++ [cd], some ⟨g, 0, none⟩, cap, by omega, by rw [hl2], by go_num, HS2, H33, H53, by rw [hl2]; exact HO3, HB3, hs4⟩
      case measure => simp [intOf]; omega
    · obtain rfl : k = n := by omega
      have hE := HS.out.trans HE.out
      have HE2 : Hid ((l.foldl stepN ((0, 0), [])).2 = cs ∧ (l.foldl stepN ((0, 0), [])).1.1 = t ∧ (l.foldl stepN ((0, 0), [])).1.2 = b) := by rw [← hE]; exact ⟨rfl, rfl, rfl⟩
      clear hE HS
      obtain ⟨_, a0, a1, _, _⟩ := H5.out
      obtain ⟨_, c0, c1, f0, f1⟩ := H3.out
      go_wp2
      refine wp_region_held_drew (S := (fun X => X.cell? ⟨w.heap.size + 1, 0, none⟩ = some (.int .i64 t) ∧ X.cell? ⟨w.heap.size + 1, 1, none⟩ = some (.int .i64 b))) (by kernel_rfl) ?_ (fun hHeld => ?_)
      · exact ⟨a0, a1⟩
      obtain ⟨D0, hD0⟩ : ∃ D, wr.drew = D := ⟨_, rfl⟩
      have H3d : FX D0 w.heap.size (.int .i64 0) (.int .i64 0) := by rw [← hD0]; exact H3.out
      have H5d : Hid (FX D0 (w.heap.size + 1) (.int .i64 t) (.int .i64 b)) := by rw [← hD0]; exact H5.out
      have HOd : Hid (Own D0 (w.heap.size + 2) (.slice ca cs.length cc) cs) := by rw [← hD0]; exact HO.out
      have HBd : Hid (Below w.heap.size w D0) := by rw [← hD0]; exact HB.out.drew
      rw [hD0] at hHeld ⊢
      clear hD0 a0 a1 c0 c1 f0 f1 H3 H5 HO HB
      refine takePN16 (i := 0) (oi := _) (v := ?_) (d := some 35) rfl (by kernel_rfl) (by kernel_rfl) (by kernel_rfl) (by kernel_rfl) (fun _ _ _ h => h) (Or.inl ⟨by rfl, ?_⟩) (by assumption) ?_
      rotate_left
      · (intro w hSw; (try dsimp only at hSw); go_simp <;> with_reducible rfl)
      try simp only [Act.put, List.setIfInBounds_toArray, List.set_cons_zero, List.set_cons_succ]
      refine takePN16 (i := 1) (oi := _) (v := ?_) (d := some 36) rfl (by kernel_rfl) (by kernel_rfl) (by kernel_rfl) (by kernel_rfl) (fun _ _ _ h => h) (Or.inl ⟨by rfl, ?_⟩) (by assumption) ?_
      rotate_left
      · (intro w hSw; (try dsimp only at hSw); go_simp <;> with_reducible rfl)
      try simp only [Act.put, List.setIfInBounds_toArray, List.set_cons_zero, List.set_cons_succ]
      refine takePN16 (i := 2) (oi := _) (v := ?_) (d := some 2) rfl (by kernel_rfl) (by kernel_rfl) (by kernel_rfl) (by kernel_rfl) (fun _ _ _ h => h) (Or.inl ⟨by rfl, ?_⟩) (by assumption) ?_
      rotate_left
      · (intro w hSw; (try dsimp only at hSw); go_simp <;> with_reducible rfl)
      try simp only [Act.put, List.setIfInBounds_toArray, List.set_cons_zero, List.set_cons_succ]
      obtain ⟨_, c0, c1, f0, f1⟩ := H3d
      obtain ⟨D1, hD1⟩ : ∃ X, (D0.setCell ⟨w.heap.size, 0, none⟩ (.int .i64 t)).setCell ⟨w.heap.size, 1, none⟩ (.int .i64 b) = X := ⟨_, rfl⟩
      refine wpAnyH_ready (rs := [3]) (by kernel_rfl) (by simp) ?_
      refine AllReadyH.cons (o := _) rfl (fun K hK => ?_) AllReadyH.nil
      go_simp
      refine hK.out _ _ ?_ (fun hHeld => ?_)
      · rw [← hD1]; exact ⟨(H5d.out.other (by omega) _ _).2.1, (H5d.out.other (by omega) _ _).2.2.1⟩
      clear hK K
      try simp only [Act.put, List.setIfInBounds_toArray, List.set_cons_zero, List.set_cons_succ]
      refine takePN16 (i := 4) (oi := _) (v := ?_) (d := some 4) rfl (by kernel_rfl) (by kernel_rfl) (by kernel_rfl) (by kernel_rfl) (fun _ _ _ h => h) (Or.inl ⟨by rfl, ?_⟩) (by assumption) ?_
      rotate_left
      · (intro w hSw; (try dsimp only at hSw); go_simp <;> with_reducible rfl)
      try simp only [Act.put, List.setIfInBounds_toArray, List.set_cons_zero, List.set_cons_succ]
      refine wpAnyH_done (by kernel_rfl) ?_ _
      clear hHeld
      have H31 : FX D1 w.heap.size (.int .i64 t) (.int .i64 b) := by rw [← hD1]; exact FX.set (x := .int .i64 0) (y := .int .i64 0) ⟨by have := HBd.out.size; have := hsz; have := H5d.out.1; omega, c0, c1, f0, f1⟩ _ _
      have HO1 : Hid (Own D1 (w.heap.size + 2) (.slice ca cs.length cc) cs) := by rw [← hD1]; exact own_set HOd.out (by omega) _ _
      have HB1 : Hid (Below w.heap.size w D1) := by rw [← hD1]; exact (HBd.out.setCell (p := ⟨w.heap.size, 0, none⟩) (Nat.le_refl _) _).setCell (p := ⟨w.heap.size, 1, none⟩) (Nat.le_refl _) _
      try rw [hD1]
      clear hD1 c0 c1 f0 f1
      obtain ⟨_, c0, c1, _, _⟩ := H31
      go_wp2
      refine bodyPost_ret (v := .tuple #[.slice ca cs.length cc, .agg #[.int .i64 t, .int .i64 b], .bool true]) (by simp [results, Tryd.results12, go_sem, c0, c1]; try rfl) rfl ?_
      exact ⟨ca, cc, by rw [HE2.out.1, HE2.out.2.1, HE2.out.2.2], by rw [HE2.out.1]; exact HO1.out.mono (by omega), HB1.out⟩

end Go.Proofs.YtjpegbodhpnflaaDoor
