/- Chapter 16: JoinWindows of the specification. -/
import Derived.Test.YtjpegbodhpnflaaDoorJD16
namespace Go.Proofs.YtjpegbodhpnflaaDoor
set_option linter.unusedVariables false
set_option maxRecDepth 1000000
set_option linter.unusedSimpArgs false
open Go.RowKit

theorem appendE_run (w : World) (base : Nat) (v : Value) (xs ys : List Int) (ao : Option Addr) (m c : Nat) (hown : Own w base v xs) (hr : Rd w ao ys) (hm : ys.length = m) (hnil : ao = none → m = 0 ∧ c = 0) (hb : xs.length + m ≤ 1000000) (hbase : base ≤ w.heap.size) :
    ∃ v' w', (∀ ty, (Builtin.append_ #[23, 23] ty #[v, .slice ao m c]).run Tryd.prog w = .ok v' w') ∧ Own w' base v' (xs ++ ys) ∧ w.grownBy w' v.ownBlock ∧ Below base w w' := by
  obtain ⟨i0, hi, hz0, hz1, hz2⟩ := info_parts Tryd.infoInt
  have hge : ∀ k, v.ownBlock = some k → base ≤ k := own_block_ge hown
  cases ao with
  | none =>
    obtain ⟨rfl, rfl⟩ := hnil rfl
    obtain rfl := List.length_eq_zero_iff.1 hm
    refine ⟨v, w, fun ty => run_append_owned_none (P := Tryd.prog) (w := w) base 23 ty 3 i0 1 Tryd.underlying23 hi v xs.length (cellsI xs) hown, by rw [List.append_nil]; exact hown, World.grownBy.refl _ _, Below.refl _ _⟩
  | some a =>
    have hnews : ∀ j u, (cellsI ys)[j]? = some u → w.cell? (a.add j) = some u := fun j u hj => by
      rcases hr with rfl | ⟨b', o', he, hc⟩
      · simp [cellsI] at hj
      · simp only [Option.some.injEq] at he
        subst he
        have hjl : j < ys.length := by have := (List.getElem?_eq_some_iff.1 hj).1; simpa [cellsI] using this
        rw [getD_map_int ys j hjl] at hj
        simp only [Option.some.injEq] at hj
        subst hj
        rw [Go.WideShapes.add_plain]
        exact hc j hjl
    obtain ⟨v', w', hrun, hown', hgrow, _⟩ := run_append_own (P := Tryd.prog) w base 23 23 3 i0 (.int .i64 0) 1 8 Tryd.underlying23 hi hz0 hz1 hz2 rfl (by decide) v xs.length (cellsI xs) hown a m c (cellsI ys) (by rw [cellsI_length, hm, Nat.mul_one]) hnews (cellsI_oneCell _) (by unfold maxLen; omega) (by omega) hbase
    refine ⟨v', w', fun ty => hrun, ?_, hgrow, (Below.refl _ _).grown hgrow hbase hge⟩
    unfold Own
    rw [List.length_append, hm]
    simpa [cellsI] using hown'


/-- The bits with one number more. -/
def foldJ (T : Int) (acc : Nat) (n : Int) : Nat := if T - n < 16 then acc ||| 1 <<< (T - n).toNat else acc
theorem foldJ_bit (T : Int) (k : Nat) : ∀ (L : List Int) (acc : Nat), (∀ n ∈ L, n ≤ T) → ((L.foldl (foldJ T) acc).testBit k = true ↔ acc.testBit k = true ∨ ∃ n ∈ L, T - n < 16 ∧ (T - n).toNat = k)
  | [], acc, _ => by simp
  | n :: r, acc, h => by
    rw [List.foldl_cons, foldJ_bit T k r _ (fun x hx => h x (by simp [hx]))]
    have hn := h n (by simp)
    have h1 : (foldJ T acc n).testBit k = true ↔ acc.testBit k = true ∨ (T - n < 16 ∧ (T - n).toNat = k) := by
      unfold foldJ
      by_cases c : T - n < 16
      · rw [if_pos c, Nat.testBit_or, Bool.or_eq_true, Nat.shiftLeft_eq, Nat.one_mul, Nat.testBit_two_pow]
        simp [c]
      · rw [if_neg c]; simp [c]
    rw [h1]
    constructor
    · rintro ((e | e) | ⟨x, hx, e⟩)
      · exact Or.inl e
      · exact Or.inr ⟨n, by simp, e⟩
      · exact Or.inr ⟨x, by simp [hx], e⟩
    · rintro (e | ⟨x, hx, e⟩)
      · exact Or.inl (Or.inl e)
      · rcases List.mem_cons.1 hx with rfl | hx
        · exact Or.inl (Or.inr e)
        · exact Or.inr ⟨x, hx, e⟩
theorem foldJ_lt (T : Int) : ∀ (L : List Int) (acc : Nat), (∀ n ∈ L, n ≤ T) → acc < 65536 → L.foldl (foldJ T) acc < 65536
  | [], acc, _, h => h
  | n :: r, acc, h, ha => by
    rw [List.foldl_cons]
    refine foldJ_lt T r _ (fun x hx => h x (by simp [hx])) ?_
    have hn := h n (by simp)
    unfold foldJ
    by_cases c : T - n < 16
    · rw [if_pos c]
      refine Nat.or_lt_two_pow (n := 16) ha ?_
      rw [Nat.shiftLeft_eq, Nat.one_mul]
      exact Nat.pow_lt_pow_right (by omega) (by omega)
    · rw [if_neg c]; exact ha
theorem foldJ_all (T : Int) (xs ys : List Int) (h : ∀ n ∈ xs ++ ys, n ≤ T) : (xs ++ ys).foldl (foldJ T) 0 = WB 16 T (joinL xs ys) := by
  refine Nat.eq_of_testBit_eq fun k => ?_
  have h1 := foldJ_bit T k (xs ++ ys) 0 h
  have h2 : (WB 16 T (joinL xs ys)).testBit k = true ↔ ∃ n ∈ xs ++ ys, T - n < 16 ∧ (T - n).toNat = k := by
    rw [WB_bit, Bool.and_eq_true, decide_eq_true_eq, decide_eq_true_eq, (joinL_facts xs ys).2, ← List.mem_append]
    constructor
    · rintro ⟨hk, hm⟩
      exact ⟨T - (k : Int), hm, by omega, by omega⟩
    · rintro ⟨n, hm, c1, c2⟩
      have := h n hm
      refine ⟨by omega, ?_⟩
      rw [show T - (k : Int) = n by omega]
      exact hm
  rw [Bool.eq_iff_iff, h1, h2]
  simp
theorem FX.set1 {w : World} {g : Nat} {x y : Value} (h : FX w g x y) (v : Value) : FX (w.setCell ⟨g, 1, none⟩ v) g x v :=
  ⟨by have := ((Below.refl 0 w).setCell (p := ⟨g, 1, none⟩) (Nat.zero_le _) v).size; exact Nat.lt_of_lt_of_le h.1 this, by rw [World.cell?_setCell_other _ _ _ _ (by simp)]; exact h.2.1, World.cell?_setCell_same _ _ _ h.2.2.1, by rw [World.frozen?_setCell]; exact h.2.2.2.1, by rw [World.frozen?_setCell]; exact h.2.2.2.2⟩
theorem FX.oth1 {w : World} {g g' : Nat} {x y : Value} (h : FX w g x y) (hne : g' ≠ g) (v : Value) : FX (w.setCell ⟨g', 1, none⟩ v) g x y :=
  ⟨by have := ((Below.refl 0 w).setCell (p := ⟨g', 1, none⟩) (Nat.zero_le _) v).size; exact Nat.lt_of_lt_of_le h.1 this, by rw [World.cell?_setCell_other _ _ _ _ (by intro e; injection e with e1; exact hne e1)]; exact h.2.1, by rw [World.cell?_setCell_other _ _ _ _ (by intro e; injection e with e1; exact hne e1)]; exact h.2.2.1, by rw [World.frozen?_setCell]; exact h.2.2.2.1, by rw [World.frozen?_setCell]; exact h.2.2.2.2⟩
theorem own_set1 {w : World} {base : Nat} {v : Value} {xs : List Int} (h : Own w base v xs) {g : Nat} (hg : g < base) (u : Value) : Own (w.setCell ⟨g, 1, none⟩ u) base v xs := by
  refine h.kept (grown_setCell w g 1 u) ?_
  cases hv : v.ownBlock with
  | none => exact Or.inl rfl
  | some j => exact Or.inr fun e => by injection e with e1; have := own_block_ge h j hv; omega

theorem takeJE16 {P : Program} {ops : Array Oper} {Q : Exit → Act → World → Prop} {md : Region.Mode} {S : World → Prop} {i : Nat} {oi : Oper} {v : Value} {d : Option Tmp} {fuel : Nat} {listed : Array Bool} {a : Act} {w : World} (hi : ops[i]? = some oi) (hd : oi.dst = d)
    (hs : Region.noSelect ops = true) (hf : Region.free md ops listed i = true) (hr : (Region.ready md ops listed).contains i = true)
    (hQ : ∀ c a w, Q (.panic c) (a.put d v) w → Q (.panic c) a w) (hy : YieldsIf P ops S oi v a) (hS : S w)
    (h : wpAnyH P md ops Q S fuel (listed.setIfInBounds i true) (a.put d v) w) : wpAnyH P md ops Q S (fuel + 1) listed a w := by
  subst hd
  exact wpAnyH_take hi hs hf hr hQ hy hS h

set_option maxHeartbeats 4000000 in
theorem specJoin_c (t x u y : Int) (w : World) (ht64 : -9223372036854775808 ≤ t ∧ t ≤ 9223372036854775807) (hu64 : -9223372036854775808 ≤ u ∧ u ≤ 9223372036854775807) (hx64 : -9223372036854775808 ≤ x ∧ x ≤ 9223372036854775807) (hy64 : -9223372036854775808 ≤ y ∧ y ≤ 9223372036854775807) :
    Calls Tryd.prog 24 #[.agg #[.int .i64 t, .int .i64 x], .agg #[.int .i64 u, .int .i64 y]] w fun e w' => e = .returned (.tuple #[.agg #[.int .i64 (joinT t x u y).1, .int .i64 (joinT t x u y).2], .bool (joinOk t x u y)]) ∧ Below w.heap.size w w' := by
  obtain ⟨W, hW⟩ : ∃ X, ((w.alloc (.cells #[.int .i64 t, .int .i64 x] 26)).alloc (.cells #[.int .i64 u, .int .i64 y] 26)).alloc (.cells #[.int .i64 0, .int .i64 0] 26) = X := ⟨_, rfl⟩
  have hsz : W.heap.size = w.heap.size + 3 := by rw [← hW]; simp
  have HB0 : Hid (Below w.heap.size w W) := by rw [← hW]; exact (((Below.refl _ _).alloc (Nat.le_refl _) _).alloc (by simp) _).alloc (by simp; omega) _
  have FA0 : FX W w.heap.size (.int .i64 t) (.int .i64 x) := by
    rw [← hW]; exact ((fx_new w _ _ _).later (balloc _ _)).later (balloc _ _)
  have FB0 : FX W (w.heap.size + 1) (.int .i64 u) (.int .i64 y) := by
    have h := (fx_new (w.alloc (.cells #[.int .i64 t, .int .i64 x] 26)) (.int .i64 u) (.int .i64 y) 26).later (balloc _ (.cells #[.int .i64 0, .int .i64 0] 26))
    rw [show (w.alloc (.cells #[.int .i64 t, .int .i64 x] 26)).heap.size = w.heap.size + 1 by simp] at h
    rw [← hW]; exact h
  have FC0 : FX W (w.heap.size + 2) (.int .i64 0) (.int .i64 0) := by
    have h := fx_new ((w.alloc (.cells #[.int .i64 t, .int .i64 x] 26)).alloc (.cells #[.int .i64 u, .int .i64 y] 26)) (.int .i64 0) (.int .i64 0) 26
    rw [show ((w.alloc (.cells #[.int .i64 t, .int .i64 x] 26)).alloc (.cells #[.int .i64 u, .int .i64 y] 26)).heap.size = w.heap.size + 2 by simp] at h
    rw [← hW]; exact h
  have q1 := fun wx (h : Below W.heap.size W wx) => specGood_c t x wx hx64 ht64
  have q2 := fun wx (h : Below W.heap.size W wx) => specGood_c u y wx hy64 hu64
  cases hg : goodWn t x
  · have hk : joinOk t x u y = false := by unfold joinOk; rw [hg]; rfl
    have hj : joinT t x u y = (0, 0) := by unfold joinT; rw [hk, if_neg (by decide)]
    rw [hj, hk]
    rw [hg] at q1
    obtain ⟨_, a0, a1, _, _⟩ := id FA0
    clear hg hk hj FB0
    go_enter Tryd.func24, Tryd.ntmps24
    go_wp2_with fail
    refine (q1 _ (Below.refl _ _)).mono ?_
    clear q1 a0 a1
    rintro e w1 ⟨rfl, b1⟩
    obtain ⟨_, c0, c1, f0, f1⟩ := FC0.later b1
    have B9 : Hid (∀ p q, Below w.heap.size w ((w1.setCell ⟨w.heap.size + 2, 0, none⟩ p).setCell ⟨w.heap.size + 2, 1, none⟩ q)) := fun p q => ((HB0.out.trans (b1.mono HB0.out.size)).setCell (p := ⟨w.heap.size + 2, 0, none⟩) (by show w.heap.size ≤ w.heap.size + 2; omega) p).setCell (p := ⟨w.heap.size + 2, 1, none⟩) (by show w.heap.size ≤ w.heap.size + 2; omega) q
    obtain ⟨hc0, hc1⟩ := set2 w1 (w.heap.size + 2) (.int .i64 0) (.int .i64 0) c0 c1
    clear b1 hW
    go_wp2
    refine bodyPost_ret (v := .tuple #[.agg #[.int .i64 0, .int .i64 0], .bool false]) (by simp [results, Tryd.results24, go_sem, hc0, hc1]; try rfl) rfl ?_
    exact ⟨rfl, B9.out _ _⟩
  cases hh : goodWn u y
  · have hk : joinOk t x u y = false := by unfold joinOk; rw [hg, hh]; rfl
    have hj : joinT t x u y = (0, 0) := by unfold joinT; rw [hk, if_neg (by decide)]
    rw [hj, hk]
    rw [hg] at q1
    rw [hh] at q2
    obtain ⟨_, a0, a1, _, _⟩ := id FA0
    clear hg hh hk hj
    go_enter Tryd.func24, Tryd.ntmps24
    go_wp2_with fail
    refine (q1 _ (Below.refl _ _)).mono ?_
    clear q1 a0 a1
    rintro e w1 ⟨rfl, b1⟩
    obtain ⟨_, a0, a1, _, _⟩ := FB0.later b1
    have FC1 := FC0.later b1
    have B1 := HB0.out.trans (b1.mono HB0.out.size)
    have q2' := q2 w1 b1
    clear b1
    go_wp2_with fail
    refine q2'.mono ?_
    clear q2' q2 a0 a1
    rintro e w2 ⟨rfl, b2⟩
    obtain ⟨_, c0, c1, f0, f1⟩ := FC1.later b2
    have B9 : Hid (∀ p q, Below w.heap.size w ((w2.setCell ⟨w.heap.size + 2, 0, none⟩ p).setCell ⟨w.heap.size + 2, 1, none⟩ q)) := fun p q => ((B1.trans (b2.mono B1.size)).setCell (p := ⟨w.heap.size + 2, 0, none⟩) (by show w.heap.size ≤ w.heap.size + 2; omega) p).setCell (p := ⟨w.heap.size + 2, 1, none⟩) (by show w.heap.size ≤ w.heap.size + 2; omega) q
    obtain ⟨hc0, hc1⟩ := set2 w2 (w.heap.size + 2) (.int .i64 0) (.int .i64 0) c0 c1
    clear b2 hW
    go_wp2
    refine bodyPost_ret (v := .tuple #[.agg #[.int .i64 0, .int .i64 0], .bool false]) (by simp [results, Tryd.results24, go_sem, hc0, hc1]; try rfl) rfl ?_
    exact ⟨rfl, B9.out _ _⟩
  have hk : joinOk t x u y = true := by unfold joinOk; rw [hg, hh]; rfl
  obtain ⟨_, hG⟩ := goodWn_of hg
  obtain ⟨_, hH⟩ := goodWn_of hh
  obtain ⟨b, rfl⟩ : ∃ b : Nat, x = b := ⟨x.toNat, by omega⟩
  obtain ⟨d, rfl⟩ : ∃ d : Nat, y = d := ⟨y.toNat, by omega⟩
  rw [Int.toNat_natCast] at hG hH
  have hj : joinT t b u d = (max t u, ((WB 16 (max t u) (joinL (RL 16 b t) (RL 16 d u)) : Nat) : Int)) := by
    unfold joinT
    rw [hk, if_pos rfl, Int.toNat_natCast, Int.toNat_natCast]
  rw [hj, hk]
  rw [hg] at q1
  rw [hh] at q2
  clear hj hk hg hh
  have HN1 : Hid (∀ wx, Calls Tryd.prog 53 #[.agg #[.int .i64 t, .int .i64 b]] wx fun e w' => ∃ ao c, e = .returned (.slice ao (RL 16 b t).length c) ∧ Own w' wx.heap.size (.slice ao (RL 16 b t).length c) (RL 16 b t) ∧ Below wx.heap.size wx w') := fun wx => l16Seen_c t b wx hG
  have HN2 : Hid (∀ wx, Calls Tryd.prog 53 #[.agg #[.int .i64 u, .int .i64 d]] wx fun e w' => ∃ ao c, e = .returned (.slice ao (RL 16 d u).length c) ∧ Own w' wx.heap.size (.slice ao (RL 16 d u).length c) (RL 16 d u) ∧ Below wx.heap.size wx w') := fun wx => l16Seen_c u d wx hH
  have hle : ∀ n ∈ RL 16 b t ++ RL 16 d u, n ≤ max t u := fun n hn => by
    rcases List.mem_append.1 hn with e | e
    · have := goodW_le hG e; omega
    · have := goodW_le hH e; omega
  have hpos : ∀ n ∈ RL 16 b t ++ RL 16 d u, 1 ≤ n := fun n hn => by
    rcases List.mem_append.1 hn with e | e
    · exact (goodW_pos hG e).1
    · exact (goodW_pos hH e).1
  have hfin := foldJ_all (max t u) _ _ hle
  have hm0 := hG.1
  have hm1 := hG.2.1
  have hm2 := hH.1
  have hm3 := hH.2.1
  have hl1 := RL_len 16 b t
  have hl2 := RL_len 16 d u
  show Calls _ _ _ _ fun e w' => e = .returned (.tuple #[.agg #[.int .i64 (max t u), .int .i64 (WB 16 (max t u) (joinL (RL 16 b t) (RL 16 d u)) : Nat)], .bool true]) ∧ _
  rw [← hfin]
  obtain ⟨T, hT⟩ : ∃ T, max t u = T := ⟨_, rfl⟩
  have hT0 : 0 ≤ T ∧ T ≤ 100000 := by omega
  rw [hT] at hle ⊢
  clear hfin
  generalize RL 16 b t = xs at HN1 hle hpos hl1
  generalize RL 16 d u = ys at HN2 hle hpos hl2
  have HLE : Hid (∀ n ∈ xs ++ ys, 1 ≤ n ∧ n ≤ T) := fun n hn => ⟨hpos n hn, hle n hn⟩
  have HLT : Hid (∀ k, ((xs ++ ys).take k).foldl (foldJ T) 0 < 65536) := fun k => foldJ_lt T _ _ (fun n hn => hle n (List.mem_of_mem_take hn)) (by omega)
  clear hle hpos hG hH
  obtain ⟨Z, hZ⟩ : ∃ Z, xs ++ ys = Z := ⟨_, rfl⟩
  rw [hZ] at HLE HLT ⊢
  have hZ32 : Z.length ≤ 32 := by rw [← hZ, List.length_append]; omega
  have HZ : Hid (xs ++ ys = Z) := hZ
  clear hZ
  have HSn : Hid (∀ k, k < Z.length → (Z.take (k + 1)).foldl (foldJ T) 0 = foldJ T ((Z.take k).foldl (foldJ T) 0) (Z.getD k 0)) := fun k hk => fold_take (foldJ T) 0 hk
  have HEn : Hid ((Z.take Z.length).foldl (foldJ T) 0 = Z.foldl (foldJ T) 0) := by show _ = _; rw [List.take_length]
  obtain ⟨_, a0, a1, _, _⟩ := id FA0
  go_enter Tryd.func24, Tryd.ntmps24
  go_wp2_with fail
  refine (q1 _ (Below.refl _ _)).mono ?_
  clear q1 a0 a1
  rintro e w1 ⟨rfl, b1⟩
  have FA1 := FA0.later b1
  have FB1 := FB0.later b1
  have FC1 := FC0.later b1
  have B1 := HB0.out.trans (b1.mono HB0.out.size)
  have q2' := q2 w1 b1
  obtain ⟨_, a0, a1, _, _⟩ := id FB1
  clear b1 FA0 FB0 FC0 q2 hW
  go_wp2_with fail
  refine q2'.mono ?_
  clear q2' a0 a1
  rintro e w2 ⟨rfl, b2⟩
  have FA2 := FA1.later b2
  have FB2 := FB1.later b2
  have FC2 := FC1.later b2
  have B2 := B1.trans (b2.mono B1.size)
  have hs2 : w.heap.size + 3 ≤ w2.heap.size := by have := B2.size; have := FC2.1; omega
  clear b2 FA1 FB1 FC1 B1
  have b3 := balloc w2 (.cells #[.int .i64 T, .int .i64 0] 26)
  have hS3 : (w2.alloc (.cells #[.int .i64 T, .int .i64 0] 26)).heap.size = w2.heap.size + 1 := by simp
  have FO3 := fx_new w2 (.int .i64 T) (.int .i64 0) 26
  obtain ⟨W3, hW3⟩ : ∃ X, w2.alloc (.cells #[.int .i64 T, .int .i64 0] 26) = X := ⟨_, rfl⟩
  rw [hW3] at b3 hS3 FO3
  obtain ⟨D0, hD0⟩ : ∃ D, W3.drew = D := ⟨_, rfl⟩
  have FAd : Hid (FX D0 w.heap.size (.int .i64 t) (.int .i64 b)) := by rw [← hD0]; exact FA2.later b3.drew
  have FBd : Hid (FX D0 (w.heap.size + 1) (.int .i64 u) (.int .i64 d)) := by rw [← hD0]; exact FB2.later b3.drew
  have FCd : Hid (FX D0 (w.heap.size + 2) (.int .i64 0) (.int .i64 0)) := by rw [← hD0]; exact FC2.later b3.drew
  have FOd : Hid (FX D0 w2.heap.size (.int .i64 T) (.int .i64 0)) := by rw [← hD0]; exact FO3
  have BD : Hid (Below w.heap.size w D0) := by rw [← hD0]; exact (B2.trans (b3.mono B2.size)).drew
  have hSD : w2.heap.size + 1 ≤ D0.heap.size := by rw [← hD0]; show _ ≤ W3.heap.size; omega
  obtain ⟨_, a0, a1, _, _⟩ := id FA2
  obtain ⟨_, b0, b1, _, _⟩ := id FB2
  obtain ⟨_, d0, d1, _, _⟩ := FA2.later b3
  obtain ⟨_, d2, d3, _, _⟩ := FB2.later b3
  obtain ⟨_, d4, d5, _, _⟩ := id FO3
  clear b3 FA2 FB2 FC2 B2 FO3
  by_cases cut : t < u
  · have hTu : T = u := by omega
    rw [hTu] at hW3
    clear hTu hT
    go_wp2
    refine wp_region_held_drew (S := (fun X => (X.cell? ⟨w.heap.size, 0, none⟩ = some (.int .i64 t) ∧ X.cell? ⟨w.heap.size, 1, none⟩ = some (.int .i64 b)) ∧ X.cell? ⟨w.heap.size + 1, 0, none⟩ = some (.int .i64 u) ∧ X.cell? ⟨w.heap.size + 1, 1, none⟩ = some (.int .i64 d))) (by kernel_rfl) ?_ (fun hHeld => ?_)
    · exact ⟨⟨d0, d1⟩, d2, d3⟩
    rw [hD0] at hHeld ⊢
    clear hD0 hW3 a0 a1 b0 b1 d0 d1 d2 d3 d4 d5
    refine takeJE16 (i := 0) (oi := _) (v := ?_) (d := some 29) rfl (by kernel_rfl) (by kernel_rfl) (by kernel_rfl) (by kernel_rfl) (fun _ _ _ h => h) (Or.inl ⟨by rfl, ?_⟩) (by assumption) ?_
    rotate_left
    · (intro w hSw; (try dsimp only at hSw); go_simp <;> with_reducible rfl)
    try simp only [Act.put, List.setIfInBounds_toArray, List.set_cons_zero, List.set_cons_succ]
    refine takeJE16 (i := 2) (oi := _) (v := ?_) (d := some 31) rfl (by kernel_rfl) (by kernel_rfl) (by kernel_rfl) (by kernel_rfl) (fun _ _ _ h => h) (Or.inl ⟨by rfl, ?_⟩) (by assumption) ?_
    rotate_left
    · (intro w hSw; (try dsimp only at hSw); go_simp <;> with_reducible rfl)
    try simp only [Act.put, List.setIfInBounds_toArray, List.set_cons_zero, List.set_cons_succ]
    refine takeJE16 (i := 6) (oi := _) (v := ?_) (d := some 35) rfl (by kernel_rfl) (by kernel_rfl) (by kernel_rfl) (by kernel_rfl) (fun _ _ _ h => h) (Or.inl ⟨by rfl, ?_⟩) (by assumption) ?_
    rotate_left
    · (intro w hSw; (try dsimp only at hSw); go_simp <;> with_reducible rfl)
    try simp only [Act.put, List.setIfInBounds_toArray, List.set_cons_zero, List.set_cons_succ]
    refine wpAnyH_ready (rs := [1]) (by kernel_rfl) (by simp) ?_
    refine AllReadyH.cons (o := _) rfl (fun K hK => ?_) AllReadyH.nil
    go_simp
    refine (HN1.out _).mono ?_
    rintro e V1 ⟨ao1, k1, rfl, ho, hb⟩
    have FA1 : Hid (FX V1 w.heap.size (.int .i64 t) (.int .i64 b)) := FAd.out.later hb
    have FB1 : Hid (FX V1 (w.heap.size + 1) (.int .i64 u) (.int .i64 d)) := FBd.out.later hb
    have FC1 : Hid (FX V1 (w.heap.size + 2) (.int .i64 0) (.int .i64 0)) := FCd.out.later hb
    have FO1 : Hid (FX V1 w2.heap.size (.int .i64 T) (.int .i64 0)) := FOd.out.later hb
    have B1 : Hid (Below w.heap.size w V1) := BD.out.trans (hb.mono BD.out.size)
    have O1 : Hid (Own V1 D0.heap.size (.slice ao1 xs.length k1) xs) := ho
    have z1 : D0.heap.size ≤ V1.heap.size := hb.size
    clear ho hb FAd FBd FCd FOd
    refine hK.out _ _ ?_ (fun hHeld => ?_)
    · exact ⟨⟨FA1.out.2.1, FA1.out.2.2.1⟩, FB1.out.2.1, FB1.out.2.2.1⟩
    clear hK K
    try simp only [Act.put, List.setIfInBounds_toArray, List.set_cons_zero, List.set_cons_succ]
    refine wpAnyH_ready (rs := [3]) (by kernel_rfl) (by simp) ?_
    refine AllReadyH.cons (o := _) rfl (fun K hK => ?_) AllReadyH.nil
    go_simp
    refine (HN2.out _).mono ?_
    rintro e V2 ⟨ao2, k2, rfl, ho, hb⟩
    have FA2 : Hid (FX V2 w.heap.size (.int .i64 t) (.int .i64 b)) := FA1.out.later hb
    have FB2 : Hid (FX V2 (w.heap.size + 1) (.int .i64 u) (.int .i64 d)) := FB1.out.later hb
    have FC2 : Hid (FX V2 (w.heap.size + 2) (.int .i64 0) (.int .i64 0)) := FC1.out.later hb
    have B2 : Hid (Below w.heap.size w V2) := B1.out.trans (hb.mono B1.out.size)
    have FO2 : Hid (FX V2 w2.heap.size (.int .i64 T) (.int .i64 0)) := FO1.out.later hb
    have O12 : Hid (Own V2 D0.heap.size (.slice ao1 xs.length k1) xs) := O1.out.later hb
    have O2 : Hid (Own V2 V1.heap.size (.slice ao2 ys.length k2) ys) := ho
    have z2 : V1.heap.size ≤ V2.heap.size := hb.size
    clear ho hb FA1 FB1 FC1 FO1 O1
    refine hK.out _ _ ?_ (fun hHeld => ?_)
    · exact ⟨⟨FA2.out.2.1, FA2.out.2.2.1⟩, FB2.out.2.1, FB2.out.2.2.1⟩
    clear hK K
    try simp only [Act.put, List.setIfInBounds_toArray, List.set_cons_zero, List.set_cons_succ]
    obtain ⟨v', V3, r1, o1, gg, bw⟩ := appendE_run V2 D0.heap.size (.slice ao1 xs.length k1) xs ys ao2 ys.length k2 O12.out O2.out.rd'.2 rfl (own_none O2.out) (by omega) (by omega)
    rw [HZ.out] at o1
    obtain ⟨a4, c4, hv4⟩ := o1.shape
    subst hv4
    have FA3 : Hid (FX V3 w.heap.size (.int .i64 t) (.int .i64 b)) := FA2.out.low bw (by omega)
    have FB3 : Hid (FX V3 (w.heap.size + 1) (.int .i64 u) (.int .i64 d)) := FB2.out.low bw (by omega)
    have FC3 : Hid (FX V3 (w.heap.size + 2) (.int .i64 0) (.int .i64 0)) := FC2.out.low bw (by omega)
    have FO3 : Hid (FX V3 w2.heap.size (.int .i64 T) (.int .i64 0)) := FO2.out.low bw (by omega)
    have O3 : Hid (Own V3 D0.heap.size (.slice a4 Z.length c4) Z) := o1
    have B3 : Hid (Below w.heap.size w V3) := B2.out.trans (bw.mono (by omega))
    clear o1 gg bw FA2 FB2 FC2 FO2 O12 O2 B2
    refine wpAnyH_ready (rs := [4]) (by kernel_rfl) (by simp) ?_
    refine AllReadyH.cons (o := _) rfl (fun K hK => ?_) AllReadyH.nil
    rw [if_pos (by rfl)]
    refine Lib.wp_append_run _ _ _ _ _ rfl (.slice ao1 xs.length k1) (.slice ao2 ys.length k2) (by rfl) (by rfl) (.slice a4 Z.length c4) V3 (r1 _) ?_
    clear r1
    refine hK.out _ _ ?_ (fun hHeld => ?_)
    · exact ⟨⟨FA3.out.2.1, FA3.out.2.2.1⟩, FB3.out.2.1, FB3.out.2.2.1⟩
    clear hK K
    try simp only [Act.put, List.setIfInBounds_toArray, List.set_cons_zero, List.set_cons_succ]
    try simp only [List.getElem_toArray, List.getElem_cons_succ, List.getElem_cons_zero, Act.put, List.setIfInBounds_toArray, List.set_cons_zero, List.set_cons_succ]
    refine takeJE16 (i := 5) (oi := _) (v := ?_) (d := some 34) rfl (by kernel_rfl) (by kernel_rfl) (by kernel_rfl) (by kernel_rfl) (fun _ _ _ h => h) (Or.inl ⟨by rfl, ?_⟩) (by assumption) ?_
    rotate_left
    · (intro w hSw; (try dsimp only at hSw); go_simp <;> with_reducible rfl)
    try simp only [Act.put, List.setIfInBounds_toArray, List.set_cons_zero, List.set_cons_succ]
    refine wpAnyH_done (by kernel_rfl) ?_ _
    clear hHeld FA3 FB3
    go_wp2
    go_loopw [35] (fun iv wr => ∃ (k : Nat), k ≤ Z.length ∧ iv = .int .i64 k ∧ Hid (FX wr w2.heap.size (.int .i64 T) (.int .i64 ((Z.take k).foldl (foldJ T) 0 : Nat))) ∧ Hid (FX wr (w.heap.size + 2) (.int .i64 0) (.int .i64 0)) ∧ Hid (Own wr D0.heap.size (.slice a4 Z.length c4) Z) ∧ Hid (Below w.heap.size w wr)) (fun iv _ => Z.length - (intOf iv).toNat)
    case atStart => exact ⟨0, Nat.zero_le _, rfl, FO3, FC3, O3, B3⟩
    case round =>
      obtain ⟨k, hk, rfl, FO, FC, O, B⟩ := hrel
      by_cases hlt : k < Z.length
      · have hbd := HLE.out _ (mem_getD 0 hlt)
        have hac := HLT.out k
        have hsn := HSn.out k hlt
        obtain ⟨bb, oo, rfl, g1⟩ := O.out.rd'.2.get hlt
        have hk0 : (0 : Int) ≤ (k : Int) := by omega
        have hkl : (k : Int) < (Z.length : Int) := by omega
        have hsn' : (Z.take (k + 1)).foldl (foldJ T) 0 = foldJ T ((Z.take k).foldl (foldJ T) 0) (Z.getD k 0) := hsn
        generalize Z.getD k 0 = z at g1 hbd hsn'
        obtain ⟨acc, hacc⟩ : ∃ acc, (Z.take k).foldl (foldJ T) 0 = acc := ⟨_, rfl⟩
        rw [hacc] at hsn'
        unfold foldJ at hsn'
        rw [hacc] at FO hac
        obtain ⟨_, o0, o1, of0, of1⟩ := id FO.out
        by_cases c16 : T - z < 16
        · obtain ⟨p, hp⟩ : ∃ p : Nat, T - z = p := ⟨(T - z).toNat, by omega⟩
          have hp16 : p < 16 := by omega
          have hN : (Z.take (k + 1)).foldl (foldJ T) 0 = acc ||| 1 <<< p := by
            have h9 := hsn'
            rw [if_pos c16, show (T - z).toNat = p by omega] at h9
            exact h9
          have hor := orE hac hp16
          have FO2 : Hid (FX (wr.setCell ⟨w2.heap.size, 1, none⟩ (.int .i64 ((acc ||| 1 <<< p : Nat) : Int))) w2.heap.size (.int .i64 T) (.int .i64 ((Z.take (k + 1)).foldl (foldJ T) 0 : Nat))) := by rw [hN]; exact FO.out.set1 _
          have FC2 : Hid (FX (wr.setCell ⟨w2.heap.size, 1, none⟩ (.int .i64 ((acc ||| 1 <<< p : Nat) : Int))) (w.heap.size + 2) (.int .i64 0) (.int .i64 0)) := FC.out.oth1 (by omega) _
          have O2 : Hid (Own (wr.setCell ⟨w2.heap.size, 1, none⟩ (.int .i64 ((acc ||| 1 <<< p : Nat) : Int))) D0.heap.size (.slice (some ⟨bb, oo, none⟩) Z.length c4) Z) := own_set1 O.out (by omega) _
          have B2 : Hid (Below w.heap.size w (wr.setCell ⟨w2.heap.size, 1, none⟩ (.int .i64 ((acc ||| 1 <<< p : Nat) : Int)))) := B.out.setCell (p := ⟨w2.heap.size, 1, none⟩) (by show w.heap.size ≤ w2.heap.size; omega) _
          clear hN hsn hsn' hacc FO FC O B
          go_wp2
          go_roundw
          case rel => exact ⟨k + 1, by omega, by go_num, FO2, FC2, O2, B2⟩
          case measure => simp [intOf]; omega
        · have hN : (Z.take (k + 1)).foldl (foldJ T) 0 = acc := by have h9 := hsn'; rw [if_neg c16] at h9; exact h9
          have FO2 : Hid (FX wr w2.heap.size (.int .i64 T) (.int .i64 ((Z.take (k + 1)).foldl (foldJ T) 0 : Nat))) := by rw [hN]; exact FO.out
          clear hN hsn hsn' hacc
          go_wp2
          go_roundw
          case rel => exact ⟨k + 1, by omega, by go_num, FO2, FC, O, B⟩
          case measure => simp [intOf]; omega
      · obtain rfl : k = Z.length := by omega
        rw [HEn.out] at FO
        obtain ⟨R, hR⟩ : ∃ R, Z.foldl (foldJ T) 0 = R := ⟨_, rfl⟩
        rw [hR] at FO
        have HRR : Hid (Z.foldl (foldJ T) 0 = R) := hR
        clear hR
        obtain ⟨_, o0, o1, _, _⟩ := id FO.out
        obtain ⟨_, c0, c1, f0, f1⟩ := id FC.out
        have B9 : Hid (∀ p q, Below w.heap.size w ((wr.setCell ⟨w.heap.size + 2, 0, none⟩ p).setCell ⟨w.heap.size + 2, 1, none⟩ q)) := fun p q => (B.out.setCell (p := ⟨w.heap.size + 2, 0, none⟩) (by show w.heap.size ≤ w.heap.size + 2; omega) p).setCell (p := ⟨w.heap.size + 2, 1, none⟩) (by show w.heap.size ≤ w.heap.size + 2; omega) q
        obtain ⟨hc0, hc1⟩ := set2 wr (w.heap.size + 2) (.int .i64 T) (.int .i64 R) c0 c1
        go_wp2
        refine bodyPost_ret (v := .tuple #[.agg #[.int .i64 T, .int .i64 R], .bool true]) (by simp [results, Tryd.results24, go_sem, hc0, hc1]; try rfl) rfl ?_
        exact ⟨by rw [HRR.out], B9.out _ _⟩
  · have hTu : T = t := by omega
    rw [hTu] at hW3
    have HW3 : Hid (w2.alloc (.cells #[.int .i64 t, .int .i64 0] 26) = W3) := hW3
    clear hTu hT hW3
    go_wp2
    rw [HW3.out]
    refine wp_region_held_drew (S := (fun X => (X.cell? ⟨w.heap.size, 0, none⟩ = some (.int .i64 t) ∧ X.cell? ⟨w.heap.size, 1, none⟩ = some (.int .i64 b)) ∧ X.cell? ⟨w.heap.size + 1, 0, none⟩ = some (.int .i64 u) ∧ X.cell? ⟨w.heap.size + 1, 1, none⟩ = some (.int .i64 d))) (by kernel_rfl) ?_ (fun hHeld => ?_)
    · exact ⟨⟨d0, d1⟩, d2, d3⟩
    rw [hD0] at hHeld ⊢
    clear hD0 HW3 a0 a1 b0 b1 d0 d1 d2 d3 d4 d5
    refine takeJE16 (i := 0) (oi := _) (v := ?_) (d := some 29) rfl (by kernel_rfl) (by kernel_rfl) (by kernel_rfl) (by kernel_rfl) (fun _ _ _ h => h) (Or.inl ⟨by rfl, ?_⟩) (by assumption) ?_
    rotate_left
    · (intro w hSw; (try dsimp only at hSw); go_simp <;> with_reducible rfl)
    try simp only [Act.put, List.setIfInBounds_toArray, List.set_cons_zero, List.set_cons_succ]
    refine takeJE16 (i := 2) (oi := _) (v := ?_) (d := some 31) rfl (by kernel_rfl) (by kernel_rfl) (by kernel_rfl) (by kernel_rfl) (fun _ _ _ h => h) (Or.inl ⟨by rfl, ?_⟩) (by assumption) ?_
    rotate_left
    · (intro w hSw; (try dsimp only at hSw); go_simp <;> with_reducible rfl)
    try simp only [Act.put, List.setIfInBounds_toArray, List.set_cons_zero, List.set_cons_succ]
    refine takeJE16 (i := 6) (oi := _) (v := ?_) (d := some 35) rfl (by kernel_rfl) (by kernel_rfl) (by kernel_rfl) (by kernel_rfl) (fun _ _ _ h => h) (Or.inl ⟨by rfl, ?_⟩) (by assumption) ?_
    rotate_left
    · (intro w hSw; (try dsimp only at hSw); go_simp <;> with_reducible rfl)
    try simp only [Act.put, List.setIfInBounds_toArray, List.set_cons_zero, List.set_cons_succ]
    refine wpAnyH_ready (rs := [1]) (by kernel_rfl) (by simp) ?_
    refine AllReadyH.cons (o := _) rfl (fun K hK => ?_) AllReadyH.nil
    go_simp
    refine (HN1.out _).mono ?_
    rintro e V1 ⟨ao1, k1, rfl, ho, hb⟩
    have FA1 : Hid (FX V1 w.heap.size (.int .i64 t) (.int .i64 b)) := FAd.out.later hb
    have FB1 : Hid (FX V1 (w.heap.size + 1) (.int .i64 u) (.int .i64 d)) := FBd.out.later hb
    have FC1 : Hid (FX V1 (w.heap.size + 2) (.int .i64 0) (.int .i64 0)) := FCd.out.later hb
    have FO1 : Hid (FX V1 w2.heap.size (.int .i64 T) (.int .i64 0)) := FOd.out.later hb
    have B1 : Hid (Below w.heap.size w V1) := BD.out.trans (hb.mono BD.out.size)
    have O1 : Hid (Own V1 D0.heap.size (.slice ao1 xs.length k1) xs) := ho
    have z1 : D0.heap.size ≤ V1.heap.size := hb.size
    clear ho hb FAd FBd FCd FOd
    refine hK.out _ _ ?_ (fun hHeld => ?_)
    · exact ⟨⟨FA1.out.2.1, FA1.out.2.2.1⟩, FB1.out.2.1, FB1.out.2.2.1⟩
    clear hK K
    try simp only [Act.put, List.setIfInBounds_toArray, List.set_cons_zero, List.set_cons_succ]
    refine wpAnyH_ready (rs := [3]) (by kernel_rfl) (by simp) ?_
    refine AllReadyH.cons (o := _) rfl (fun K hK => ?_) AllReadyH.nil
    go_simp
    refine (HN2.out _).mono ?_
    rintro e V2 ⟨ao2, k2, rfl, ho, hb⟩
    have FA2 : Hid (FX V2 w.heap.size (.int .i64 t) (.int .i64 b)) := FA1.out.later hb
    have FB2 : Hid (FX V2 (w.heap.size + 1) (.int .i64 u) (.int .i64 d)) := FB1.out.later hb
    have FC2 : Hid (FX V2 (w.heap.size + 2) (.int .i64 0) (.int .i64 0)) := FC1.out.later hb
    have B2 : Hid (Below w.heap.size w V2) := B1.out.trans (hb.mono B1.out.size)
    have FO2 : Hid (FX V2 w2.heap.size (.int .i64 T) (.int .i64 0)) := FO1.out.later hb
    have O12 : Hid (Own V2 D0.heap.size (.slice ao1 xs.length k1) xs) := O1.out.later hb
    have O2 : Hid (Own V2 V1.heap.size (.slice ao2 ys.length k2) ys) := ho
    have z2 : V1.heap.size ≤ V2.heap.size := hb.size
    clear ho hb FA1 FB1 FC1 FO1 O1
    refine hK.out _ _ ?_ (fun hHeld => ?_)
    · exact ⟨⟨FA2.out.2.1, FA2.out.2.2.1⟩, FB2.out.2.1, FB2.out.2.2.1⟩
    clear hK K
    try simp only [Act.put, List.setIfInBounds_toArray, List.set_cons_zero, List.set_cons_succ]
    obtain ⟨v', V3, r1, o1, gg, bw⟩ := appendE_run V2 D0.heap.size (.slice ao1 xs.length k1) xs ys ao2 ys.length k2 O12.out O2.out.rd'.2 rfl (own_none O2.out) (by omega) (by omega)
    rw [HZ.out] at o1
    obtain ⟨a4, c4, hv4⟩ := o1.shape
    subst hv4
    have FA3 : Hid (FX V3 w.heap.size (.int .i64 t) (.int .i64 b)) := FA2.out.low bw (by omega)
    have FB3 : Hid (FX V3 (w.heap.size + 1) (.int .i64 u) (.int .i64 d)) := FB2.out.low bw (by omega)
    have FC3 : Hid (FX V3 (w.heap.size + 2) (.int .i64 0) (.int .i64 0)) := FC2.out.low bw (by omega)
    have FO3 : Hid (FX V3 w2.heap.size (.int .i64 T) (.int .i64 0)) := FO2.out.low bw (by omega)
    have O3 : Hid (Own V3 D0.heap.size (.slice a4 Z.length c4) Z) := o1
    have B3 : Hid (Below w.heap.size w V3) := B2.out.trans (bw.mono (by omega))
    clear o1 gg bw FA2 FB2 FC2 FO2 O12 O2 B2
    refine wpAnyH_ready (rs := [4]) (by kernel_rfl) (by simp) ?_
    refine AllReadyH.cons (o := _) rfl (fun K hK => ?_) AllReadyH.nil
    rw [if_pos (by rfl)]
    refine Lib.wp_append_run _ _ _ _ _ rfl (.slice ao1 xs.length k1) (.slice ao2 ys.length k2) (by rfl) (by rfl) (.slice a4 Z.length c4) V3 (r1 _) ?_
    clear r1
    refine hK.out _ _ ?_ (fun hHeld => ?_)
    · exact ⟨⟨FA3.out.2.1, FA3.out.2.2.1⟩, FB3.out.2.1, FB3.out.2.2.1⟩
    clear hK K
    try simp only [Act.put, List.setIfInBounds_toArray, List.set_cons_zero, List.set_cons_succ]
    try simp only [List.getElem_toArray, List.getElem_cons_succ, List.getElem_cons_zero, Act.put, List.setIfInBounds_toArray, List.set_cons_zero, List.set_cons_succ]
    refine takeJE16 (i := 5) (oi := _) (v := ?_) (d := some 34) rfl (by kernel_rfl) (by kernel_rfl) (by kernel_rfl) (by kernel_rfl) (fun _ _ _ h => h) (Or.inl ⟨by rfl, ?_⟩) (by assumption) ?_
    rotate_left
    · (intro w hSw; (try dsimp only at hSw); go_simp <;> with_reducible rfl)
    try simp only [Act.put, List.setIfInBounds_toArray, List.set_cons_zero, List.set_cons_succ]
    refine wpAnyH_done (by kernel_rfl) ?_ _
    clear hHeld FA3 FB3
    go_wp2
    go_loopw [35] (fun iv wr => ∃ (k : Nat), k ≤ Z.length ∧ iv = .int .i64 k ∧ Hid (FX wr w2.heap.size (.int .i64 T) (.int .i64 ((Z.take k).foldl (foldJ T) 0 : Nat))) ∧ Hid (FX wr (w.heap.size + 2) (.int .i64 0) (.int .i64 0)) ∧ Hid (Own wr D0.heap.size (.slice a4 Z.length c4) Z) ∧ Hid (Below w.heap.size w wr)) (fun iv _ => Z.length - (intOf iv).toNat)
    case atStart => exact ⟨0, Nat.zero_le _, rfl, FO3, FC3, O3, B3⟩
    case round =>
      obtain ⟨k, hk, rfl, FO, FC, O, B⟩ := hrel
      by_cases hlt : k < Z.length
      · have hbd := HLE.out _ (mem_getD 0 hlt)
        have hac := HLT.out k
        have hsn := HSn.out k hlt
        obtain ⟨bb, oo, rfl, g1⟩ := O.out.rd'.2.get hlt
        have hk0 : (0 : Int) ≤ (k : Int) := by omega
        have hkl : (k : Int) < (Z.length : Int) := by omega
        have hsn' : (Z.take (k + 1)).foldl (foldJ T) 0 = foldJ T ((Z.take k).foldl (foldJ T) 0) (Z.getD k 0) := hsn
        generalize Z.getD k 0 = z at g1 hbd hsn'
        obtain ⟨acc, hacc⟩ : ∃ acc, (Z.take k).foldl (foldJ T) 0 = acc := ⟨_, rfl⟩
        rw [hacc] at hsn'
        unfold foldJ at hsn'
        rw [hacc] at FO hac
        obtain ⟨_, o0, o1, of0, of1⟩ := id FO.out
        by_cases c16 : T - z < 16
        · obtain ⟨p, hp⟩ : ∃ p : Nat, T - z = p := ⟨(T - z).toNat, by omega⟩
          have hp16 : p < 16 := by omega
          have hN : (Z.take (k + 1)).foldl (foldJ T) 0 = acc ||| 1 <<< p := by
            have h9 := hsn'
            rw [if_pos c16, show (T - z).toNat = p by omega] at h9
            exact h9
          have hor := orE hac hp16
          have FO2 : Hid (FX (wr.setCell ⟨w2.heap.size, 1, none⟩ (.int .i64 ((acc ||| 1 <<< p : Nat) : Int))) w2.heap.size (.int .i64 T) (.int .i64 ((Z.take (k + 1)).foldl (foldJ T) 0 : Nat))) := by rw [hN]; exact FO.out.set1 _
          have FC2 : Hid (FX (wr.setCell ⟨w2.heap.size, 1, none⟩ (.int .i64 ((acc ||| 1 <<< p : Nat) : Int))) (w.heap.size + 2) (.int .i64 0) (.int .i64 0)) := FC.out.oth1 (by omega) _
          have O2 : Hid (Own (wr.setCell ⟨w2.heap.size, 1, none⟩ (.int .i64 ((acc ||| 1 <<< p : Nat) : Int))) D0.heap.size (.slice (some ⟨bb, oo, none⟩) Z.length c4) Z) := own_set1 O.out (by omega) _
          have B2 : Hid (Below w.heap.size w (wr.setCell ⟨w2.heap.size, 1, none⟩ (.int .i64 ((acc ||| 1 <<< p : Nat) : Int)))) := B.out.setCell (p := ⟨w2.heap.size, 1, none⟩) (by show w.heap.size ≤ w2.heap.size; omega) _
          clear hN hsn hsn' hacc FO FC O B
          go_wp2
          go_roundw
          case rel => exact ⟨k + 1, by omega, by go_num, FO2, FC2, O2, B2⟩
          case measure => simp [intOf]; omega
        · have hN : (Z.take (k + 1)).foldl (foldJ T) 0 = acc := by have h9 := hsn'; rw [if_neg c16] at h9; exact h9
          have FO2 : Hid (FX wr w2.heap.size (.int .i64 T) (.int .i64 ((Z.take (k + 1)).foldl (foldJ T) 0 : Nat))) := by rw [hN]; exact FO.out
          clear hN hsn hsn' hacc
          go_wp2
          go_roundw
          case rel => exact ⟨k + 1, by omega, by go_num, FO2, FC, O, B⟩
          case measure => simp [intOf]; omega
      · obtain rfl : k = Z.length := by omega
        rw [HEn.out] at FO
        obtain ⟨R, hR⟩ : ∃ R, Z.foldl (foldJ T) 0 = R := ⟨_, rfl⟩
        rw [hR] at FO
        have HRR : Hid (Z.foldl (foldJ T) 0 = R) := hR
        clear hR
        obtain ⟨_, o0, o1, _, _⟩ := id FO.out
        obtain ⟨_, c0, c1, f0, f1⟩ := id FC.out
        have B9 : Hid (∀ p q, Below w.heap.size w ((wr.setCell ⟨w.heap.size + 2, 0, none⟩ p).setCell ⟨w.heap.size + 2, 1, none⟩ q)) := fun p q => (B.out.setCell (p := ⟨w.heap.size + 2, 0, none⟩) (by show w.heap.size ≤ w.heap.size + 2; omega) p).setCell (p := ⟨w.heap.size + 2, 1, none⟩) (by show w.heap.size ≤ w.heap.size + 2; omega) q
        obtain ⟨hc0, hc1⟩ := set2 wr (w.heap.size + 2) (.int .i64 T) (.int .i64 R) c0 c1
        go_wp2
        refine bodyPost_ret (v := .tuple #[.agg #[.int .i64 T, .int .i64 R], .bool true]) (by simp [results, Tryd.results24, go_sem, hc0, hc1]; try rfl) rfl ?_
        exact ⟨by rw [HRR.out], B9.out _ _⟩

end Go.Proofs.YtjpegbodhpnflaaDoor
