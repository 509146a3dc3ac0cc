/- Chapter 12: a drawn list of statements. -/
import Derived.Test.YtofdlggohnfgaaaD12
import Derived.Test.YtofdlggohnfgaaaAP12
namespace Go.Proofs.Ytofdlggohnfgaaa
set_option linter.unusedVariables false
set_option maxRecDepth 1000000
set_option linter.unusedSimpArgs false
open Go.RowKit

def DrawnSts (g : Nat) (ao : Option Addr) (n c : Nat) (M : Int) (w : World) (e : Ending) (w' : World) : Prop := ∃ (a' : Option Addr) (p c' : Nat) (xs : List St), e = .returned (.slice a' p c') ∧ p ≤ 61 ∧ OwnS w' w.heap.size (.slice a' p c') xs ∧ Cur w' g ao n c (M + 700) ∧ GB g w w'

theorem sep_ownS {w : World} {base g : Nat} {v : Value} {xs : List St} (h : OwnS w base v xs) (hg : g < base) : v.ownBlock = none ∨ v.ownBlock ≠ some g := by
  rcases hb : v.ownBlock with _ | b
  · exact Or.inl rfl
  · exact Or.inr (fun e => by have := own_block_geS h b hb; simp at e; omega)

set_option maxHeartbeats 8000000 in
theorem statements_c (g : Nat) (ao : Option Addr) (n c : Nat) (M : Int) (w : World) (hM : M ≤ 1000000) (h : Cur w g ao n c M) :
    Calls Try.prog 57 #[.pointer (some ⟨g, 0, none⟩)] w fun e w' => DrawnSts g ao n c M w e w' := by
  have hgl : g < w.heap.size := h.lt
  have HOld : Hid (Old ao n w.heap.size) := h.code.old
  have HC : Hid (Cur w g ao n c M) := h
  clear h
  go_enter Try.func57, Try.ntmps57
  go_wp2_with fail
  refine (pick_c g ao n c M 14 _ (by omega) (by omega) HC.out).mono ?_
  rintro e w1 ⟨q, rfl, hq0, hq1, hc1, hg1⟩
  go_wp2_with fail
  refine (one_c g ao n c (M + 2) 20 _ (by omega) (by omega) hc1).mono ?_
  rintro e w2 ⟨b, rfl, hc2, hg2⟩
  cases b
  · obtain ⟨k0, rfl⟩ : ∃ k0 : Nat, q = (k0 : Int) := ⟨q.toNat, by omega⟩
    have HCs : Hid (Cur w2 g ao n c (M + 6)) := hc2.mono (by omega)
    have HGs : Hid (GB g w w2) := hg1.trans hg2
    clear hc1 hg1 hc2 hg2 HC
    go_wp2
    go_loopw [3, 4] (fun v iv wr => ∃ (k p : Nat) (xs : List St), iv = .int .i64 k ∧ k + p ≤ 61 ∧ Hid (xs.length = p) ∧ Hid (OwnS wr w.heap.size v xs) ∧ Hid (Cur wr g ao n c (M + 6 + 8 * p)) ∧ Hid (GB g w wr)) (fun _ iv _ => (intOf iv).toNat)
    case atStart => exact ⟨k0, 0, [], rfl, by omega, rfl, own_nilS _ _, HCs.out.mono (by omega), HGs⟩
    case round =>
      clear HCs HGs
      obtain ⟨k, p, xs, rfl, hkp, HP, hO, hC, hG⟩ := hrel
      obtain ⟨sa, sc, hv⟩ := hO.out.shape
      rw [HP.out] at hv
      subst hv
      have hp61 : p ≤ 61 := by omega
      by_cases hk : 0 < k
      · have hki : (0 : Int) < (k : Int) := by omega
        go_wp2_with fail
        refine (pick_c g ao n c _ 7 _ (by omega) (by omega) hC.out).mono ?_
        rintro e w1a ⟨x, rfl, _, _, hc, hg⟩
        have HC1 : Hid (Cur w1a g ao n c (M + 8 + 8 * p)) := hc.mono (by omega)
        have HO1 : Hid (OwnS w1a w.heap.size (.slice sa p sc) xs) := hO.out.kept hg (sep_ownS hO.out hgl)
        have HG1 : Hid (GB g w w1a) := hG.out.trans hg
        clear hc hg hC hO hG
        go_wp2_with fail
        refine (pick_c g ao n c _ 2 _ (by omega) (by omega) HC1.out).mono ?_
        rintro e w2a ⟨y, rfl, _, _, hc, hg⟩
        have HC2 : Hid (Cur w2a g ao n c (M + 10 + 8 * p)) := hc.mono (by omega)
        have HO2 : Hid (OwnS w2a w.heap.size (.slice sa p sc) xs) := HO1.out.kept hg (sep_ownS HO1.out hgl)
        have HG2 : Hid (GB g w w2a) := HG1.out.trans hg
        clear hc hg HC1 HO1 HG1
        go_wp2_with fail
        refine (pick_c g ao n c _ 2 _ (by omega) (by omega) HC2.out).mono ?_
        rintro e w3a ⟨z, rfl, _, _, hc, hg⟩
        have HC3 : Hid (Cur w3a g ao n c (M + 12 + 8 * p)) := hc.mono (by omega)
        have HO3 : Hid (OwnS w3a w.heap.size (.slice sa p sc) xs) := HO2.out.kept hg (sep_ownS HO2.out hgl)
        have HG3 : Hid (GB g w w3a) := HG2.out.trans hg
        clear hc hg HC2 HO2 HG2
        go_wp2_with fail
        refine (one_c g ao n c _ 3 _ (by omega) (by omega) HC3.out).mono ?_
        rintro e w4a ⟨b, rfl, hc, hg⟩
        have HC4 : Hid (Cur w4a g ao n c (M + 14 + 8 * p)) := hc.mono (by omega)
        have HO4 : Hid (OwnS w4a w.heap.size (.slice sa p sc) xs) := HO3.out.kept hg (sep_ownS HO3.out hgl)
        have HG4 : Hid (GB g w w4a) := HG3.out.trans hg
        clear hc hg HC3 HO3 HG3
        have bA := balloc w4a (.cells #[.int .i64 x, .int .i64 y, .int .i64 z, .int .i64 0, .bool (!b)] 54)
        obtain ⟨v', w5, r1, o5, g5, b5⟩ := appendS_run (w4a.alloc (.cells #[.int .i64 x, .int .i64 y, .int .i64 z, .int .i64 0, .bool (!b)] 54)) w.heap.size (.slice sa p sc) xs [(x, y, z, 0, !b)] (some ⟨w4a.heap.size, 0, none⟩) 1 1 (HO4.out.later bA) (litS w4a _ _ _ _ _) rfl (fun h => by cases h) (by rw [HP.out]; simp; omega) (by have := HG4.out.size; have := bA.size; omega)
        have HO5 : Hid (OwnS w5 w.heap.size v' (xs ++ [(x, y, z, 0, !b)])) := o5
        have HC5 : Hid (Cur w5 g ao n c (M + 14 + 8 * p)) := (HC4.out.alloc _).grown (B := w.heap.size) g5 (own_block_geS HO4.out) hgl HOld.out
        have HG5 : Hid (GB g w w5) := (HG4.out.alloc _).grown g5 (own_block_geS HO4.out)
        have HP5 : Hid ((xs ++ [(x, y, z, 0, !b)]).length = p + 1) := by show _ = _; rw [List.length_append, HP.out]; rfl
        clear bA o5 g5 b5 HO4 HC4 HG4
        go_wp2_with (at_builtin; refine Lib.wpList_append_run _ rfl _ _ _ _ rfl _ _ rfl rfl _ _ (r1 _) ?_; clear r1)
        go_roundw
        case rel => exact ⟨k - 1, p + 1, xs ++ [(x, y, z, 0, !b)], by go_num, by omega, HP5, HO5, HC5.out.mono (by push_cast; omega), HG5⟩
        case measure => simp [intOf]; omega
      · have hki : ¬ (0 : Int) < (k : Int) := by omega
        by_cases hp : 0 < p
        · have hpi : (0 : Int) < (p : Int) := by omega
          go_wp2_with fail
          refine (one_c g ao n c _ 20 _ (by omega) (by omega) hC.out).mono ?_
          rintro e w5 ⟨b, rfl, hc, hg⟩
          have HC5 : Hid (Cur w5 g ao n c (M + 600)) := hc.mono (by omega)
          have HO5 : Hid (OwnS w5 w.heap.size (.slice sa p sc) xs) := hO.out.kept hg (sep_ownS hO.out hgl)
          have HG5 : Hid (GB g w w5) := hG.out.trans hg
          clear hc hg hC hO hG
          cases b
          · go_wp2
            go_ret
            exact ⟨sa, p, sc, xs, rfl, hp61, HO5.out, HC5.out.mono (by omega), HG5.out⟩
          · obtain ⟨gb, cc, hv, hgb⟩ : ∃ gb cc, (Value.slice sa p sc) = .slice (some ⟨gb, 0, none⟩) p cc ∧ w.heap.size ≤ gb := by
              rcases HO5.out.form with ⟨h, h2⟩ | ⟨gb, cc, h, hb, _⟩
              · injection h with _ h3 _; omega
              · rw [HP.out] at h; exact ⟨gb, cc, h, hb⟩
            rw [hv] at HO5
            injection hv with hv1 hv2 hv3
            subst hv1 hv3
            have hlit := lit_cells (fun _ => True) w5 #[.int .i64 (-1), .int .i64 6, .int .i64 7] 3 3 rfl ⟨trivial, trivial, trivial, trivial⟩
            have hbl := balloc w5 (.cells #[.int .i64 (-1), .int .i64 6, .int .i64 7] 3)
            have hgw5 : g < w5.heap.size := HC5.out.lt
            go_wp2_with fail
            refine (among_p (fun _ => True) g ao n c _ w5.heap.size 3 _ (by omega) (by omega) hlit (by omega) (HC5.out.alloc _)).mono ?_
            rintro e w6 ⟨zx, rfl, _, hc, hg⟩
            have HC6 : Hid (Cur w6 g ao n c (M + 610)) := hc.mono (by omega)
            have HO6 : Hid (OwnS w6 w.heap.size (.slice (some ⟨gb, 0, none⟩) p sc) xs) := (HO5.out.later hbl).kept hg (sep_ownS HO5.out hgl)
            have HG6 : Hid (GB g w w6) := (HG5.out.alloc _).trans hg
            clear hc hg HC5 HO5 HG5 hlit hbl
            go_wp2_with fail
            refine (claim_c g ao n c _ _ (by omega) HC6.out).mono ?_
            rintro e w7 ⟨zy, zz, zt, rfl, hc, hg⟩
            have HC7 : Hid (Cur w7 g ao n c (M + 620)) := hc.mono (by omega)
            have HO7 : Hid (OwnS w7 w.heap.size (.slice (some ⟨gb, 0, none⟩) p sc) xs) := HO6.out.kept hg (sep_ownS HO6.out hgl)
            have HG7 : Hid (GB g w w7) := HG6.out.trans hg
            clear hc hg HC6 HO6 HG6
            have hx0 : 0 < xs.length := by rw [HP.out]; exact hp
            have c1 := cellsS_at xs 0 hx0
            have HO_0 : Hid (w7.ownsRow w.heap.size 54 5 (.slice (some ⟨gb, 0, none⟩) p sc) p (cellsS xs)) := HO7.out.raw HP.out
            have hlen : (cellsS xs).length = p * 5 := by rw [cellsS_length, HP.out]
            have d0 : w7.cell? ⟨gb, 0, none⟩ = some (.int .i64 (xs.getD 0 (0, 0, 0, 0, false)).1) := by rw [World.ownsRow.cellAt HO_0.out 0 (by omega)];  exact c1.1
            have f0 : w7.frozen? ⟨gb, 0, none⟩ = false := World.ownsRow.frozenAt HO_0.out _
            generalize (xs.getD 0 (0, 0, 0, 0, false)).1 = u_0 at d0
            have st0 := World.ownsRow.stored HO_0.out 0 (.int .i64 zx)
            obtain ⟨V0, hV0⟩ : ∃ V, w7.setCell ⟨gb, 0, none⟩ (.int .i64 zx) = V := ⟨_, rfl⟩
            rw [hV0] at st0
            have HO_1 : Hid (V0.ownsRow w.heap.size 54 5 (.slice (some ⟨gb, 0, none⟩) p sc) p ((cellsS xs).set 0 (.int .i64 zx))) := st0.1
            have HG_1 : Hid (w7.grownBy V0 (some gb)) := st0.2
            clear st0
            have d1 : V0.cell? ⟨gb, 1, none⟩ = some (.int .i64 (xs.getD 0 (0, 0, 0, 0, false)).2.1) := by rw [World.ownsRow.cellAt HO_1.out 1 (by omega)]; rw [List.getElem?_set_ne (by omega)]; exact c1.2.1
            have f1 : V0.frozen? ⟨gb, 1, none⟩ = false := World.ownsRow.frozenAt HO_1.out _
            generalize (xs.getD 0 (0, 0, 0, 0, false)).2.1 = u_1 at d1
            have st1 := World.ownsRow.stored HO_1.out 1 (.int .i64 zy)
            obtain ⟨V1, hV1⟩ : ∃ V, V0.setCell ⟨gb, 1, none⟩ (.int .i64 zy) = V := ⟨_, rfl⟩
            rw [hV1] at st1
            have HO_2 : Hid (V1.ownsRow w.heap.size 54 5 (.slice (some ⟨gb, 0, none⟩) p sc) p (((cellsS xs).set 0 (.int .i64 zx)).set 1 (.int .i64 zy))) := st1.1
            have HG_2 : Hid (w7.grownBy V1 (some gb)) := grown_trans HG_1.out st1.2
            clear st1
            have d2 : V1.cell? ⟨gb, 2, none⟩ = some (.int .i64 (xs.getD 0 (0, 0, 0, 0, false)).2.2.1) := by rw [World.ownsRow.cellAt HO_2.out 2 (by omega)]; rw [List.getElem?_set_ne (by omega)]; rw [List.getElem?_set_ne (by omega)]; exact c1.2.2.1
            have f2 : V1.frozen? ⟨gb, 2, none⟩ = false := World.ownsRow.frozenAt HO_2.out _
            generalize (xs.getD 0 (0, 0, 0, 0, false)).2.2.1 = u_2 at d2
            have st2 := World.ownsRow.stored HO_2.out 2 (.int .i64 zz)
            obtain ⟨V2, hV2⟩ : ∃ V, V1.setCell ⟨gb, 2, none⟩ (.int .i64 zz) = V := ⟨_, rfl⟩
            rw [hV2] at st2
            have HO_3 : Hid (V2.ownsRow w.heap.size 54 5 (.slice (some ⟨gb, 0, none⟩) p sc) p ((((cellsS xs).set 0 (.int .i64 zx)).set 1 (.int .i64 zy)).set 2 (.int .i64 zz))) := st2.1
            have HG_3 : Hid (w7.grownBy V2 (some gb)) := grown_trans HG_2.out st2.2
            clear st2
            have d3 : V2.cell? ⟨gb, 3, none⟩ = some (.int .i64 (xs.getD 0 (0, 0, 0, 0, false)).2.2.2.1) := by rw [World.ownsRow.cellAt HO_3.out 3 (by omega)]; rw [List.getElem?_set_ne (by omega)]; rw [List.getElem?_set_ne (by omega)]; rw [List.getElem?_set_ne (by omega)]; exact c1.2.2.2.1
            have f3 : V2.frozen? ⟨gb, 3, none⟩ = false := World.ownsRow.frozenAt HO_3.out _
            generalize (xs.getD 0 (0, 0, 0, 0, false)).2.2.2.1 = u_3 at d3
            have st3 := World.ownsRow.stored HO_3.out 3 (.int .i64 zt)
            obtain ⟨V3, hV3⟩ : ∃ V, V2.setCell ⟨gb, 3, none⟩ (.int .i64 zt) = V := ⟨_, rfl⟩
            rw [hV3] at st3
            have HO_4 : Hid (V3.ownsRow w.heap.size 54 5 (.slice (some ⟨gb, 0, none⟩) p sc) p (((((cellsS xs).set 0 (.int .i64 zx)).set 1 (.int .i64 zy)).set 2 (.int .i64 zz)).set 3 (.int .i64 zt))) := st3.1
            have HG_4 : Hid (w7.grownBy V3 (some gb)) := grown_trans HG_3.out st3.2
            clear st3
            have d4 : V3.cell? ⟨gb, 4, none⟩ = some (.bool (xs.getD 0 (0, 0, 0, 0, false)).2.2.2.2) := by rw [World.ownsRow.cellAt HO_4.out 4 (by omega)]; rw [List.getElem?_set_ne (by omega)]; rw [List.getElem?_set_ne (by omega)]; rw [List.getElem?_set_ne (by omega)]; rw [List.getElem?_set_ne (by omega)]; exact c1.2.2.2.2
            have f4 : V3.frozen? ⟨gb, 4, none⟩ = false := World.ownsRow.frozenAt HO_4.out _
            generalize (xs.getD 0 (0, 0, 0, 0, false)).2.2.2.2 = u_4 at d4
            have st4 := World.ownsRow.stored HO_4.out 4 (.bool false)
            obtain ⟨V4, hV4⟩ : ∃ V, V3.setCell ⟨gb, 4, none⟩ (.bool false) = V := ⟨_, rfl⟩
            rw [hV4] at st4
            have HO_5 : Hid (V4.ownsRow w.heap.size 54 5 (.slice (some ⟨gb, 0, none⟩) p sc) p ((((((cellsS xs).set 0 (.int .i64 zx)).set 1 (.int .i64 zy)).set 2 (.int .i64 zz)).set 3 (.int .i64 zt)).set 4 (.bool false))) := st4.1
            have HG_5 : Hid (w7.grownBy V4 (some gb)) := grown_trans HG_4.out st4.2
            clear st4
            have HOz : Hid (OwnS V4 w.heap.size (.slice (some ⟨gb, 0, none⟩) p sc) (xs.set 0 (zx, zy, zz, zt, false))) := OwnS.of (by have h := HO_5.out; rw [show (0 : Nat) = 0 * 5 by omega] at h; have e := cellsS_set xs 0 zx zy zz zt false; simp only [Nat.zero_mul, Nat.zero_add] at e h; rw [e] at h; exact h) (by rw [List.length_set, HP.out])
            have HCz : Hid (Cur V4 g ao n c (M + 620)) := HC7.out.grown (B := w.heap.size) HG_5.out (fun k e => by have e2 := Option.some.inj e; omega) hgl HOld.out
            have HGz : Hid (GB g w V4) := HG7.out.grown HG_5.out (fun k e => by have e2 := Option.some.inj e; omega)
            clear HO_0 HO_1 HO_2 HO_3 HO_4 HO_5 HG_1 HG_2 HG_3 HG_4 HG_5 HC7 HO7 HG7 c1 hlen hx0
            go_wp2
            go_ret
            exact ⟨_, p, sc, _, rfl, hp61, HOz.out, HCz.out.mono (by omega), HGz.out⟩
        · have hpi : ¬ (0 : Int) < (p : Int) := by omega
          go_wp2
          go_ret
          exact ⟨sa, p, sc, xs, rfl, hp61, hO.out, hC.out.mono (by omega), hG.out⟩
  · go_wp2_with fail
    refine (pick_c g ao n c (M + 2 + 2) 2 _ (by omega) (by omega) hc2).mono ?_
    rintro e w3 ⟨q2, rfl, hz0, hz1, hc3, hg3⟩
    obtain ⟨k0, hk0⟩ : ∃ k0 : Nat, 60 + q2 = (k0 : Int) := ⟨(60 + q2).toNat, by omega⟩
    have hk61 : k0 ≤ 61 := by omega
    have HCs : Hid (Cur w3 g ao n c (M + 6)) := hc3.mono (by omega)
    have HGs : Hid (GB g w w3) := (hg1.trans hg2).trans hg3
    clear hc1 hg1 hc2 hg2 hc3 hg3 HC
    go_wp2
    clear hk0 hz0 hz1 hq0 hq1
    go_loopw [3, 4] (fun v iv wr => ∃ (k p : Nat) (xs : List St), iv = .int .i64 k ∧ k + p ≤ 61 ∧ Hid (xs.length = p) ∧ Hid (OwnS wr w.heap.size v xs) ∧ Hid (Cur wr g ao n c (M + 6 + 8 * p)) ∧ Hid (GB g w wr)) (fun _ iv _ => (intOf iv).toNat)
    case atStart => exact ⟨k0, 0, [], rfl, by omega, rfl, own_nilS _ _, HCs.out.mono (by omega), HGs⟩
    case round =>
      clear HCs HGs
      obtain ⟨k, p, xs, rfl, hkp, HP, hO, hC, hG⟩ := hrel
      obtain ⟨sa, sc, hv⟩ := hO.out.shape
      rw [HP.out] at hv
      subst hv
      have hp61 : p ≤ 61 := by omega
      by_cases hk : 0 < k
      · have hki : (0 : Int) < (k : Int) := by omega
        go_wp2_with fail
        refine (pick_c g ao n c _ 7 _ (by omega) (by omega) hC.out).mono ?_
        rintro e w1a ⟨x, rfl, _, _, hc, hg⟩
        have HC1 : Hid (Cur w1a g ao n c (M + 8 + 8 * p)) := hc.mono (by omega)
        have HO1 : Hid (OwnS w1a w.heap.size (.slice sa p sc) xs) := hO.out.kept hg (sep_ownS hO.out hgl)
        have HG1 : Hid (GB g w w1a) := hG.out.trans hg
        clear hc hg hC hO hG
        go_wp2_with fail
        refine (pick_c g ao n c _ 2 _ (by omega) (by omega) HC1.out).mono ?_
        rintro e w2a ⟨y, rfl, _, _, hc, hg⟩
        have HC2 : Hid (Cur w2a g ao n c (M + 10 + 8 * p)) := hc.mono (by omega)
        have HO2 : Hid (OwnS w2a w.heap.size (.slice sa p sc) xs) := HO1.out.kept hg (sep_ownS HO1.out hgl)
        have HG2 : Hid (GB g w w2a) := HG1.out.trans hg
        clear hc hg HC1 HO1 HG1
        go_wp2_with fail
        refine (pick_c g ao n c _ 2 _ (by omega) (by omega) HC2.out).mono ?_
        rintro e w3a ⟨z, rfl, _, _, hc, hg⟩
        have HC3 : Hid (Cur w3a g ao n c (M + 12 + 8 * p)) := hc.mono (by omega)
        have HO3 : Hid (OwnS w3a w.heap.size (.slice sa p sc) xs) := HO2.out.kept hg (sep_ownS HO2.out hgl)
        have HG3 : Hid (GB g w w3a) := HG2.out.trans hg
        clear hc hg HC2 HO2 HG2
        go_wp2_with fail
        refine (one_c g ao n c _ 3 _ (by omega) (by omega) HC3.out).mono ?_
        rintro e w4a ⟨b, rfl, hc, hg⟩
        have HC4 : Hid (Cur w4a g ao n c (M + 14 + 8 * p)) := hc.mono (by omega)
        have HO4 : Hid (OwnS w4a w.heap.size (.slice sa p sc) xs) := HO3.out.kept hg (sep_ownS HO3.out hgl)
        have HG4 : Hid (GB g w w4a) := HG3.out.trans hg
        clear hc hg HC3 HO3 HG3
        have bA := balloc w4a (.cells #[.int .i64 x, .int .i64 y, .int .i64 z, .int .i64 0, .bool (!b)] 54)
        obtain ⟨v', w5, r1, o5, g5, b5⟩ := appendS_run (w4a.alloc (.cells #[.int .i64 x, .int .i64 y, .int .i64 z, .int .i64 0, .bool (!b)] 54)) w.heap.size (.slice sa p sc) xs [(x, y, z, 0, !b)] (some ⟨w4a.heap.size, 0, none⟩) 1 1 (HO4.out.later bA) (litS w4a _ _ _ _ _) rfl (fun h => by cases h) (by rw [HP.out]; simp; omega) (by have := HG4.out.size; have := bA.size; omega)
        have HO5 : Hid (OwnS w5 w.heap.size v' (xs ++ [(x, y, z, 0, !b)])) := o5
        have HC5 : Hid (Cur w5 g ao n c (M + 14 + 8 * p)) := (HC4.out.alloc _).grown (B := w.heap.size) g5 (own_block_geS HO4.out) hgl HOld.out
        have HG5 : Hid (GB g w w5) := (HG4.out.alloc _).grown g5 (own_block_geS HO4.out)
        have HP5 : Hid ((xs ++ [(x, y, z, 0, !b)]).length = p + 1) := by show _ = _; rw [List.length_append, HP.out]; rfl
        clear bA o5 g5 b5 HO4 HC4 HG4
        go_wp2_with (at_builtin; refine Lib.wpList_append_run _ rfl _ _ _ _ rfl _ _ rfl rfl _ _ (r1 _) ?_; clear r1)
        go_roundw
        case rel => exact ⟨k - 1, p + 1, xs ++ [(x, y, z, 0, !b)], by go_num, by omega, HP5, HO5, HC5.out.mono (by push_cast; omega), HG5⟩
        case measure => simp [intOf]; omega
      · have hki : ¬ (0 : Int) < (k : Int) := by omega
        by_cases hp : 0 < p
        · have hpi : (0 : Int) < (p : Int) := by omega
          go_wp2_with fail
          refine (one_c g ao n c _ 20 _ (by omega) (by omega) hC.out).mono ?_
          rintro e w5 ⟨b, rfl, hc, hg⟩
          have HC5 : Hid (Cur w5 g ao n c (M + 600)) := hc.mono (by omega)
          have HO5 : Hid (OwnS w5 w.heap.size (.slice sa p sc) xs) := hO.out.kept hg (sep_ownS hO.out hgl)
          have HG5 : Hid (GB g w w5) := hG.out.trans hg
          clear hc hg hC hO hG
          cases b
          · go_wp2
            go_ret
            exact ⟨sa, p, sc, xs, rfl, hp61, HO5.out, HC5.out.mono (by omega), HG5.out⟩
          · obtain ⟨gb, cc, hv, hgb⟩ : ∃ gb cc, (Value.slice sa p sc) = .slice (some ⟨gb, 0, none⟩) p cc ∧ w.heap.size ≤ gb := by
              rcases HO5.out.form with ⟨h, h2⟩ | ⟨gb, cc, h, hb, _⟩
              · injection h with _ h3 _; omega
              · rw [HP.out] at h; exact ⟨gb, cc, h, hb⟩
            rw [hv] at HO5
            injection hv with hv1 hv2 hv3
            subst hv1 hv3
            have hlit := lit_cells (fun _ => True) w5 #[.int .i64 (-1), .int .i64 6, .int .i64 7] 3 3 rfl ⟨trivial, trivial, trivial, trivial⟩
            have hbl := balloc w5 (.cells #[.int .i64 (-1), .int .i64 6, .int .i64 7] 3)
            have hgw5 : g < w5.heap.size := HC5.out.lt
            go_wp2_with fail
            refine (among_p (fun _ => True) g ao n c _ w5.heap.size 3 _ (by omega) (by omega) hlit (by omega) (HC5.out.alloc _)).mono ?_
            rintro e w6 ⟨zx, rfl, _, hc, hg⟩
            have HC6 : Hid (Cur w6 g ao n c (M + 610)) := hc.mono (by omega)
            have HO6 : Hid (OwnS w6 w.heap.size (.slice (some ⟨gb, 0, none⟩) p sc) xs) := (HO5.out.later hbl).kept hg (sep_ownS HO5.out hgl)
            have HG6 : Hid (GB g w w6) := (HG5.out.alloc _).trans hg
            clear hc hg HC5 HO5 HG5 hlit hbl
            go_wp2_with fail
            refine (claim_c g ao n c _ _ (by omega) HC6.out).mono ?_
            rintro e w7 ⟨zy, zz, zt, rfl, hc, hg⟩
            have HC7 : Hid (Cur w7 g ao n c (M + 620)) := hc.mono (by omega)
            have HO7 : Hid (OwnS w7 w.heap.size (.slice (some ⟨gb, 0, none⟩) p sc) xs) := HO6.out.kept hg (sep_ownS HO6.out hgl)
            have HG7 : Hid (GB g w w7) := HG6.out.trans hg
            clear hc hg HC6 HO6 HG6
            have hx0 : 0 < xs.length := by rw [HP.out]; exact hp
            have c1 := cellsS_at xs 0 hx0
            have HO_0 : Hid (w7.ownsRow w.heap.size 54 5 (.slice (some ⟨gb, 0, none⟩) p sc) p (cellsS xs)) := HO7.out.raw HP.out
            have hlen : (cellsS xs).length = p * 5 := by rw [cellsS_length, HP.out]
            have d0 : w7.cell? ⟨gb, 0, none⟩ = some (.int .i64 (xs.getD 0 (0, 0, 0, 0, false)).1) := by rw [World.ownsRow.cellAt HO_0.out 0 (by omega)];  exact c1.1
            have f0 : w7.frozen? ⟨gb, 0, none⟩ = false := World.ownsRow.frozenAt HO_0.out _
            generalize (xs.getD 0 (0, 0, 0, 0, false)).1 = u_0 at d0
            have st0 := World.ownsRow.stored HO_0.out 0 (.int .i64 zx)
            obtain ⟨V0, hV0⟩ : ∃ V, w7.setCell ⟨gb, 0, none⟩ (.int .i64 zx) = V := ⟨_, rfl⟩
            rw [hV0] at st0
            have HO_1 : Hid (V0.ownsRow w.heap.size 54 5 (.slice (some ⟨gb, 0, none⟩) p sc) p ((cellsS xs).set 0 (.int .i64 zx))) := st0.1
            have HG_1 : Hid (w7.grownBy V0 (some gb)) := st0.2
            clear st0
            have d1 : V0.cell? ⟨gb, 1, none⟩ = some (.int .i64 (xs.getD 0 (0, 0, 0, 0, false)).2.1) := by rw [World.ownsRow.cellAt HO_1.out 1 (by omega)]; rw [List.getElem?_set_ne (by omega)]; exact c1.2.1
            have f1 : V0.frozen? ⟨gb, 1, none⟩ = false := World.ownsRow.frozenAt HO_1.out _
            generalize (xs.getD 0 (0, 0, 0, 0, false)).2.1 = u_1 at d1
            have st1 := World.ownsRow.stored HO_1.out 1 (.int .i64 zy)
            obtain ⟨V1, hV1⟩ : ∃ V, V0.setCell ⟨gb, 1, none⟩ (.int .i64 zy) = V := ⟨_, rfl⟩
            rw [hV1] at st1
            have HO_2 : Hid (V1.ownsRow w.heap.size 54 5 (.slice (some ⟨gb, 0, none⟩) p sc) p (((cellsS xs).set 0 (.int .i64 zx)).set 1 (.int .i64 zy))) := st1.1
            have HG_2 : Hid (w7.grownBy V1 (some gb)) := grown_trans HG_1.out st1.2
            clear st1
            have d2 : V1.cell? ⟨gb, 2, none⟩ = some (.int .i64 (xs.getD 0 (0, 0, 0, 0, false)).2.2.1) := by rw [World.ownsRow.cellAt HO_2.out 2 (by omega)]; rw [List.getElem?_set_ne (by omega)]; rw [List.getElem?_set_ne (by omega)]; exact c1.2.2.1
            have f2 : V1.frozen? ⟨gb, 2, none⟩ = false := World.ownsRow.frozenAt HO_2.out _
            generalize (xs.getD 0 (0, 0, 0, 0, false)).2.2.1 = u_2 at d2
            have st2 := World.ownsRow.stored HO_2.out 2 (.int .i64 zz)
            obtain ⟨V2, hV2⟩ : ∃ V, V1.setCell ⟨gb, 2, none⟩ (.int .i64 zz) = V := ⟨_, rfl⟩
            rw [hV2] at st2
            have HO_3 : Hid (V2.ownsRow w.heap.size 54 5 (.slice (some ⟨gb, 0, none⟩) p sc) p ((((cellsS xs).set 0 (.int .i64 zx)).set 1 (.int .i64 zy)).set 2 (.int .i64 zz))) := st2.1
            have HG_3 : Hid (w7.grownBy V2 (some gb)) := grown_trans HG_2.out st2.2
            clear st2
            have d3 : V2.cell? ⟨gb, 3, none⟩ = some (.int .i64 (xs.getD 0 (0, 0, 0, 0, false)).2.2.2.1) := by rw [World.ownsRow.cellAt HO_3.out 3 (by omega)]; rw [List.getElem?_set_ne (by omega)]; rw [List.getElem?_set_ne (by omega)]; rw [List.getElem?_set_ne (by omega)]; exact c1.2.2.2.1
            have f3 : V2.frozen? ⟨gb, 3, none⟩ = false := World.ownsRow.frozenAt HO_3.out _
            generalize (xs.getD 0 (0, 0, 0, 0, false)).2.2.2.1 = u_3 at d3
            have st3 := World.ownsRow.stored HO_3.out 3 (.int .i64 zt)
            obtain ⟨V3, hV3⟩ : ∃ V, V2.setCell ⟨gb, 3, none⟩ (.int .i64 zt) = V := ⟨_, rfl⟩
            rw [hV3] at st3
            have HO_4 : Hid (V3.ownsRow w.heap.size 54 5 (.slice (some ⟨gb, 0, none⟩) p sc) p (((((cellsS xs).set 0 (.int .i64 zx)).set 1 (.int .i64 zy)).set 2 (.int .i64 zz)).set 3 (.int .i64 zt))) := st3.1
            have HG_4 : Hid (w7.grownBy V3 (some gb)) := grown_trans HG_3.out st3.2
            clear st3
            have d4 : V3.cell? ⟨gb, 4, none⟩ = some (.bool (xs.getD 0 (0, 0, 0, 0, false)).2.2.2.2) := by rw [World.ownsRow.cellAt HO_4.out 4 (by omega)]; rw [List.getElem?_set_ne (by omega)]; rw [List.getElem?_set_ne (by omega)]; rw [List.getElem?_set_ne (by omega)]; rw [List.getElem?_set_ne (by omega)]; exact c1.2.2.2.2
            have f4 : V3.frozen? ⟨gb, 4, none⟩ = false := World.ownsRow.frozenAt HO_4.out _
            generalize (xs.getD 0 (0, 0, 0, 0, false)).2.2.2.2 = u_4 at d4
            have st4 := World.ownsRow.stored HO_4.out 4 (.bool false)
            obtain ⟨V4, hV4⟩ : ∃ V, V3.setCell ⟨gb, 4, none⟩ (.bool false) = V := ⟨_, rfl⟩
            rw [hV4] at st4
            have HO_5 : Hid (V4.ownsRow w.heap.size 54 5 (.slice (some ⟨gb, 0, none⟩) p sc) p ((((((cellsS xs).set 0 (.int .i64 zx)).set 1 (.int .i64 zy)).set 2 (.int .i64 zz)).set 3 (.int .i64 zt)).set 4 (.bool false))) := st4.1
            have HG_5 : Hid (w7.grownBy V4 (some gb)) := grown_trans HG_4.out st4.2
            clear st4
            have HOz : Hid (OwnS V4 w.heap.size (.slice (some ⟨gb, 0, none⟩) p sc) (xs.set 0 (zx, zy, zz, zt, false))) := OwnS.of (by have h := HO_5.out; rw [show (0 : Nat) = 0 * 5 by omega] at h; have e := cellsS_set xs 0 zx zy zz zt false; simp only [Nat.zero_mul, Nat.zero_add] at e h; rw [e] at h; exact h) (by rw [List.length_set, HP.out])
            have HCz : Hid (Cur V4 g ao n c (M + 620)) := HC7.out.grown (B := w.heap.size) HG_5.out (fun k e => by have e2 := Option.some.inj e; omega) hgl HOld.out
            have HGz : Hid (GB g w V4) := HG7.out.grown HG_5.out (fun k e => by have e2 := Option.some.inj e; omega)
            clear HO_0 HO_1 HO_2 HO_3 HO_4 HO_5 HG_1 HG_2 HG_3 HG_4 HG_5 HC7 HO7 HG7 c1 hlen hx0
            go_wp2
            go_ret
            exact ⟨_, p, sc, _, rfl, hp61, HOz.out, HCz.out.mono (by omega), HGz.out⟩
        · have hpi : ¬ (0 : Int) < (p : Int) := by omega
          go_wp2
          go_ret
          exact ⟨sa, p, sc, xs, rfl, hp61, hO.out, hC.out.mono (by omega), hG.out⟩

end Go.Proofs.Ytofdlggohnfgaaa
