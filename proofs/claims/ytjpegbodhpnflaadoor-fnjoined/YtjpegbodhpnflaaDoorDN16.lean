/- Chapter 16: what is drawn: lists of numbers. -/
import Derived.Test.YtjpegbodhpnflaaDoorD3
import Derived.Test.YtjpegbodhpnflaaDoorPA16
namespace Go.Proofs.YtjpegbodhpnflaaDoor
set_option linter.unusedVariables false
set_option maxRecDepth 1000000
set_option linter.unusedSimpArgs false
open Go.RowKit

/-- Where the code lies: below the block that is named. -/
def CodeLt (ao : Option Addr) (n base : Nat) : Prop := ∀ b off, ao = some ⟨b, off, none⟩ → n = 0 ∨ b < base
theorem own_gb {w w' : World} {base g : Nat} {v : Value} {xs : List Int} (h : Own w base v xs) (hg : GB g w w') (hlt : g < base) : Own w' base v xs := by
  refine h.kept hg ?_
  cases hv : v.ownBlock with
  | none => exact Or.inl rfl
  | some j => exact Or.inr fun e => by injection e with e1; have := own_block_ge h j hv; omega
theorem cur_grown {w w' : World} {g : Nat} {ao : Option Addr} {n c : Nat} {M : Int} {base : Nat} {v : Value} {xs : List Int} (h : Cur w g ao n c M) (ho : Own w base v xs) (hb : w.heap.size ≥ base) (hc : ∀ b off, ao = some ⟨b, off, none⟩ → n = 0 ∨ b < base) (hgr : w.grownBy w' v.ownBlock) (hg : g < base) : Cur w' g ao n c M := by
  have hbm : Below base w w' := (Below.refl _ _).grown hgr hb (own_block_ge ho)
  obtain ⟨z, z0, z1, z2⟩ := h.at'
  obtain ⟨s, s0⟩ := h.seed
  refine ⟨h.hn, ?_, by rw [hbm.cell (p := ⟨g, 0, none⟩) hg]; exact h.slice, ⟨z, z0, z1, by rw [hbm.cell (p := ⟨g, 1, none⟩) hg]; exact z2⟩, ⟨s, by rw [hbm.cell (p := ⟨g, 2, none⟩) hg]; exact s0⟩, fun j => by rw [hbm.frozen (p := ⟨g, j, none⟩) hg]; exact h.free j⟩
  rcases h.code with h0 | ⟨b, off, e, hne, f, hf⟩
  · exact Or.inl h0
  · by_cases h0 : n = 0
    · exact Or.inl h0
    · have hb2 : b < base := (hc b off e).resolve_left h0
      exact Or.inr ⟨b, off, e, hne, f, fun j hj => ⟨by rw [hbm.cell (p := ⟨b, off + j, none⟩) hb2]; exact (hf j hj).1, (hf j hj).2⟩⟩
theorem gb_grown {w w1 w2 : World} {g base : Nat} {v : Value} {xs : List Int} (h : GB g w w1) (ho : Own w1 base v xs) (hb : base ≤ w1.heap.size) (hw : w.heap.size ≤ base) (hgr : w1.grownBy w2 v.ownBlock) : GB g w w2 := by
  have hbm : Below base w1 w2 := (Below.refl _ _).grown hgr hb (own_block_ge ho)
  exact ⟨hbm.os.trans h.os, hbm.tape.trans h.tape, hbm.output.trans h.output, Nat.le_trans h.size hbm.size, fun q hq hne => (hbm.block q (by omega)).trans (h.block q hq hne)⟩
theorem own_at {w : World} {base : Nat} {la : Option Addr} {lc : Nat} {l : List Int} (h : Own w base (.slice la l.length lc) l) (h0 : 0 < l.length) : (∃ g2, la = some ⟨g2, 0, none⟩ ∧ base ≤ g2) ∧ l.length ≤ lc := by
  rcases h.2 with ⟨e0, h1⟩ | ⟨g', cap', cur, e0, hb, hg, hn, hm, hs, ht⟩
  · injection e0 with e1 e2; omega
  · injection e0 with e1 _ e3
    subst e1; subst e3
    exact ⟨⟨g', rfl, by omega⟩, by omega⟩
theorem own_cut {w : World} {base g2 lc : Nat} {l : List Int} (h : Own w base (.slice (some ⟨g2, 0, none⟩) l.length lc) l) (k : Nat) (hk : k ≤ l.length) : Own w base (.slice (some ⟨g2, 0, none⟩) (l.take k).length lc) (l.take k) := by
  have e9 : (l.take k).length = k := by rw [List.length_take]; omega
  rw [e9]
  have hc : (cellsI l).length = l.length := by simp [cellsI]
  rcases h.2 with ⟨e0, _⟩ | ⟨g', cap', cur, e0, hb, hg, hn, hm, hs, ht⟩
  · cases e0
  · injection e0 with e1 _ e3
    injection e1 with e1
    injection e1 with e1
    subst e1; subst e3
    have e2 : cellsI (l.take k) = (cellsI l).take k := by unfold cellsI; rw [List.map_take]
    unfold Own
    rw [e9, e2]
    refine ⟨by rw [List.length_take]; omega, .inr ⟨g2, lc, cur, rfl, hb, hg, by omega, hm, hs, ?_⟩⟩
    rw [← ht, List.take_take]
    congr 1
    first | omega | (simp only [Nat.mul_one]; omega)
theorem own_put {w : World} {base g2 cap : Nat} {l : List Int} (h : Own w base (.slice (some ⟨g2, 0, none⟩) l.length cap) l) (i : Nat) (x : Int) : Own (w.setCell ⟨g2, i, none⟩ (.int .i64 x)) base (.slice (some ⟨g2, 0, none⟩) (l.set i x).length cap) (l.set i x) := by
  have h1 := World.ownsRow.stored h i (.int .i64 x)
  have e : (cellsI l).set i (.int .i64 x) = cellsI (l.set i x) := by unfold cellsI; rw [List.map_set]
  rw [e] at h1
  unfold Own
  rw [List.length_set]
  exact h1.1
theorem cur_put {w : World} {g : Nat} {ao : Option Addr} {n c : Nat} {M : Int} {base : Nat} (h : Cur w g ao n c M) (hc : CodeLt ao n base) (hg : g < base) {g2 : Nat} (h2 : base ≤ g2) (i : Nat) (v : Value) : Cur (w.setCell ⟨g2, i, none⟩ v) g ao n c M := by
  have hbm : Below base w (w.setCell ⟨g2, i, none⟩ v) := Below.setCell (Below.refl _ _) h2 v
  obtain ⟨z, z0, z1, z2⟩ := h.at'
  obtain ⟨s, s0⟩ := h.seed
  refine ⟨h.hn, ?_, by rw [hbm.cell (p := ⟨g, 0, none⟩) hg]; exact h.slice, ⟨z, z0, z1, by rw [hbm.cell (p := ⟨g, 1, none⟩) hg]; exact z2⟩, ⟨s, by rw [hbm.cell (p := ⟨g, 2, none⟩) hg]; exact s0⟩, fun j => by rw [hbm.frozen (p := ⟨g, j, none⟩) hg]; exact h.free j⟩
  rcases h.code with h0 | ⟨b, off, e, hne, f, hf⟩
  · exact Or.inl h0
  · by_cases h0 : n = 0
    · exact Or.inl h0
    · have hb2 : b < base := (hc b off e).resolve_left h0
      exact Or.inr ⟨b, off, e, hne, f, fun j hj => ⟨by rw [hbm.cell (p := ⟨b, off + j, none⟩) hb2]; exact (hf j hj).1, (hf j hj).2⟩⟩
theorem gb_put {w w1 : World} {g base : Nat} (h : GB g w w1) (hw : w.heap.size ≤ base) {g2 : Nat} (h2 : base ≤ g2) (i : Nat) (v : Value) : GB g w (w1.setCell ⟨g2, i, none⟩ v) := by
  have hbm : Below w.heap.size w1 (w1.setCell ⟨g2, i, none⟩ v) := Below.setCell (Below.refl _ _) (Nat.le_trans hw h2) v
  exact ⟨hbm.os.trans h.os, hbm.tape.trans h.tape, hbm.output.trans h.output, Nat.le_trans h.size hbm.size, fun q hq hne => (hbm.block q (by omega)).trans (h.block q hq hne)⟩
theorem Cur.codeLt {w : World} {g : Nat} {ao : Option Addr} {n c : Nat} {M : Int} (h : Cur w g ao n c M) : CodeLt ao n w.heap.size := fun b off e => by
  rcases h.code with h0 | ⟨b', off', e', _, f, hf⟩
  · exact Or.inl h0
  · by_cases h0 : n = 0
    · exact Or.inl h0
    · right
      rw [e] at e'
      simp only [Option.some.injEq, Addr.mk.injEq] at e'
      obtain ⟨rfl, rfl, _⟩ := e'
      have h9 := World.block_lt_of_cell? w _ (hf 0 (by omega)).1
      exact h9

set_option maxHeartbeats 4000000 in
theorem numbers_c (g : Nat) (ao : Option Addr) (n c : Nat) (M : Int) (w : World) (hM : M ≤ 1000000000000000000) (h : Cur w g ao n c M) :
    Calls Tryd.prog 37 #[.pointer (some ⟨g, 0, none⟩)] w fun e w' => ∃ l a' c', e = .returned (.slice a' l.length c') ∧ l.length ≤ 61 ∧ Own w' w.heap.size (.slice a' l.length c') l ∧ Cur w' g ao n c (M + 1000) ∧ GB g w w' := by
  have HCL : Hid (CodeLt ao n w.heap.size) := h.codeLt
  have hgl := h.lt
  have q1 := pick_c g ao n c M 5 w (by omega) (by omega) h
  clear h
  go_enter Tryd.func37, Tryd.ntmps37
  go_wp2_with fail
  refine q1.mono ?_
  clear q1
  rintro e w1 ⟨z1, rfl, hz0, hz1, hc1, hg1⟩
  have HG1 : Hid (GB g w w1) := hg1
  have q2 := pick_c g ao n c (M + 2) 24 w1 (by omega) (by omega) hc1
  clear hc1 hg1
  go_wp2_with fail
  refine q2.mono ?_
  clear q2
  rintro e w2 ⟨z2, rfl, hy0, hy1, hc2, hg2⟩
  have HG2 : Hid (GB g w w2) := HG1.out.trans hg2
  have q3 := one_c g ao n c (M + 2 + 2) 20 w2 (by omega) (by omega) hc2
  clear hc2 hg2
  go_wp2_with fail
  refine q3.mono ?_
  clear q3
  rintro e w3 ⟨b3, rfl, hc3, hg3⟩
  have HG3 : Hid (GB g w w3) := HG2.out.trans hg3
  have HC3 : Hid (Cur w3 g ao n c (M + 6)) := hc3.mono (by omega)
  clear hc3 hg3
  cases b3
  · obtain ⟨n0, hn0⟩ : ∃ n0 : Nat, z2 = n0 := ⟨z2.toNat, by omega⟩
    subst hn0
    go_wp2
    go_loopw [3, 4, 5] (fun lv av nv wr => ∃ (m : Nat) (at0 : Int) (l : List Int) (la : Option Addr) (lc : Nat), m ≤ 61 ∧ lv = .slice la l.length lc ∧ av = .int .i64 at0 ∧ nv = .int .i64 (m : Int) ∧ 1 ≤ at0 ∧ at0 ≤ 6 + 20 * (61 - (m : Int)) ∧ l.length ≤ 2 * (61 - m) ∧ Hid (Own wr w.heap.size (.slice la l.length lc) l) ∧ Hid (Cur wr g ao n c (M + 8 + 8 * (61 - (m : Int)))) ∧ Hid (GB g w wr) ∧ w.heap.size ≤ wr.heap.size) (fun _ _ nv _ => (intOf nv).toNat)
    case atStart => exact ⟨n0, 1 + z1, [], none, 0, by omega, rfl, rfl, by go_num, by omega, by omega, by simp, World.ownsRow_nil _ _ _ _, HC3.out.mono (by omega), HG3, HG3.out.size⟩
    case round =>
      obtain ⟨m, at0, l, la, lc, hm, rfl, rfl, rfl, ha0, ha1, hll, HO, HC, HG, hsw⟩ := hrel
      cases m with
      | succ m =>
        have hm0 : (0 : Int) < ((m + 1 : Nat) : Int) := by omega
        have q5 := pick_c g ao n c _ 5 wr (by omega) (by omega) HC.out
        go_wp2_with fail
        refine q5.mono ?_
        clear q5
        rintro e v1 ⟨z, rfl, hza, hzb, hcu, hgb⟩
        have hO1 : Own v1 w.heap.size (.slice la l.length lc) l := own_gb HO.out hgb hgl
        have hG1 : GB g w v1 := HG.out.trans hgb
        have hs1 : w.heap.size ≤ v1.heap.size := Nat.le_trans hsw hgb.size
        clear HO HC HG hsw hgb
        by_cases c0 : z = 0
        · subst c0
          have q6 := pick_c g ao n c _ 20 v1 (by omega) (by omega) hcu
          go_wp2_with fail
          refine q6.mono ?_
          clear q6 hcu
          rintro e v2 ⟨y, rfl, hya, hyb, hcu, hgb⟩
          have hO2 := own_gb hO1 hgb hgl
          have hG2 := hG1.trans hgb
          have hs2 := Nat.le_trans hs1 hgb.size
          clear hO1 hG1 hs1 hgb
          obtain ⟨g2, cap2, v9, hrun, how, hgr, hgg, hglt⟩ := pushC_run v2 w.heap.size (.slice la l.length lc) l (at0 + y) hO2 (by omega) hs2
          have hO9 : Own v9 w.heap.size (.slice (some ⟨g2, 0, none⟩) (l.length + 1) cap2) (l ++ [at0 + y]) := how
          have hC9 : Cur v9 g ao n c (_) := cur_grown hcu hO2 hs2 HCL.out hgr hgl
          have hG9 : GB g w v9 := gb_grown hG2 hO2 hs2 (Nat.le_refl _) hgr
          have hs9 : w.heap.size ≤ v9.heap.size := Nat.le_trans hs2 hgr.size
          clear how hgr hgg hglt hO2
          obtain ⟨L2, hL2⟩ : ∃ L2, l ++ [at0 + y] = L2 := ⟨_, rfl⟩
          have hl2 : L2.length = l.length + 1 := by rw [← hL2]; simp
          rw [hL2] at hO9
          rw [← hl2] at hO9 hrun
          clear hL2
          by_cases h1 : 1 < L2.length
          · have h1i : (1 : Int) < (L2.length : Int) := by omega
            have qo := one_c g ao n c _ 4 v9 (by omega) (by omega) hC9
            have HL2 : Hid (L2.length = l.length + 1) := hl2
            have hl2b : L2.length ≤ 2 * (61 - (m + 1)) + 1 := by omega
            clear hl2
            go_wp2_with (at_builtin; refine Lib.wpList_append_run _ rfl _ _ _ _ rfl _ _ rfl rfl _ _ (hrun _) ?_; clear hrun)
            refine qo.mono ?_
            clear qo
            rintro e v10 ⟨b10, rfl, hc10, hgb⟩
            have hO10 := own_gb hO9 hgb hgl
            have hG10 := hG9.trans hgb
            have hs10 := Nat.le_trans hs9 hgb.size
            clear hO9 hG9 hs9 hC9 hgb
            cases b10
            · have HOa : Hid (Own v10 w.heap.size (.slice (some ⟨g2, 0, none⟩) L2.length cap2) L2) := hO10
              have HCa : Hid (Cur v10 g ao n c (M + 8 + 8 * (61 - (m : Int)))) := hc10.mono (by omega)
              have HGa : Hid (GB g w v10) := hG10
              clear hO10 hc10 hG10
              go_wp2
              go_roundw
              case rel => exact ⟨m, at0 + y, L2, some ⟨g2, 0, none⟩, cap2, by omega, rfl, rfl, by go_num, by omega, by omega, by omega, HOa, HCa, HGa, hs10⟩
              case measure => simp [intOf]
            · have qk := pick_c g ao n c _ (L2.length : Int) v10 (by omega) (by omega) hc10
              go_wp2_with fail
              refine qk.mono ?_
              clear qk
              rintro e v11 ⟨zk, rfl, hk0, hk1, hc11, hgb⟩
              have hO11 := own_gb hO10 hgb hgl
              have hG11 := hG10.trans hgb
              have hs11 := Nat.le_trans hs10 hgb.size
              clear hO10 hG10 hs10 hc10 hgb
              obtain ⟨kk, rfl⟩ : ∃ kk : Nat, zk = kk := ⟨zk.toNat, by omega⟩
              have hkk : kk < L2.length := by omega
              obtain ⟨bb, oo, hbb, g1⟩ := hO11.rd'.2.get hkk
              injection hbb with hbb
              injection hbb with hb1 hb2
              subst hb1 hb2
              rw [Nat.zero_add] at g1
              generalize L2.getD kk 0 = xk at g1
              obtain ⟨g3, cap3, v12, hrun2, how, hgr, hgg, hglt⟩ := pushC_run v11 w.heap.size (.slice (some ⟨g2, 0, none⟩) L2.length cap2) L2 xk hO11 (by omega) hs11
              have hl3 : (L2 ++ [xk]).length = L2.length + 1 := by simp
              have HOa : Hid (Own v12 w.heap.size (.slice (some ⟨g3, 0, none⟩) (L2.length + 1) cap3) (L2 ++ [xk])) := how
              have HCa : Hid (Cur v12 g ao n c (M + 8 + 8 * (61 - (m : Int)))) := (cur_grown hc11 hO11 hs11 HCL.out hgr hgl).mono (by omega)
              have HGa : Hid (GB g w v12) := gb_grown hG11 hO11 hs11 (Nat.le_refl _) hgr
              have hs12 : w.heap.size ≤ v12.heap.size := Nat.le_trans hs11 hgr.size
              clear hO11 hG11 hc11 how hgr hgg hglt
              go_wp2_with (at_builtin; refine Lib.wpList_append_run _ rfl _ _ _ _ rfl _ _ rfl rfl _ _ (hrun2 _) ?_; clear hrun2)
              go_roundw
              case rel => exact ⟨m, at0 + y, L2 ++ [xk], some ⟨g3, 0, none⟩, cap3, by omega, by rw [hl3], rfl, by go_num, by omega, by omega, by rw [hl3]; omega, by rw [hl3]; exact HOa, HCa, HGa, hs12⟩
              case measure => simp [intOf]
          · have h1i : ¬ (1 : Int) < (L2.length : Int) := by omega
            have HOa : Hid (Own v9 w.heap.size (.slice (some ⟨g2, 0, none⟩) L2.length cap2) L2) := hO9
            have HCa : Hid (Cur v9 g ao n c (M + 8 + 8 * (61 - (m : Int)))) := hC9.mono (by omega)
            have HGa : Hid (GB g w v9) := hG9
            have hl2b : L2.length ≤ 2 * (61 - m) := by omega
            clear hO9 hC9 hG9 hl2
            go_wp2_with (at_builtin; refine Lib.wpList_append_run _ rfl _ _ _ _ rfl _ _ rfl rfl _ _ (hrun _) ?_; clear hrun)
            go_roundw
            case rel => exact ⟨m, at0 + y, L2, some ⟨g2, 0, none⟩, cap2, by omega, rfl, rfl, by go_num, by omega, by omega, by omega, HOa, HCa, HGa, hs9⟩
            case measure => simp [intOf]
        by_cases c1 : z = 1
        · subst c1
          have q6 := pick_c g ao n c _ at0 v1 (by omega) (by omega) hcu
          go_wp2_with fail
          refine q6.mono ?_
          clear q6 hcu
          rintro e v2 ⟨y, rfl, hya, hyb, hcu, hgb⟩
          have hO2 := own_gb hO1 hgb hgl
          have hG2 := hG1.trans hgb
          have hs2 := Nat.le_trans hs1 hgb.size
          clear hO1 hG1 hs1 hgb
          obtain ⟨g2, cap2, v9, hrun, how, hgr, hgg, hglt⟩ := pushC_run v2 w.heap.size (.slice la l.length lc) l (1 + y) hO2 (by omega) hs2
          have hO9 : Own v9 w.heap.size (.slice (some ⟨g2, 0, none⟩) (l.length + 1) cap2) (l ++ [1 + y]) := how
          have hC9 : Cur v9 g ao n c (_) := cur_grown hcu hO2 hs2 HCL.out hgr hgl
          have hG9 : GB g w v9 := gb_grown hG2 hO2 hs2 (Nat.le_refl _) hgr
          have hs9 : w.heap.size ≤ v9.heap.size := Nat.le_trans hs2 hgr.size
          clear how hgr hgg hglt hO2
          obtain ⟨L2, hL2⟩ : ∃ L2, l ++ [1 + y] = L2 := ⟨_, rfl⟩
          have hl2 : L2.length = l.length + 1 := by rw [← hL2]; simp
          rw [hL2] at hO9
          rw [← hl2] at hO9 hrun
          clear hL2
          by_cases h1 : 1 < L2.length
          · have h1i : (1 : Int) < (L2.length : Int) := by omega
            have qo := one_c g ao n c _ 4 v9 (by omega) (by omega) hC9
            have HL2 : Hid (L2.length = l.length + 1) := hl2
            have hl2b : L2.length ≤ 2 * (61 - (m + 1)) + 1 := by omega
            clear hl2
            go_wp2_with (at_builtin; refine Lib.wpList_append_run _ rfl _ _ _ _ rfl _ _ rfl rfl _ _ (hrun _) ?_; clear hrun)
            refine qo.mono ?_
            clear qo
            rintro e v10 ⟨b10, rfl, hc10, hgb⟩
            have hO10 := own_gb hO9 hgb hgl
            have hG10 := hG9.trans hgb
            have hs10 := Nat.le_trans hs9 hgb.size
            clear hO9 hG9 hs9 hC9 hgb
            cases b10
            · have HOa : Hid (Own v10 w.heap.size (.slice (some ⟨g2, 0, none⟩) L2.length cap2) L2) := hO10
              have HCa : Hid (Cur v10 g ao n c (M + 8 + 8 * (61 - (m : Int)))) := hc10.mono (by omega)
              have HGa : Hid (GB g w v10) := hG10
              clear hO10 hc10 hG10
              go_wp2
              go_roundw
              case rel => exact ⟨m, at0, L2, some ⟨g2, 0, none⟩, cap2, by omega, rfl, rfl, by go_num, by omega, by omega, by omega, HOa, HCa, HGa, hs10⟩
              case measure => simp [intOf]
            · have qk := pick_c g ao n c _ (L2.length : Int) v10 (by omega) (by omega) hc10
              go_wp2_with fail
              refine qk.mono ?_
              clear qk
              rintro e v11 ⟨zk, rfl, hk0, hk1, hc11, hgb⟩
              have hO11 := own_gb hO10 hgb hgl
              have hG11 := hG10.trans hgb
              have hs11 := Nat.le_trans hs10 hgb.size
              clear hO10 hG10 hs10 hc10 hgb
              obtain ⟨kk, rfl⟩ : ∃ kk : Nat, zk = kk := ⟨zk.toNat, by omega⟩
              have hkk : kk < L2.length := by omega
              obtain ⟨bb, oo, hbb, g1⟩ := hO11.rd'.2.get hkk
              injection hbb with hbb
              injection hbb with hb1 hb2
              subst hb1 hb2
              rw [Nat.zero_add] at g1
              generalize L2.getD kk 0 = xk at g1
              obtain ⟨g3, cap3, v12, hrun2, how, hgr, hgg, hglt⟩ := pushC_run v11 w.heap.size (.slice (some ⟨g2, 0, none⟩) L2.length cap2) L2 xk hO11 (by omega) hs11
              have hl3 : (L2 ++ [xk]).length = L2.length + 1 := by simp
              have HOa : Hid (Own v12 w.heap.size (.slice (some ⟨g3, 0, none⟩) (L2.length + 1) cap3) (L2 ++ [xk])) := how
              have HCa : Hid (Cur v12 g ao n c (M + 8 + 8 * (61 - (m : Int)))) := (cur_grown hc11 hO11 hs11 HCL.out hgr hgl).mono (by omega)
              have HGa : Hid (GB g w v12) := gb_grown hG11 hO11 hs11 (Nat.le_refl _) hgr
              have hs12 : w.heap.size ≤ v12.heap.size := Nat.le_trans hs11 hgr.size
              clear hO11 hG11 hc11 how hgr hgg hglt
              go_wp2_with (at_builtin; refine Lib.wpList_append_run _ rfl _ _ _ _ rfl _ _ rfl rfl _ _ (hrun2 _) ?_; clear hrun2)
              go_roundw
              case rel => exact ⟨m, at0, L2 ++ [xk], some ⟨g3, 0, none⟩, cap3, by omega, by rw [hl3], rfl, by go_num, by omega, by omega, by rw [hl3]; omega, by rw [hl3]; exact HOa, HCa, HGa, hs12⟩
              case measure => simp [intOf]
          · have h1i : ¬ (1 : Int) < (L2.length : Int) := by omega
            have HOa : Hid (Own v9 w.heap.size (.slice (some ⟨g2, 0, none⟩) L2.length cap2) L2) := hO9
            have HCa : Hid (Cur v9 g ao n c (M + 8 + 8 * (61 - (m : Int)))) := hC9.mono (by omega)
            have HGa : Hid (GB g w v9) := hG9
            have hl2b : L2.length ≤ 2 * (61 - m) := by omega
            clear hO9 hC9 hG9 hl2
            go_wp2_with (at_builtin; refine Lib.wpList_append_run _ rfl _ _ _ _ rfl _ _ rfl rfl _ _ (hrun _) ?_; clear hrun)
            go_roundw
            case rel => exact ⟨m, at0, L2, some ⟨g2, 0, none⟩, cap2, by omega, rfl, rfl, by go_num, by omega, by omega, by omega, HOa, HCa, HGa, hs9⟩
            case measure => simp [intOf]
        have c0b : (z == 0) = false := by rw [beq_eq_false_iff_ne]; exact c0
        have c1b : (z == 1) = false := by rw [beq_eq_false_iff_ne]; exact c1
        obtain ⟨g2, cap2, v9, hrun, how, hgr, hgg, hglt⟩ := pushC_run v1 w.heap.size (.slice la l.length lc) l (at0 + 1) hO1 (by omega) hs1
        have hO9 : Own v9 w.heap.size (.slice (some ⟨g2, 0, none⟩) (l.length + 1) cap2) (l ++ [at0 + 1]) := how
        have hC9 : Cur v9 g ao n c (_) := cur_grown hcu hO1 hs1 HCL.out hgr hgl
        have hG9 : GB g w v9 := gb_grown hG1 hO1 hs1 (Nat.le_refl _) hgr
        have hs9 : w.heap.size ≤ v9.heap.size := Nat.le_trans hs1 hgr.size
        clear how hgr hgg hglt hO1
        obtain ⟨L2, hL2⟩ : ∃ L2, l ++ [at0 + 1] = L2 := ⟨_, rfl⟩
        have hl2 : L2.length = l.length + 1 := by rw [← hL2]; simp
        rw [hL2] at hO9
        rw [← hl2] at hO9 hrun
        clear hL2
        by_cases h1 : 1 < L2.length
        · have h1i : (1 : Int) < (L2.length : Int) := by omega
          have qo := one_c g ao n c _ 4 v9 (by omega) (by omega) hC9
          have HL2 : Hid (L2.length = l.length + 1) := hl2
          have hl2b : L2.length ≤ 2 * (61 - (m + 1)) + 1 := by omega
          clear hl2
          go_wp2_with (at_builtin; refine Lib.wpList_append_run _ rfl _ _ _ _ rfl _ _ rfl rfl _ _ (hrun _) ?_; clear hrun)
          refine qo.mono ?_
          clear qo
          rintro e v10 ⟨b10, rfl, hc10, hgb⟩
          have hO10 := own_gb hO9 hgb hgl
          have hG10 := hG9.trans hgb
          have hs10 := Nat.le_trans hs9 hgb.size
          clear hO9 hG9 hs9 hC9 hgb
          cases b10
          · have HOa : Hid (Own v10 w.heap.size (.slice (some ⟨g2, 0, none⟩) L2.length cap2) L2) := hO10
            have HCa : Hid (Cur v10 g ao n c (M + 8 + 8 * (61 - (m : Int)))) := hc10.mono (by omega)
            have HGa : Hid (GB g w v10) := hG10
            clear hO10 hc10 hG10
            go_wp2
            go_roundw
            case rel => exact ⟨m, at0 + 1, L2, some ⟨g2, 0, none⟩, cap2, by omega, rfl, rfl, by go_num, by omega, by omega, by omega, HOa, HCa, HGa, hs10⟩
            case measure => simp [intOf]
          · have qk := pick_c g ao n c _ (L2.length : Int) v10 (by omega) (by omega) hc10
            go_wp2_with fail
            refine qk.mono ?_
            clear qk
            rintro e v11 ⟨zk, rfl, hk0, hk1, hc11, hgb⟩
            have hO11 := own_gb hO10 hgb hgl
            have hG11 := hG10.trans hgb
            have hs11 := Nat.le_trans hs10 hgb.size
            clear hO10 hG10 hs10 hc10 hgb
            obtain ⟨kk, rfl⟩ : ∃ kk : Nat, zk = kk := ⟨zk.toNat, by omega⟩
            have hkk : kk < L2.length := by omega
            obtain ⟨bb, oo, hbb, g1⟩ := hO11.rd'.2.get hkk
            injection hbb with hbb
            injection hbb with hb1 hb2
            subst hb1 hb2
            rw [Nat.zero_add] at g1
            generalize L2.getD kk 0 = xk at g1
            obtain ⟨g3, cap3, v12, hrun2, how, hgr, hgg, hglt⟩ := pushC_run v11 w.heap.size (.slice (some ⟨g2, 0, none⟩) L2.length cap2) L2 xk hO11 (by omega) hs11
            have hl3 : (L2 ++ [xk]).length = L2.length + 1 := by simp
            have HOa : Hid (Own v12 w.heap.size (.slice (some ⟨g3, 0, none⟩) (L2.length + 1) cap3) (L2 ++ [xk])) := how
            have HCa : Hid (Cur v12 g ao n c (M + 8 + 8 * (61 - (m : Int)))) := (cur_grown hc11 hO11 hs11 HCL.out hgr hgl).mono (by omega)
            have HGa : Hid (GB g w v12) := gb_grown hG11 hO11 hs11 (Nat.le_refl _) hgr
            have hs12 : w.heap.size ≤ v12.heap.size := Nat.le_trans hs11 hgr.size
            clear hO11 hG11 hc11 how hgr hgg hglt
            go_wp2_with (at_builtin; refine Lib.wpList_append_run _ rfl _ _ _ _ rfl _ _ rfl rfl _ _ (hrun2 _) ?_; clear hrun2)
            go_roundw
            case rel => exact ⟨m, at0 + 1, L2 ++ [xk], some ⟨g3, 0, none⟩, cap3, by omega, by rw [hl3], rfl, by go_num, by omega, by omega, by rw [hl3]; omega, by rw [hl3]; exact HOa, HCa, HGa, hs12⟩
            case measure => simp [intOf]
        · have h1i : ¬ (1 : Int) < (L2.length : Int) := by omega
          have HOa : Hid (Own v9 w.heap.size (.slice (some ⟨g2, 0, none⟩) L2.length cap2) L2) := hO9
          have HCa : Hid (Cur v9 g ao n c (M + 8 + 8 * (61 - (m : Int)))) := hC9.mono (by omega)
          have HGa : Hid (GB g w v9) := hG9
          have hl2b : L2.length ≤ 2 * (61 - m) := by omega
          clear hO9 hC9 hG9 hl2
          go_wp2_with (at_builtin; refine Lib.wpList_append_run _ rfl _ _ _ _ rfl _ _ rfl rfl _ _ (hrun _) ?_; clear hrun)
          go_roundw
          case rel => exact ⟨m, at0 + 1, L2, some ⟨g2, 0, none⟩, cap2, by omega, rfl, rfl, by go_num, by omega, by omega, by omega, HOa, HCa, HGa, hs9⟩
          case measure => simp [intOf]
      | zero =>
        by_cases h60 : 60 < l.length
        · have h60i : (60 : Int) < (l.length : Int) := by omega
          obtain ⟨⟨g2, rfl, hg2⟩, hcap⟩ := own_at HO.out (by omega)
          have q5 := pick_c g ao n c _ 9 wr (by omega) (by omega) HC.out
          go_wp2_with fail
          refine q5.mono ?_
          clear q5
          rintro e v1 ⟨z, rfl, hza, hzb, hcu, hgb⟩
          have hO1 := own_gb HO.out hgb hgl
          have hG := HG.out.trans hgb
          have hs := Nat.le_trans hsw hgb.size
          clear HO HC HG hsw hgb
          have hk0 : 0 ≤ z / 8 ∧ z / 8 ≤ 1 := by omega
          have hp0 : (0 : Int) < ((60 + z / 8).toNat : Int) := by omega
          go_wp2_with fail
          obtain ⟨kk, hkk⟩ : ∃ kk : Nat, (60 + z / 8).toNat = kk + 1 := ⟨(60 + z / 8).toNat - 1, by omega⟩
          rw [hkk]
          have hO2 := own_cut hO1 (kk + 1) (by omega)
          obtain ⟨L, hL⟩ : ∃ L, l.take (kk + 1) = L := ⟨_, rfl⟩
          have HKK : Hid (L.length = kk + 1) := by rw [← hL, List.length_take]; show min (kk + 1) l.length = kk + 1; omega
          rw [hL] at hO2
          have hO : Own v1 w.heap.size (.slice (some ⟨g2, 0, none⟩) (kk + 1) lc) L := by have h9 := hO2; rw [HKK.out] at h9; exact h9
          have hC := hcu
          have hkl : kk ≤ 60 := by omega
          clear hO1 hO2 hL hkk hp0 hk0 hcu hza hzb
          have hp : (0 : Int) < ((kk + 1 : Nat) : Int) := by omega
          have qo := one_c g ao n c _ 20 v1 (by omega) (by omega) hC
          go_wp2_with fail
          refine qo.mono ?_
          clear qo
          rintro e x1 ⟨bo, rfl, hcu, hgb⟩
          have hO1 := own_gb hO hgb hgl
          have hG1 := hG.trans hgb
          have hs1 := Nat.le_trans hs hgb.size
          clear hO hC hG hs hgb
          cases bo
          · go_wp2
            go_ret
            refine ⟨L, _, lc, ?_, by rw [HKK.out]; omega, by rw [HKK.out]; exact hO1, hcu.mono (by omega), hG1⟩
            rw [HKK.out]
            rfl
          · have HL := lit_cells (fun _ => True) x1 #[.int .i64 0, .int .i64 100000, .int .i64 100001] 3 3 rfl (by simp [allP])
            have hcu2 := hcu.alloc (.cells #[.int .i64 0, .int .i64 100000, .int .i64 100001] 3)
            have hO2 := own_gb hO1 ((GB.refl g x1).alloc (.cells #[.int .i64 0, .int .i64 100000, .int .i64 100001] 3)) hgl
            have hG2 := GB.alloc hG1 (.cells #[.int .i64 0, .int .i64 100000, .int .i64 100001] 3)
            have hs2 : w.heap.size ≤ (x1.alloc (.cells #[.int .i64 0, .int .i64 100000, .int .i64 100001] 3)).heap.size := by simp; omega
            have hgl2 : g < x1.heap.size := by omega
            clear hO1 hG1
            go_wp2_with fail
            refine (among_p (fun _ => True) g ao n c _ x1.heap.size 3 _ (by omega) (by omega) HL (by omega) hcu2).mono ?_
            clear HL hcu hcu2
            rintro e x2 ⟨y, rfl, -, hcu, hgb⟩
            have hO3 := own_gb hO2 hgb hgl
            have hG3 := hG2.trans hgb
            have hs3 := Nat.le_trans hs2 hgb.size
            clear hO2 hG2 hs2 hgb
            have hkL : kk < L.length := by rw [HKK.out]; omega
            obtain ⟨bb, oo, hbb, g1⟩ := hO3.rd'.2.get hkL
            clear hkL
            injection hbb with hbb
            injection hbb with hb1 hb2
            subst hb1 hb2
            rw [Nat.zero_add] at g1
            generalize L.getD kk 0 = xk at g1
            have g0 : x2.frozen? ⟨g2, kk, none⟩ = false := Own.free (cap := lc) (xs := L) (by rw [HKK.out]; exact hO3) kk
            have HO3 : Hid (Own x2 w.heap.size (.slice (some ⟨g2, 0, none⟩) (kk + 1) lc) L) := hO3
            have HC3b : Hid (Cur x2 g ao n c _) := hcu
            have HG3b : Hid (GB g w x2) := hG3
            clear hO3 hcu hG3
            go_wp2
            go_ret
            have hO4 := own_put (w := x2) (l := L) (cap := lc) (g2 := g2) (base := w.heap.size) (by rw [HKK.out]; exact HO3.out) kk y
            exact ⟨L.set kk y, _, lc, by rw [List.length_set, HKK.out]; rfl, by rw [List.length_set, HKK.out]; omega, hO4, (cur_put HC3b.out HCL.out hgl hg2 kk _).mono (by omega), gb_put HG3b.out (Nat.le_refl _) hg2 kk _⟩
        · have h60i : ¬ (60 : Int) < (l.length : Int) := by omega
          by_cases h0 : l.length = 0
          · have h0i : ¬ (0 : Int) < (l.length : Int) := by omega
            go_wp2
            go_ret
            have hl0 : l = [] := List.eq_nil_of_length_eq_zero h0
            subst hl0
            exact ⟨[], la, lc, rfl, by simp, HO.out, HC.out.mono (by omega), HG.out⟩
          obtain ⟨⟨g2, rfl, hg2⟩, hcap⟩ := own_at HO.out (by omega)
          obtain ⟨kk, hkk⟩ : ∃ kk : Nat, l.length = kk + 1 := ⟨l.length - 1, by omega⟩
          have hO : Own wr w.heap.size (.slice (some ⟨g2, 0, none⟩) (kk + 1) lc) l := by have h9 := HO.out; rw [hkk] at h9; exact h9
          rw [hkk]
          have h60k : ¬ (60 : Int) < ((kk + 1 : Nat) : Int) := by omega
          have hkl : kk ≤ 60 := by omega
          have hC := HC.out
          have hG := HG.out
          have hs := hsw
          obtain ⟨L, hL⟩ : ∃ L, l = L := ⟨_, rfl⟩
          subst hL
          have HKK : Hid (l.length = kk + 1) := hkk
          clear hkk h60 h60i h0 hll hcap HO HC HG hsw
          have hp : (0 : Int) < ((kk + 1 : Nat) : Int) := by omega
          have qo := one_c g ao n c _ 20 wr (by omega) (by omega) hC
          go_wp2_with fail
          refine qo.mono ?_
          clear qo
          rintro e x1 ⟨bo, rfl, hcu, hgb⟩
          have hO1 := own_gb hO hgb hgl
          have hG1 := hG.trans hgb
          have hs1 := Nat.le_trans hs hgb.size
          clear hO hC hG hs hgb
          cases bo
          · go_wp2
            go_ret
            refine ⟨l, _, lc, ?_, by rw [HKK.out]; omega, by rw [HKK.out]; exact hO1, hcu.mono (by omega), hG1⟩
            rw [HKK.out]
            rfl
          · have HL := lit_cells (fun _ => True) x1 #[.int .i64 0, .int .i64 100000, .int .i64 100001] 3 3 rfl (by simp [allP])
            have hcu2 := hcu.alloc (.cells #[.int .i64 0, .int .i64 100000, .int .i64 100001] 3)
            have hO2 := own_gb hO1 ((GB.refl g x1).alloc (.cells #[.int .i64 0, .int .i64 100000, .int .i64 100001] 3)) hgl
            have hG2 := GB.alloc hG1 (.cells #[.int .i64 0, .int .i64 100000, .int .i64 100001] 3)
            have hs2 : w.heap.size ≤ (x1.alloc (.cells #[.int .i64 0, .int .i64 100000, .int .i64 100001] 3)).heap.size := by simp; omega
            have hgl2 : g < x1.heap.size := by omega
            clear hO1 hG1
            go_wp2_with fail
            refine (among_p (fun _ => True) g ao n c _ x1.heap.size 3 _ (by omega) (by omega) HL (by omega) hcu2).mono ?_
            clear HL hcu hcu2
            rintro e x2 ⟨y, rfl, -, hcu, hgb⟩
            have hO3 := own_gb hO2 hgb hgl
            have hG3 := hG2.trans hgb
            have hs3 := Nat.le_trans hs2 hgb.size
            clear hO2 hG2 hs2 hgb
            have hkL : kk < l.length := by rw [HKK.out]; omega
            obtain ⟨bb, oo, hbb, g1⟩ := hO3.rd'.2.get hkL
            clear hkL
            injection hbb with hbb
            injection hbb with hb1 hb2
            subst hb1 hb2
            rw [Nat.zero_add] at g1
            generalize l.getD kk 0 = xk at g1
            have g0 : x2.frozen? ⟨g2, kk, none⟩ = false := Own.free (cap := lc) (xs := l) (by rw [HKK.out]; exact hO3) kk
            have HO3 : Hid (Own x2 w.heap.size (.slice (some ⟨g2, 0, none⟩) (kk + 1) lc) l) := hO3
            have HC3b : Hid (Cur x2 g ao n c _) := hcu
            have HG3b : Hid (GB g w x2) := hG3
            clear hO3 hcu hG3
            go_wp2
            go_ret
            have hO4 := own_put (w := x2) (l := l) (cap := lc) (g2 := g2) (base := w.heap.size) (by rw [HKK.out]; exact HO3.out) kk y
            exact ⟨l.set kk y, _, lc, by rw [List.length_set, HKK.out]; rfl, by rw [List.length_set, HKK.out]; omega, hO4, (cur_put HC3b.out HCL.out hgl hg2 kk _).mono (by omega), gb_put HG3b.out (Nat.le_refl _) hg2 kk _⟩
  · have q4 := pick_c g ao n c _ 2 w3 (by omega) (by omega) HC3.out
    go_wp2_with fail
    refine q4.mono ?_
    clear q4
    rintro e w4 ⟨z4, rfl, hx0, hx1, hc4, hg4⟩
    have HG4 : Hid (GB g w w4) := HG3.out.trans hg4
    have HC4 : Hid (Cur w4 g ao n c (M + 8)) := hc4.mono (by omega)
    clear hc4 hg4 HG3 HC3
    obtain ⟨n0, hn0⟩ : ∃ n0 : Nat, z4 = n0 := ⟨z4.toNat, by omega⟩
    subst hn0
    go_wp2
    go_loopw [3, 4, 5] (fun lv av nv wr => ∃ (m : Nat) (at0 : Int) (l : List Int) (la : Option Addr) (lc : Nat), m ≤ 61 ∧ lv = .slice la l.length lc ∧ av = .int .i64 at0 ∧ nv = .int .i64 (m : Int) ∧ 1 ≤ at0 ∧ at0 ≤ 6 + 20 * (61 - (m : Int)) ∧ l.length ≤ 2 * (61 - m) ∧ Hid (Own wr w.heap.size (.slice la l.length lc) l) ∧ Hid (Cur wr g ao n c (M + 8 + 8 * (61 - (m : Int)))) ∧ Hid (GB g w wr) ∧ w.heap.size ≤ wr.heap.size) (fun _ _ nv _ => (intOf nv).toNat)
    case atStart => exact ⟨60 + n0, 1 + z1, [], none, 0, by omega, rfl, rfl, by go_num, by omega, by omega, by simp, World.ownsRow_nil _ _ _ _, HC4.out.mono (by omega), HG4, HG4.out.size⟩
    case round =>
      obtain ⟨m, at0, l, la, lc, hm, rfl, rfl, rfl, ha0, ha1, hll, HO, HC, HG, hsw⟩ := hrel
      cases m with
      | succ m =>
        have hm0 : (0 : Int) < ((m + 1 : Nat) : Int) := by omega
        have q5 := pick_c g ao n c _ 5 wr (by omega) (by omega) HC.out
        go_wp2_with fail
        refine q5.mono ?_
        clear q5
        rintro e v1 ⟨z, rfl, hza, hzb, hcu, hgb⟩
        have hO1 : Own v1 w.heap.size (.slice la l.length lc) l := own_gb HO.out hgb hgl
        have hG1 : GB g w v1 := HG.out.trans hgb
        have hs1 : w.heap.size ≤ v1.heap.size := Nat.le_trans hsw hgb.size
        clear HO HC HG hsw hgb
        by_cases c0 : z = 0
        · subst c0
          have q6 := pick_c g ao n c _ 20 v1 (by omega) (by omega) hcu
          go_wp2_with fail
          refine q6.mono ?_
          clear q6 hcu
          rintro e v2 ⟨y, rfl, hya, hyb, hcu, hgb⟩
          have hO2 := own_gb hO1 hgb hgl
          have hG2 := hG1.trans hgb
          have hs2 := Nat.le_trans hs1 hgb.size
          clear hO1 hG1 hs1 hgb
          obtain ⟨g2, cap2, v9, hrun, how, hgr, hgg, hglt⟩ := pushC_run v2 w.heap.size (.slice la l.length lc) l (at0 + y) hO2 (by omega) hs2
          have hO9 : Own v9 w.heap.size (.slice (some ⟨g2, 0, none⟩) (l.length + 1) cap2) (l ++ [at0 + y]) := how
          have hC9 : Cur v9 g ao n c (_) := cur_grown hcu hO2 hs2 HCL.out hgr hgl
          have hG9 : GB g w v9 := gb_grown hG2 hO2 hs2 (Nat.le_refl _) hgr
          have hs9 : w.heap.size ≤ v9.heap.size := Nat.le_trans hs2 hgr.size
          clear how hgr hgg hglt hO2
          obtain ⟨L2, hL2⟩ : ∃ L2, l ++ [at0 + y] = L2 := ⟨_, rfl⟩
          have hl2 : L2.length = l.length + 1 := by rw [← hL2]; simp
          rw [hL2] at hO9
          rw [← hl2] at hO9 hrun
          clear hL2
          by_cases h1 : 1 < L2.length
          · have h1i : (1 : Int) < (L2.length : Int) := by omega
            have qo := one_c g ao n c _ 4 v9 (by omega) (by omega) hC9
            have HL2 : Hid (L2.length = l.length + 1) := hl2
            have hl2b : L2.length ≤ 2 * (61 - (m + 1)) + 1 := by omega
            clear hl2
            go_wp2_with (at_builtin; refine Lib.wpList_append_run _ rfl _ _ _ _ rfl _ _ rfl rfl _ _ (hrun _) ?_; clear hrun)
            refine qo.mono ?_
            clear qo
            rintro e v10 ⟨b10, rfl, hc10, hgb⟩
            have hO10 := own_gb hO9 hgb hgl
            have hG10 := hG9.trans hgb
            have hs10 := Nat.le_trans hs9 hgb.size
            clear hO9 hG9 hs9 hC9 hgb
            cases b10
            · have HOa : Hid (Own v10 w.heap.size (.slice (some ⟨g2, 0, none⟩) L2.length cap2) L2) := hO10
              have HCa : Hid (Cur v10 g ao n c (M + 8 + 8 * (61 - (m : Int)))) := hc10.mono (by omega)
              have HGa : Hid (GB g w v10) := hG10
              clear hO10 hc10 hG10
              go_wp2
              go_roundw
              case rel => exact ⟨m, at0 + y, L2, some ⟨g2, 0, none⟩, cap2, by omega, rfl, rfl, by go_num, by omega, by omega, by omega, HOa, HCa, HGa, hs10⟩
              case measure => simp [intOf]
            · have qk := pick_c g ao n c _ (L2.length : Int) v10 (by omega) (by omega) hc10
              go_wp2_with fail
              refine qk.mono ?_
              clear qk
              rintro e v11 ⟨zk, rfl, hk0, hk1, hc11, hgb⟩
              have hO11 := own_gb hO10 hgb hgl
              have hG11 := hG10.trans hgb
              have hs11 := Nat.le_trans hs10 hgb.size
              clear hO10 hG10 hs10 hc10 hgb
              obtain ⟨kk, rfl⟩ : ∃ kk : Nat, zk = kk := ⟨zk.toNat, by omega⟩
              have hkk : kk < L2.length := by omega
              obtain ⟨bb, oo, hbb, g1⟩ := hO11.rd'.2.get hkk
              injection hbb with hbb
              injection hbb with hb1 hb2
              subst hb1 hb2
              rw [Nat.zero_add] at g1
              generalize L2.getD kk 0 = xk at g1
              obtain ⟨g3, cap3, v12, hrun2, how, hgr, hgg, hglt⟩ := pushC_run v11 w.heap.size (.slice (some ⟨g2, 0, none⟩) L2.length cap2) L2 xk hO11 (by omega) hs11
              have hl3 : (L2 ++ [xk]).length = L2.length + 1 := by simp
              have HOa : Hid (Own v12 w.heap.size (.slice (some ⟨g3, 0, none⟩) (L2.length + 1) cap3) (L2 ++ [xk])) := how
              have HCa : Hid (Cur v12 g ao n c (M + 8 + 8 * (61 - (m : Int)))) := (cur_grown hc11 hO11 hs11 HCL.out hgr hgl).mono (by omega)
              have HGa : Hid (GB g w v12) := gb_grown hG11 hO11 hs11 (Nat.le_refl _) hgr
              have hs12 : w.heap.size ≤ v12.heap.size := Nat.le_trans hs11 hgr.size
              clear hO11 hG11 hc11 how hgr hgg hglt
              go_wp2_with (at_builtin; refine Lib.wpList_append_run _ rfl _ _ _ _ rfl _ _ rfl rfl _ _ (hrun2 _) ?_; clear hrun2)
              go_roundw
              case rel => exact ⟨m, at0 + y, L2 ++ [xk], some ⟨g3, 0, none⟩, cap3, by omega, by rw [hl3], rfl, by go_num, by omega, by omega, by rw [hl3]; omega, by rw [hl3]; exact HOa, HCa, HGa, hs12⟩
              case measure => simp [intOf]
          · have h1i : ¬ (1 : Int) < (L2.length : Int) := by omega
            have HOa : Hid (Own v9 w.heap.size (.slice (some ⟨g2, 0, none⟩) L2.length cap2) L2) := hO9
            have HCa : Hid (Cur v9 g ao n c (M + 8 + 8 * (61 - (m : Int)))) := hC9.mono (by omega)
            have HGa : Hid (GB g w v9) := hG9
            have hl2b : L2.length ≤ 2 * (61 - m) := by omega
            clear hO9 hC9 hG9 hl2
            go_wp2_with (at_builtin; refine Lib.wpList_append_run _ rfl _ _ _ _ rfl _ _ rfl rfl _ _ (hrun _) ?_; clear hrun)
            go_roundw
            case rel => exact ⟨m, at0 + y, L2, some ⟨g2, 0, none⟩, cap2, by omega, rfl, rfl, by go_num, by omega, by omega, by omega, HOa, HCa, HGa, hs9⟩
            case measure => simp [intOf]
        by_cases c1 : z = 1
        · subst c1
          have q6 := pick_c g ao n c _ at0 v1 (by omega) (by omega) hcu
          go_wp2_with fail
          refine q6.mono ?_
          clear q6 hcu
          rintro e v2 ⟨y, rfl, hya, hyb, hcu, hgb⟩
          have hO2 := own_gb hO1 hgb hgl
          have hG2 := hG1.trans hgb
          have hs2 := Nat.le_trans hs1 hgb.size
          clear hO1 hG1 hs1 hgb
          obtain ⟨g2, cap2, v9, hrun, how, hgr, hgg, hglt⟩ := pushC_run v2 w.heap.size (.slice la l.length lc) l (1 + y) hO2 (by omega) hs2
          have hO9 : Own v9 w.heap.size (.slice (some ⟨g2, 0, none⟩) (l.length + 1) cap2) (l ++ [1 + y]) := how
          have hC9 : Cur v9 g ao n c (_) := cur_grown hcu hO2 hs2 HCL.out hgr hgl
          have hG9 : GB g w v9 := gb_grown hG2 hO2 hs2 (Nat.le_refl _) hgr
          have hs9 : w.heap.size ≤ v9.heap.size := Nat.le_trans hs2 hgr.size
          clear how hgr hgg hglt hO2
          obtain ⟨L2, hL2⟩ : ∃ L2, l ++ [1 + y] = L2 := ⟨_, rfl⟩
          have hl2 : L2.length = l.length + 1 := by rw [← hL2]; simp
          rw [hL2] at hO9
          rw [← hl2] at hO9 hrun
          clear hL2
          by_cases h1 : 1 < L2.length
          · have h1i : (1 : Int) < (L2.length : Int) := by omega
            have qo := one_c g ao n c _ 4 v9 (by omega) (by omega) hC9
            have HL2 : Hid (L2.length = l.length + 1) := hl2
            have hl2b : L2.length ≤ 2 * (61 - (m + 1)) + 1 := by omega
            clear hl2
            go_wp2_with (at_builtin; refine Lib.wpList_append_run _ rfl _ _ _ _ rfl _ _ rfl rfl _ _ (hrun _) ?_; clear hrun)
            refine qo.mono ?_
            clear qo
            rintro e v10 ⟨b10, rfl, hc10, hgb⟩
            have hO10 := own_gb hO9 hgb hgl
            have hG10 := hG9.trans hgb
            have hs10 := Nat.le_trans hs9 hgb.size
            clear hO9 hG9 hs9 hC9 hgb
            cases b10
            · have HOa : Hid (Own v10 w.heap.size (.slice (some ⟨g2, 0, none⟩) L2.length cap2) L2) := hO10
              have HCa : Hid (Cur v10 g ao n c (M + 8 + 8 * (61 - (m : Int)))) := hc10.mono (by omega)
              have HGa : Hid (GB g w v10) := hG10
              clear hO10 hc10 hG10
              go_wp2
              go_roundw
              case rel => exact ⟨m, at0, L2, some ⟨g2, 0, none⟩, cap2, by omega, rfl, rfl, by go_num, by omega, by omega, by omega, HOa, HCa, HGa, hs10⟩
              case measure => simp [intOf]
            · have qk := pick_c g ao n c _ (L2.length : Int) v10 (by omega) (by omega) hc10
              go_wp2_with fail
              refine qk.mono ?_
              clear qk
              rintro e v11 ⟨zk, rfl, hk0, hk1, hc11, hgb⟩
              have hO11 := own_gb hO10 hgb hgl
              have hG11 := hG10.trans hgb
              have hs11 := Nat.le_trans hs10 hgb.size
              clear hO10 hG10 hs10 hc10 hgb
              obtain ⟨kk, rfl⟩ : ∃ kk : Nat, zk = kk := ⟨zk.toNat, by omega⟩
              have hkk : kk < L2.length := by omega
              obtain ⟨bb, oo, hbb, g1⟩ := hO11.rd'.2.get hkk
              injection hbb with hbb
              injection hbb with hb1 hb2
              subst hb1 hb2
              rw [Nat.zero_add] at g1
              generalize L2.getD kk 0 = xk at g1
              obtain ⟨g3, cap3, v12, hrun2, how, hgr, hgg, hglt⟩ := pushC_run v11 w.heap.size (.slice (some ⟨g2, 0, none⟩) L2.length cap2) L2 xk hO11 (by omega) hs11
              have hl3 : (L2 ++ [xk]).length = L2.length + 1 := by simp
              have HOa : Hid (Own v12 w.heap.size (.slice (some ⟨g3, 0, none⟩) (L2.length + 1) cap3) (L2 ++ [xk])) := how
              have HCa : Hid (Cur v12 g ao n c (M + 8 + 8 * (61 - (m : Int)))) := (cur_grown hc11 hO11 hs11 HCL.out hgr hgl).mono (by omega)
              have HGa : Hid (GB g w v12) := gb_grown hG11 hO11 hs11 (Nat.le_refl _) hgr
              have hs12 : w.heap.size ≤ v12.heap.size := Nat.le_trans hs11 hgr.size
              clear hO11 hG11 hc11 how hgr hgg hglt
              go_wp2_with (at_builtin; refine Lib.wpList_append_run _ rfl _ _ _ _ rfl _ _ rfl rfl _ _ (hrun2 _) ?_; clear hrun2)
              go_roundw
              case rel => exact ⟨m, at0, L2 ++ [xk], some ⟨g3, 0, none⟩, cap3, by omega, by rw [hl3], rfl, by go_num, by omega, by omega, by rw [hl3]; omega, by rw [hl3]; exact HOa, HCa, HGa, hs12⟩
              case measure => simp [intOf]
          · have h1i : ¬ (1 : Int) < (L2.length : Int) := by omega
            have HOa : Hid (Own v9 w.heap.size (.slice (some ⟨g2, 0, none⟩) L2.length cap2) L2) := hO9
            have HCa : Hid (Cur v9 g ao n c (M + 8 + 8 * (61 - (m : Int)))) := hC9.mono (by omega)
            have HGa : Hid (GB g w v9) := hG9
            have hl2b : L2.length ≤ 2 * (61 - m) := by omega
            clear hO9 hC9 hG9 hl2
            go_wp2_with (at_builtin; refine Lib.wpList_append_run _ rfl _ _ _ _ rfl _ _ rfl rfl _ _ (hrun _) ?_; clear hrun)
            go_roundw
            case rel => exact ⟨m, at0, L2, some ⟨g2, 0, none⟩, cap2, by omega, rfl, rfl, by go_num, by omega, by omega, by omega, HOa, HCa, HGa, hs9⟩
            case measure => simp [intOf]
        have c0b : (z == 0) = false := by rw [beq_eq_false_iff_ne]; exact c0
        have c1b : (z == 1) = false := by rw [beq_eq_false_iff_ne]; exact c1
        obtain ⟨g2, cap2, v9, hrun, how, hgr, hgg, hglt⟩ := pushC_run v1 w.heap.size (.slice la l.length lc) l (at0 + 1) hO1 (by omega) hs1
        have hO9 : Own v9 w.heap.size (.slice (some ⟨g2, 0, none⟩) (l.length + 1) cap2) (l ++ [at0 + 1]) := how
        have hC9 : Cur v9 g ao n c (_) := cur_grown hcu hO1 hs1 HCL.out hgr hgl
        have hG9 : GB g w v9 := gb_grown hG1 hO1 hs1 (Nat.le_refl _) hgr
        have hs9 : w.heap.size ≤ v9.heap.size := Nat.le_trans hs1 hgr.size
        clear how hgr hgg hglt hO1
        obtain ⟨L2, hL2⟩ : ∃ L2, l ++ [at0 + 1] = L2 := ⟨_, rfl⟩
        have hl2 : L2.length = l.length + 1 := by rw [← hL2]; simp
        rw [hL2] at hO9
        rw [← hl2] at hO9 hrun
        clear hL2
        by_cases h1 : 1 < L2.length
        · have h1i : (1 : Int) < (L2.length : Int) := by omega
          have qo := one_c g ao n c _ 4 v9 (by omega) (by omega) hC9
          have HL2 : Hid (L2.length = l.length + 1) := hl2
          have hl2b : L2.length ≤ 2 * (61 - (m + 1)) + 1 := by omega
          clear hl2
          go_wp2_with (at_builtin; refine Lib.wpList_append_run _ rfl _ _ _ _ rfl _ _ rfl rfl _ _ (hrun _) ?_; clear hrun)
          refine qo.mono ?_
          clear qo
          rintro e v10 ⟨b10, rfl, hc10, hgb⟩
          have hO10 := own_gb hO9 hgb hgl
          have hG10 := hG9.trans hgb
          have hs10 := Nat.le_trans hs9 hgb.size
          clear hO9 hG9 hs9 hC9 hgb
          cases b10
          · have HOa : Hid (Own v10 w.heap.size (.slice (some ⟨g2, 0, none⟩) L2.length cap2) L2) := hO10
            have HCa : Hid (Cur v10 g ao n c (M + 8 + 8 * (61 - (m : Int)))) := hc10.mono (by omega)
            have HGa : Hid (GB g w v10) := hG10
            clear hO10 hc10 hG10
            go_wp2
            go_roundw
            case rel => exact ⟨m, at0 + 1, L2, some ⟨g2, 0, none⟩, cap2, by omega, rfl, rfl, by go_num, by omega, by omega, by omega, HOa, HCa, HGa, hs10⟩
            case measure => simp [intOf]
          · have qk := pick_c g ao n c _ (L2.length : Int) v10 (by omega) (by omega) hc10
            go_wp2_with fail
            refine qk.mono ?_
            clear qk
            rintro e v11 ⟨zk, rfl, hk0, hk1, hc11, hgb⟩
            have hO11 := own_gb hO10 hgb hgl
            have hG11 := hG10.trans hgb
            have hs11 := Nat.le_trans hs10 hgb.size
            clear hO10 hG10 hs10 hc10 hgb
            obtain ⟨kk, rfl⟩ : ∃ kk : Nat, zk = kk := ⟨zk.toNat, by omega⟩
            have hkk : kk < L2.length := by omega
            obtain ⟨bb, oo, hbb, g1⟩ := hO11.rd'.2.get hkk
            injection hbb with hbb
            injection hbb with hb1 hb2
            subst hb1 hb2
            rw [Nat.zero_add] at g1
            generalize L2.getD kk 0 = xk at g1
            obtain ⟨g3, cap3, v12, hrun2, how, hgr, hgg, hglt⟩ := pushC_run v11 w.heap.size (.slice (some ⟨g2, 0, none⟩) L2.length cap2) L2 xk hO11 (by omega) hs11
            have hl3 : (L2 ++ [xk]).length = L2.length + 1 := by simp
            have HOa : Hid (Own v12 w.heap.size (.slice (some ⟨g3, 0, none⟩) (L2.length + 1) cap3) (L2 ++ [xk])) := how
            have HCa : Hid (Cur v12 g ao n c (M + 8 + 8 * (61 - (m : Int)))) := (cur_grown hc11 hO11 hs11 HCL.out hgr hgl).mono (by omega)
            have HGa : Hid (GB g w v12) := gb_grown hG11 hO11 hs11 (Nat.le_refl _) hgr
            have hs12 : w.heap.size ≤ v12.heap.size := Nat.le_trans hs11 hgr.size
            clear hO11 hG11 hc11 how hgr hgg hglt
            go_wp2_with (at_builtin; refine Lib.wpList_append_run _ rfl _ _ _ _ rfl _ _ rfl rfl _ _ (hrun2 _) ?_; clear hrun2)
            go_roundw
            case rel => exact ⟨m, at0 + 1, L2 ++ [xk], some ⟨g3, 0, none⟩, cap3, by omega, by rw [hl3], rfl, by go_num, by omega, by omega, by rw [hl3]; omega, by rw [hl3]; exact HOa, HCa, HGa, hs12⟩
            case measure => simp [intOf]
        · have h1i : ¬ (1 : Int) < (L2.length : Int) := by omega
          have HOa : Hid (Own v9 w.heap.size (.slice (some ⟨g2, 0, none⟩) L2.length cap2) L2) := hO9
          have HCa : Hid (Cur v9 g ao n c (M + 8 + 8 * (61 - (m : Int)))) := hC9.mono (by omega)
          have HGa : Hid (GB g w v9) := hG9
          have hl2b : L2.length ≤ 2 * (61 - m) := by omega
          clear hO9 hC9 hG9 hl2
          go_wp2_with (at_builtin; refine Lib.wpList_append_run _ rfl _ _ _ _ rfl _ _ rfl rfl _ _ (hrun _) ?_; clear hrun)
          go_roundw
          case rel => exact ⟨m, at0 + 1, L2, some ⟨g2, 0, none⟩, cap2, by omega, rfl, rfl, by go_num, by omega, by omega, by omega, HOa, HCa, HGa, hs9⟩
          case measure => simp [intOf]
      | zero =>
        by_cases h60 : 60 < l.length
        · have h60i : (60 : Int) < (l.length : Int) := by omega
          obtain ⟨⟨g2, rfl, hg2⟩, hcap⟩ := own_at HO.out (by omega)
          have q5 := pick_c g ao n c _ 9 wr (by omega) (by omega) HC.out
          go_wp2_with fail
          refine q5.mono ?_
          clear q5
          rintro e v1 ⟨z, rfl, hza, hzb, hcu, hgb⟩
          have hO1 := own_gb HO.out hgb hgl
          have hG := HG.out.trans hgb
          have hs := Nat.le_trans hsw hgb.size
          clear HO HC HG hsw hgb
          have hk0 : 0 ≤ z / 8 ∧ z / 8 ≤ 1 := by omega
          have hp0 : (0 : Int) < ((60 + z / 8).toNat : Int) := by omega
          go_wp2_with fail
          obtain ⟨kk, hkk⟩ : ∃ kk : Nat, (60 + z / 8).toNat = kk + 1 := ⟨(60 + z / 8).toNat - 1, by omega⟩
          rw [hkk]
          have hO2 := own_cut hO1 (kk + 1) (by omega)
          obtain ⟨L, hL⟩ : ∃ L, l.take (kk + 1) = L := ⟨_, rfl⟩
          have HKK : Hid (L.length = kk + 1) := by rw [← hL, List.length_take]; show min (kk + 1) l.length = kk + 1; omega
          rw [hL] at hO2
          have hO : Own v1 w.heap.size (.slice (some ⟨g2, 0, none⟩) (kk + 1) lc) L := by have h9 := hO2; rw [HKK.out] at h9; exact h9
          have hC := hcu
          have hkl : kk ≤ 60 := by omega
          clear hO1 hO2 hL hkk hp0 hk0 hcu hza hzb
          have hp : (0 : Int) < ((kk + 1 : Nat) : Int) := by omega
          have qo := one_c g ao n c _ 20 v1 (by omega) (by omega) hC
          go_wp2_with fail
          refine qo.mono ?_
          clear qo
          rintro e x1 ⟨bo, rfl, hcu, hgb⟩
          have hO1 := own_gb hO hgb hgl
          have hG1 := hG.trans hgb
          have hs1 := Nat.le_trans hs hgb.size
          clear hO hC hG hs hgb
          cases bo
          · go_wp2
            go_ret
            refine ⟨L, _, lc, ?_, by rw [HKK.out]; omega, by rw [HKK.out]; exact hO1, hcu.mono (by omega), hG1⟩
            rw [HKK.out]
            rfl
          · have HL := lit_cells (fun _ => True) x1 #[.int .i64 0, .int .i64 100000, .int .i64 100001] 3 3 rfl (by simp [allP])
            have hcu2 := hcu.alloc (.cells #[.int .i64 0, .int .i64 100000, .int .i64 100001] 3)
            have hO2 := own_gb hO1 ((GB.refl g x1).alloc (.cells #[.int .i64 0, .int .i64 100000, .int .i64 100001] 3)) hgl
            have hG2 := GB.alloc hG1 (.cells #[.int .i64 0, .int .i64 100000, .int .i64 100001] 3)
            have hs2 : w.heap.size ≤ (x1.alloc (.cells #[.int .i64 0, .int .i64 100000, .int .i64 100001] 3)).heap.size := by simp; omega
            have hgl2 : g < x1.heap.size := by omega
            clear hO1 hG1
            go_wp2_with fail
            refine (among_p (fun _ => True) g ao n c _ x1.heap.size 3 _ (by omega) (by omega) HL (by omega) hcu2).mono ?_
            clear HL hcu hcu2
            rintro e x2 ⟨y, rfl, -, hcu, hgb⟩
            have hO3 := own_gb hO2 hgb hgl
            have hG3 := hG2.trans hgb
            have hs3 := Nat.le_trans hs2 hgb.size
            clear hO2 hG2 hs2 hgb
            have hkL : kk < L.length := by rw [HKK.out]; omega
            obtain ⟨bb, oo, hbb, g1⟩ := hO3.rd'.2.get hkL
            clear hkL
            injection hbb with hbb
            injection hbb with hb1 hb2
            subst hb1 hb2
            rw [Nat.zero_add] at g1
            generalize L.getD kk 0 = xk at g1
            have g0 : x2.frozen? ⟨g2, kk, none⟩ = false := Own.free (cap := lc) (xs := L) (by rw [HKK.out]; exact hO3) kk
            have HO3 : Hid (Own x2 w.heap.size (.slice (some ⟨g2, 0, none⟩) (kk + 1) lc) L) := hO3
            have HC3b : Hid (Cur x2 g ao n c _) := hcu
            have HG3b : Hid (GB g w x2) := hG3
            clear hO3 hcu hG3
            go_wp2
            go_ret
            have hO4 := own_put (w := x2) (l := L) (cap := lc) (g2 := g2) (base := w.heap.size) (by rw [HKK.out]; exact HO3.out) kk y
            exact ⟨L.set kk y, _, lc, by rw [List.length_set, HKK.out]; rfl, by rw [List.length_set, HKK.out]; omega, hO4, (cur_put HC3b.out HCL.out hgl hg2 kk _).mono (by omega), gb_put HG3b.out (Nat.le_refl _) hg2 kk _⟩
        · have h60i : ¬ (60 : Int) < (l.length : Int) := by omega
          by_cases h0 : l.length = 0
          · have h0i : ¬ (0 : Int) < (l.length : Int) := by omega
            go_wp2
            go_ret
            have hl0 : l = [] := List.eq_nil_of_length_eq_zero h0
            subst hl0
            exact ⟨[], la, lc, rfl, by simp, HO.out, HC.out.mono (by omega), HG.out⟩
          obtain ⟨⟨g2, rfl, hg2⟩, hcap⟩ := own_at HO.out (by omega)
          obtain ⟨kk, hkk⟩ : ∃ kk : Nat, l.length = kk + 1 := ⟨l.length - 1, by omega⟩
          have hO : Own wr w.heap.size (.slice (some ⟨g2, 0, none⟩) (kk + 1) lc) l := by have h9 := HO.out; rw [hkk] at h9; exact h9
          rw [hkk]
          have h60k : ¬ (60 : Int) < ((kk + 1 : Nat) : Int) := by omega
          have hkl : kk ≤ 60 := by omega
          have hC := HC.out
          have hG := HG.out
          have hs := hsw
          obtain ⟨L, hL⟩ : ∃ L, l = L := ⟨_, rfl⟩
          subst hL
          have HKK : Hid (l.length = kk + 1) := hkk
          clear hkk h60 h60i h0 hll hcap HO HC HG hsw
          have hp : (0 : Int) < ((kk + 1 : Nat) : Int) := by omega
          have qo := one_c g ao n c _ 20 wr (by omega) (by omega) hC
          go_wp2_with fail
          refine qo.mono ?_
          clear qo
          rintro e x1 ⟨bo, rfl, hcu, hgb⟩
          have hO1 := own_gb hO hgb hgl
          have hG1 := hG.trans hgb
          have hs1 := Nat.le_trans hs hgb.size
          clear hO hC hG hs hgb
          cases bo
          · go_wp2
            go_ret
            refine ⟨l, _, lc, ?_, by rw [HKK.out]; omega, by rw [HKK.out]; exact hO1, hcu.mono (by omega), hG1⟩
            rw [HKK.out]
            rfl
          · have HL := lit_cells (fun _ => True) x1 #[.int .i64 0, .int .i64 100000, .int .i64 100001] 3 3 rfl (by simp [allP])
            have hcu2 := hcu.alloc (.cells #[.int .i64 0, .int .i64 100000, .int .i64 100001] 3)
            have hO2 := own_gb hO1 ((GB.refl g x1).alloc (.cells #[.int .i64 0, .int .i64 100000, .int .i64 100001] 3)) hgl
            have hG2 := GB.alloc hG1 (.cells #[.int .i64 0, .int .i64 100000, .int .i64 100001] 3)
            have hs2 : w.heap.size ≤ (x1.alloc (.cells #[.int .i64 0, .int .i64 100000, .int .i64 100001] 3)).heap.size := by simp; omega
            have hgl2 : g < x1.heap.size := by omega
            clear hO1 hG1
            go_wp2_with fail
            refine (among_p (fun _ => True) g ao n c _ x1.heap.size 3 _ (by omega) (by omega) HL (by omega) hcu2).mono ?_
            clear HL hcu hcu2
            rintro e x2 ⟨y, rfl, -, hcu, hgb⟩
            have hO3 := own_gb hO2 hgb hgl
            have hG3 := hG2.trans hgb
            have hs3 := Nat.le_trans hs2 hgb.size
            clear hO2 hG2 hs2 hgb
            have hkL : kk < l.length := by rw [HKK.out]; omega
            obtain ⟨bb, oo, hbb, g1⟩ := hO3.rd'.2.get hkL
            clear hkL
            injection hbb with hbb
            injection hbb with hb1 hb2
            subst hb1 hb2
            rw [Nat.zero_add] at g1
            generalize l.getD kk 0 = xk at g1
            have g0 : x2.frozen? ⟨g2, kk, none⟩ = false := Own.free (cap := lc) (xs := l) (by rw [HKK.out]; exact hO3) kk
            have HO3 : Hid (Own x2 w.heap.size (.slice (some ⟨g2, 0, none⟩) (kk + 1) lc) l) := hO3
            have HC3b : Hid (Cur x2 g ao n c _) := hcu
            have HG3b : Hid (GB g w x2) := hG3
            clear hO3 hcu hG3
            go_wp2
            go_ret
            have hO4 := own_put (w := x2) (l := l) (cap := lc) (g2 := g2) (base := w.heap.size) (by rw [HKK.out]; exact HO3.out) kk y
            exact ⟨l.set kk y, _, lc, by rw [List.length_set, HKK.out]; rfl, by rw [List.length_set, HKK.out]; omega, hO4, (cur_put HC3b.out HCL.out hgl hg2 kk _).mono (by omega), gb_put HG3b.out (Nat.le_refl _) hg2 kk _⟩

end Go.Proofs.YtjpegbodhpnflaaDoor
