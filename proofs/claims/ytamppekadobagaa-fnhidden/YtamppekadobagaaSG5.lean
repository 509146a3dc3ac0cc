/- Chapter 5: SecretFits, the specification's side. -/
import Derived.Test.YtamppekadobagaaSF5
namespace Go.Proofs.Ytamppekadobagaa
set_option linter.unusedVariables false
set_option linter.unusedSimpArgs false
open Go.RowKit

theorem rd_cells {w : World} {b o n : Nat} {l : List Int} (hx : l.length = n) (hc : ∀ j, j < n → w.cell? ⟨b, o + j, none⟩ = some (.int .i64 (l.getD j 0))) : ∀ j u, (cellsI l)[j]? = some u → w.cell? ((⟨b, o, none⟩ : Addr).add j) = some u := by
  intro j u hj
  have hjl : j < (cellsI l).length := (List.getElem?_eq_some_iff.1 hj).1
  rw [cellsI_length] at hjl
  rw [Go.WideShapes.add_plain, hc j (by omega), ← hj, getD_map_int l j hjl]

set_option maxHeartbeats 4000000 in
set_option maxRecDepth 1000000 in
theorem specFits_yes (b o n c : Nat) (fl : List (F × F)) (s : F) (w : World) (hx : fl.length = n) (hg : GoodP fl) (h7 : n ≤ 7) (hr : RdP w (some ⟨b, o, none⟩) (pIs fl)) :
    Calls Try.prog 32 #[.slice (some ⟨b, o, none⟩) n c, .int .i64 (vI s)] w fun e w' => e = .returned (.tuple #[.agg #[.int .i64 ((leastN (fsts (pIs fl)) : Int) + 1), .int .i64 (vI (fitF fl s (toF ((leastN (fsts (pIs fl)) : Int) + 1))))], .bool true]) ∧ Below w.heap.size w w' := by
  obtain ⟨i0, hi, hz0, hz1, hz2⟩ := info_parts Try.infoInt
  have n1 : 1 ≤ n := by have := hg.2.2.1; omega
  have HXP : Hid ((pIs fl).length = n) := by show _ = _; rw [pIs_length]; exact hx
  have HX : Hid (fl.length = n) := hx
  have HND : Hid (((0, s) :: fl).map Prod.fst).Nodup := fit_nodup hg.1 hg.2.1 s
  have hN := leastN_is (fsts (pIs fl))
  have hNle := leastN_le (fsts (pIs fl))
  rw [fsts_length, pIs_length, hx] at hNle
  obtain ⟨V, hV⟩ : ∃ V, w.alloc (.cells #[.int .i64 0, .int .i64 0] 46) = V := ⟨_, rfl⟩
  have HBV : Hid (Below w.heap.size w V) := by rw [← hV]; exact balloc _ _
  have c2V : Hid (C2 V w.heap.size 0 0) := by rw [← hV]; exact c2_new _ _ _ _ _ rfl
  have hVs : w.heap.size < V.heap.size := by rw [← hV]; simp
  have q1 := l5Parts_c (some ⟨b, o, none⟩) n c (pIs fl) V HXP.out (by omega) (hr.later HBV.out)
  rw [partsB_good hg] at q1
  have q2 := l5Field_c (vI s)
  have e2 : smallB (vI s) = true := by unfold smallB; rw [decide_eq_true_iff]; have := vI_mem s; omega
  rw [e2] at q2
  have HR : Hid (RdP w (some ⟨b, o, none⟩) (pIs fl)) := hr
  have HN : Hid (IsLeast (fsts (pIs fl)) (leastN (fsts (pIs fl)))) := hN
  have hn8 : ((n : Int) == 8) = false := by rw [beq_eq_false_iff_ne]; omega
  generalize leastN (fsts (pIs fl)) = m at *
  clear hx hr e2 hN hg
  go_enter Try.func32, Try.ntmps32
  go_wp2_with fail
  clear hV
  refine q1.mono ?_
  clear q1
  rintro e w1 ⟨rfl, hb⟩
  have HB1 : Hid (Below V.heap.size V w1) := hb
  clear hb
  go_wp2_with fail
  refine (q2 _).mono ?_
  clear q2
  rintro e w' ⟨rfl, hw⟩
  subst w'
  go_wp2_with fail
  refine (l5Split_c (some ⟨b, o, none⟩) n c (pIs fl) w1 HXP.out (by omega) ((HR.out.later HBV.out).later HB1.out)).mono ?_
  rintro e w2 ⟨a2, c2, a9, c9, rfl, ho, ho9, hb⟩
  have HB2 : Hid (Below V.heap.size V w2) := HB1.out.trans (hb.mono HB1.out.size)
  have HO2 : Hid (Own w2 w1.heap.size (.slice a2 n c2) (fsts (pIs fl))) := ho
  clear hb ho ho9 HB1
  go_wp2
  go_loop [8] (fun x => ∃ (j : Nat), x = .int .i64 ((j : Int) + 1) ∧ j ≤ m) (fun x => m + 1 - (intOf x).toNat)
  case atStart => exact ⟨0, rfl, Nat.zero_le _⟩
  case round =>
    obtain ⟨j, rfl, hj⟩ := hrel
    have qc := l1Has_c a2 n c2 ((j : Int) + 1) (fsts (pIs fl)) w2 HO2.out.rd'.1 (by omega) HO2.out.rd'.2
    rw [hasB_mem] at qc
    by_cases hjm : j < m
    · rw [decide_eq_true (HN.out.2 j hjm)] at qc
      go_wp2_with fail
      refine qc.mono ?_
      clear qc
      rintro e w' ⟨rfl, hw⟩
      subst w'
      go_wp2
      go_round
      case rel => exact ⟨j + 1, by go_num, by omega⟩
      case measure => simp [intOf]; omega
    · obtain rfl : j = m := by omega
      rw [decide_eq_false HN.out.1] at qc
      go_wp2_with fail
      refine qc.mono ?_
      clear qc
      rintro e w' ⟨rfl, hw⟩
      subst w'
      obtain ⟨bb, oo, e1, hcx⟩ := HO2.out.rd'.2.at HO2.out.rd'.1 (by omega)
      subst e1
      have hnews := rd_cells HO2.out.rd'.1 hcx
      have hown1 : (w2.alloc (.cells #[.int .i64 0] 3)).ownsRow V.heap.size 3 1 (.slice (some ⟨w2.heap.size, 0, none⟩) 1 1) 1 (cellsI [0]) := by
        refine ⟨rfl, .inr ⟨w2.heap.size, 1, _, rfl, HB2.out.size, World.alloc_heap_new w2 _, Nat.le_refl _, by unfold maxLen; omega, rfl, rfl⟩⟩
      have hob1 : ∀ k', (Value.slice (some ⟨w2.heap.size, 0, none⟩) 1 1).ownBlock = some k' → V.heap.size ≤ k' := fun k' e => by have := HB2.out.size; simp [Value.ownBlock] at e; omega
      have hfl : (fsts (pIs fl)).length = n := by rw [fsts_length]; exact HXP.out
      go_wp2_with (at_builtin; refine wpList_append_own _ rfl _ _ 23 rfl V.heap.size 3 i0 (.int .i64 0) 1 8 Try.underlying23 hi hz0 hz1 hz2 rfl (by decide) _ _ _ rfl hown1 ⟨bb, oo, none⟩ n c2 (cellsI (fsts (pIs fl))) rfl (by rw [cellsI_length, hfl, Nat.mul_one]) (fun j u h => calloc (hnews j u h)) (cellsI_oneCell _) (by unfold maxLen; omega) (by omega) (by have := HB2.out.size; simp; omega) ?_; intro v' w3 hown' hgrow _; have HO3 : Hid (Own w3 V.heap.size v' (0 :: fsts (pIs fl))) := (by show Own _ _ _ _; unfold Own; rw [List.length_cons, hfl, Nat.add_comm n 1]; exact hown'); have HB3 : Hid (Below V.heap.size V w3) := (HB2.out.alloc HB2.out.size _).grown hgrow (by have := HB2.out.size; simp; omega) (fun k' e => hob1 k' e); clear hown' hgrow hown1 hnews hcx hob1 hfl)
      obtain ⟨a3, c3, hv⟩ := HO3.out.shape
      rw [List.length_cons, fsts_length, HXP.out] at hv
      subst hv
      have hfs : (0 :: fsts (pIs fl)) = vIs (((0, s) :: fl).map Prod.fst) := by rw [fsts_pIs, List.map_cons]; rfl
      have hrd3 := HO3.out.rd'.2
      rw [hfs] at hrd3
      have hA := l5At_c a3 (n + 1) c3 (((0, s) :: fl).map Prod.fst) (toF ((j : Int) + 1)) w3 (by rw [List.length_map, List.length_cons, HX.out]) (by omega) (by omega) HND.out hrd3
      rw [vI_toF' (n := (j : Int) + 1) (by omega) (by omega)] at hA
      clear hrd3 hfs
      refine hA.mono ?_
      clear hA
      rintro e w4 ⟨a4, c4, rfl, ho4, hb⟩
      have HB4 : Hid (Below V.heap.size V w4) := HB3.out.trans (hb.mono HB3.out.size)
      obtain ⟨b4, o4, rfl, hc4⟩ := RdF ho4.rd'.2 (n := n + 1) (by rw [wts_length, List.length_map, List.length_cons, HX.out]) (by omega)
      have HC4 : Hid (∀ i, i < n + 1 → w4.cell? ⟨b4, o4 + i, none⟩ = some (.int .i64 (vI (wtF (((0, s) :: fl).map Prod.fst) (((0, s) :: fl).getD i (0, 0)).1 (toF ((j : Int) + 1)))))) := fun i hi' => by
        rw [hc4 i hi']
        have hi2 : i < ((0, s) :: fl).length := by rw [List.length_cons, HX.out]; exact hi'
        have : (wts (((0, s) :: fl).map Prod.fst) (toF ((j : Int) + 1))).getD i 0 = wtF (((0, s) :: fl).map Prod.fst) (((0, s) :: fl).getD i (0, 0)).1 (toF ((j : Int) + 1)) := by
          generalize (0, s) :: fl = gl at *
          simp [wts, List.getD, hi2]
        rw [this]
      obtain ⟨bb, oo, e1, hcx⟩ := ((HR.out.later HBV.out).later HB4.out).at HXP.out (by omega)
      cases e1
      have HCX : Hid (∀ i, i < n → w4.cell? ⟨b, o + i * 2 + 1, none⟩ = some (.int .i64 (vI (fl.getD i (0, 0)).2))) := fun i hi' => by
        have := (hcx i hi').2
        rw [pIs_getD fl i (by rw [HX.out]; exact hi')] at this
        exact this
      have HL : Hid (((0, s) :: fl).length = n + 1) := by show _ = _; rw [List.length_cons, HX.out]
      have c24 : Hid (C2 w4 w.heap.size 0 0) := c2V.out.keep HB4.out
      have lt4 : w.heap.size < w4.heap.size := Nat.lt_of_lt_of_le hVs HB4.out.size
      have HB6 : Hid (Below w.heap.size w w4) := HBV.out.trans (HB4.out.mono (Nat.le_of_lt hVs))
      have HG0 : Hid (((0, s) :: fl).getD 0 (0, 0) = (0, s)) := rfl
      have HGS : Hid (∀ i : Nat, ((0, s) :: fl).getD (i + 1) (0, 0) = fl.getD i (0, 0)) := fun i => rfl
      have HFT : Hid (fitF fl s (toF ((j : Int) + 1)) = thF ((0, s) :: fl) (toF ((j : Int) + 1))) := rfl
      clear hb ho4 hc4 hcx HB4 HB3 HO3 c2V
      generalize (0, s) :: fl = gl at *
      generalize hzz : toF ((j : Int) + 1) = z at *
      have HZ : Hid (toF ((j : Int) + 1) = z) := hzz
      clear hzz
      go_wp2
      go_loop [9, 45] (fun x i => ∃ (k : Nat), k ≤ n + 1 ∧ i = .int .i64 k ∧ x = .int .i64 (vI (sgF (gl.map Prod.fst) z (gl.take k)))) (fun _ i => n + 1 - (intOf i).toNat)
      case atStart => exact ⟨0, Nat.zero_le _, rfl, rfl⟩
      case round =>
        obtain ⟨k, hk, rfl, rfl⟩ := hrel
        by_cases hlt : k < n + 1
        · have g1 := HC4.out k hlt
          have hstep := sgF_step (xs := gl.map Prod.fst) (z := z) (fl := gl) (k := k) (by rw [HL.out]; exact hlt)
          have hfma := vI_fma (sgF (gl.map Prod.fst) z (gl.take k)) (wtF (gl.map Prod.fst) (gl.getD k (0, 0)).1 z) (gl.getD k (0, 0)).2
          rw [← hstep] at hfma
          have hpr := pr_lt (vI_mem (wtF (gl.map Prod.fst) (gl.getD k (0, 0)).1 z)) (vI_mem (gl.getD k (0, 0)).2)
          have hsm := vI_mem (sgF (gl.map Prod.fst) z (gl.take k))
          have HF : Hid ((vI (sgF (gl.map Prod.fst) z (gl.take k)) + vI (wtF (gl.map Prod.fst) (gl.getD k (0, 0)).1 z) * vI (gl.getD k (0, 0)).2) % 1499 = vI (sgF (gl.map Prod.fst) z (gl.take (k + 1)))) := hfma
          clear hstep hfma
          generalize vI (wtF (gl.map Prod.fst) (gl.getD k (0, 0)).1 z) = wt at *
          generalize vI (sgF (gl.map Prod.fst) z (gl.take k)) = sm at *
          by_cases hk0 : k = 0
          · subst hk0
            rw [HG0.out] at hpr HF
            rw [Nat.add_zero] at g1
            generalize vI s = y at *
            go_wp2
            go_round
            case rel => exact ⟨0 + 1, by omega, by go_num, by rw [← HF.out]⟩
            case measure => simp [intOf]
          · obtain ⟨i, rfl⟩ : ∃ i, k = i + 1 := ⟨k - 1, by omega⟩
            rw [HGS.out i] at hpr HF
            have g2 := HCX.out i (by omega)
            have hpos : (0 : Int) < ((i + 1 : Nat) : Int) := by omega
            have hidx : (((i + 1 : Nat) : Int) - 1) = (i : Int) := by omega
            generalize vI (fl.getD i (0, 0)).2 = y at *
            go_wp2
            go_round
            case rel => exact ⟨i + 1 + 1, by omega, by go_num, by rw [← HF.out]⟩
            case measure => simp [intOf]; omega
        · have HE : Hid (sgF (gl.map Prod.fst) z (gl.take k) = thF gl z) := by
            show _ = _
            have e : gl.take k = gl := List.take_of_length_le (by rw [HL.out]; omega)
            rw [e, sgF_all]
          obtain ⟨ta, tb, tc, td⟩ := c24.out
          go_wp2
          refine bodyPost_ret (v := .tuple #[.agg #[.int .i64 ((j : Int) + 1), .int .i64 (vI (sgF (gl.map Prod.fst) z (gl.take k)))], .bool true]) (by simp [results, Try.results32, go_sem, ta, tb]) rfl ?_
          exact ⟨by rw [HE.out, ← HFT.out, ← HZ.out], (HB6.out.setCell (Nat.le_refl _) _).setCell (Nat.le_refl _) _⟩

end Go.Proofs.Ytamppekadobagaa
