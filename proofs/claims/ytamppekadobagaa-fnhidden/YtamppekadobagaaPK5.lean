/- Chapter 5: PolyThrough, the specification's side. -/
import Derived.Test.YtamppekadobagaaPKP
namespace Go.Proofs.Ytamppekadobagaa
set_option linter.unusedVariables false
set_option linter.unusedSimpArgs false
open Go.RowKit

theorem takeK5 {P : Program} {ops : Array Oper} {Q : Exit → Act → World → Prop} {md : Region.Mode} {S : World → Prop} {i : Nat} {oi : Oper} {v : Value} {d : Option Tmp} {fuel : Nat} {listed : Array Bool} {a : Act} {w : World} (hi : ops[i]? = some oi) (hd : oi.dst = d)
    (hs : Region.noSelect ops = true) (hf : Region.free md ops listed i = true) (hr : (Region.ready md ops listed).contains i = true)
    (hQ : ∀ c a w, Q (.panic c) (a.put d v) w → Q (.panic c) a w) (hy : YieldsIf P ops S oi v a) (hS : S w)
    (h : wpAnyH P md ops Q S fuel (listed.setIfInBounds i true) (a.put d v) w) : wpAnyH P md ops Q S (fuel + 1) listed a w := by
  subst hd
  exact wpAnyH_take hi hs hf hr hQ hy hS h

theorem own_made {w w' : World} {g n : Nat} (h : w'.ownsRow w.heap.size 3 1 (.slice (some ⟨g, 0, none⟩) n n) n (madeCells (Value.int .i64 0).cells (n * 1)).toList) : Own w' w.heap.size (.slice (some ⟨g, 0, none⟩) n n) (vIs (List.replicate n 0)) := by
  have e : (madeCells (Value.int .i64 0).cells (n * 1)).toList = cellsI (vIs (List.replicate n 0)) := by
    rw [Nat.mul_one, vIs_zeros]
    exact (toList_madeCells_one _ _).trans (by simp [cellsI])
  unfold Own
  rw [vIs_length, List.length_replicate, ← e]
  exact h
theorem Own.at0 {w : World} {base g n c : Nat} {ps : List F} (h : Own w base (.slice (some ⟨g, 0, none⟩) n c) (vIs ps)) (hl : ps.length = n) : ∀ j, j < n → w.cell? ⟨g, j, none⟩ = some (.int .i64 (vI (ps.getD j 0))) ∧ w.frozen? ⟨g, j, none⟩ = false := fun j hj => by
  have hO : Own w base (.slice (some ⟨g, 0, none⟩) (vIs ps).length c) (vIs ps) := by rw [vIs_length, hl]; exact h
  have := hO.cell j (by rw [vIs_length, hl]; exact hj)
  rw [vIs_getD ps j (by omega)] at this
  exact ⟨this, hO.free j⟩
theorem Own.set0 {w : World} {base g n c : Nat} {ps : List F} (h : Own w base (.slice (some ⟨g, 0, none⟩) n c) (vIs ps)) (hl : ps.length = n) (j : Nat) (x : F) : Own (w.setCell ⟨g, j, none⟩ (.int .i64 (vI x))) base (.slice (some ⟨g, 0, none⟩) n c) (vIs (ps.set j x)) := by
  have hO : w.ownsRow base 3 1 (.slice (some ⟨g, 0, none⟩) n c) n (cellsI (vIs ps)) := by
    have := h; unfold Own at this; rw [vIs_length, hl] at this; exact this
  have := (World.ownsRow.stored hO j (.int .i64 (vI x))).1
  rw [cellsI_set, vIs_set] at this
  unfold Own
  rw [vIs_length, List.length_set, hl]
  exact this

set_option maxHeartbeats 16000000 in
set_option maxRecDepth 1000000 in
theorem specPoly_yes (b o n c : Nat) (fl : List (F × F)) (w : World) (hx : fl.length = n) (hg : GoodP fl) (hr : RdP w (some ⟨b, o, none⟩) (pIs fl)) :
    Calls Try.prog 36 #[.slice (some ⟨b, o, none⟩) n c] w fun e w' => ∃ a' c', e = .returned (.tuple #[.slice a' n c', .bool true]) ∧ Own w' w.heap.size (.slice a' n c') (vIs (polyF fl)) ∧ Below w.heap.size w w' := by
  obtain ⟨i0, hi, hz0, hz1, hz2⟩ := info_parts Try.infoInt
  have n1 : 1 ≤ n := by have := hg.2.2.1; omega
  have n8 : n ≤ 8 := by have := hg.2.2.2; omega
  have HXP : Hid ((pIs fl).length = n) := by show _ = _; rw [pIs_length]; exact hx
  have HX : Hid (fl.length = n) := hx
  have HR : Hid (RdP w (some ⟨b, o, none⟩) (pIs fl)) := hr
  have HND : Hid (fl.map Prod.fst).Nodup := hg.1
  have q1 := l5Parts_c (some ⟨b, o, none⟩) n c (pIs fl) w HXP.out (by omega) hr
  rw [partsB_good hg] at q1
  obtain ⟨fs, hfs⟩ : ∃ fs, fs = fl.map Prod.fst := ⟨_, rfl⟩
  have HFS : Hid (fs = fl.map Prod.fst) := hfs
  have HFL : Hid (fs.length = n) := by show _ = _; rw [hfs, List.length_map]; exact hx
  have HFA : Hid (∀ j, j < n → fs.getD j 0 = (fl.getD j (0, 0)).1) := fun j hj => by
    have : j < fl.length := by omega
    rw [hfs]; simp [List.getD, this]
  have HFN : Hid fs.Nodup := by rw [hfs]; exact HND.out
  clear hx hr hg hfs
  go_enter Try.func36, Try.ntmps36
  go_wp2_with fail
  refine q1.mono ?_
  clear q1
  rintro e w1 ⟨rfl, hb⟩
  have HB1 : Hid (Below w.heap.size w w1) := hb
  clear hb
  go_wp2_with fail
  refine (l5Split_c (some ⟨b, o, none⟩) n c (pIs fl) w1 HXP.out (by omega) (HR.out.later HB1.out)).mono ?_
  rintro e W ⟨a1, c1, a2, c2, rfl, ho1, ho2, hb⟩
  have HBW : Hid (Below w.heap.size w W) := HB1.out.trans (hb.mono HB1.out.size)
  rw [fsts_pIs, ← HFS.out] at ho1
  rw [snds_pIs] at ho2
  obtain ⟨b1, o1, rfl, hc1⟩ := RdF ho1.rd'.2 HFL.out (by omega)
  obtain ⟨b2, o2, rfl, hc2⟩ := RdF ho2.rd'.2 (n := n) (by rw [List.length_map]; exact HX.out) (by omega)
  have HC1 : Hid (∀ j, j < n → W.cell? ⟨b1, o1 + j, none⟩ = some (.int .i64 (vI (fs.getD j 0)))) := hc1
  have HC2 : Hid (∀ j, j < n → W.cell? ⟨b2, o2 + j, none⟩ = some (.int .i64 (vI (fl.getD j (0, 0)).2))) := fun j hj => by
    rw [hc2 j hj]
    have : j < fl.length := by rw [HX.out]; exact hj
    simp [List.getD, this]
  have HL1 : Hid (b1 < W.heap.size) := World.block_lt_of_cell? W _ (hc1 0 (by omega))
  have HL2 : Hid (b2 < W.heap.size) := World.block_lt_of_cell? W _ (hc2 0 (by omega))
  clear hb ho1 ho2 hc1 hc2 HB1
  go_wp2_with (at_make; refine wpList_make_full _ rfl _ _ 23 rfl W.heap.size 3 i0 (.int .i64 0) 1 Try.underlying23 hi hz0 hz1 _ _ _ _ n rfl rfl rfl rfl (by rw [hz2]; omega) (by unfold maxLen; omega) (Nat.le_refl _) ?_; intro w0 hown0 hgrow0; have HO0 : Hid (Own w0 W.heap.size (.slice (some ⟨W.heap.size, 0, none⟩) n n) (vIs (lagF fs (fl.take 0) (List.replicate n 0)))) := own_made hown0; have HB0 : Hid (Below W.heap.size W w0) := (Below.refl _ _).grown hgrow0 (Nat.le_refl _) (fun k h => by cases h); clear hown0 hgrow0)
  go_loopw [31] (fun i wr => ∃ (k : Nat), k ≤ n ∧ i = .int .i64 k ∧ Hid (Own wr W.heap.size (.slice (some ⟨W.heap.size, 0, none⟩) n n) (vIs (lagF fs (fl.take k) (List.replicate n 0)))) ∧ Hid (Below W.heap.size W wr)) (fun i _ => n - (intOf i).toNat)
  case atStart => exact ⟨0, Nat.zero_le _, rfl, HO0, HB0⟩
  case round =>
    clear HO0 HB0
    obtain ⟨k, hk, rfl, hO, hB⟩ := hrel
    by_cases hlt : k < n
    · obtain ⟨Y, rfl⟩ : ∃ Y, Y = wr := ⟨_, rfl⟩
      have HCY : Hid (∀ j, j < n → Y.cell? ⟨b1, o1 + j, none⟩ = some (.int .i64 (vI (fs.getD j 0)))) := fun j hj => by rw [hB.out.cell (p := ⟨b1, o1 + j, none⟩) HL1.out]; exact HC1.out j hj
      have g1 := HCY.out k hlt
      have hsY : W.heap.size < Y.heap.size := by
        rcases hO.out.form with ⟨h1, _⟩ | ⟨g', c', h1, _, h2, _⟩
        · simp at h1
        · simp only [Value.slice.injEq, Option.some.injEq, Addr.mk.injEq, and_true] at h1
          rw [h1.1]; exact h2
      have HPL : Hid (∀ j, j < n → (fs.getD j 0 = fs.getD k 0 ↔ j = k)) := fun j hj => nodup_getD HFN.out (by rw [HFL.out]; exact hlt) (by rw [HFL.out]; exact hj)
      have HFK : Hid (fs.getD k 0 = (fl.getD k (0, 0)).1) := HFA.out k hlt
      have HLT : Hid (lagF fs (fl.take (k + 1)) (List.replicate n 0) = lagStep fs (lagF fs (fl.take k) (List.replicate n 0)) (fl.getD k (0, 0))) := lagF_take (by rw [HX.out]; exact hlt)
      have hLL : (lagF fs (fl.take k) (List.replicate n 0)).length = n := by
        rw [lagF_length HFN.out _ _ (fun p hp => by rw [HFS.out]; exact List.mem_map_of_mem (List.mem_of_mem_take hp)) (by simp [HFL.out]), HFL.out]
      have HLL : Hid ((lagF fs (fl.take k) (List.replicate n 0)).length = n) := hLL
      have HMEM : Hid (fs.getD k 0 ∈ fs) := by
        have h : k < fs.length := by rw [HFL.out]; exact hlt
        simp only [List.getD, List.getElem?_eq_getElem h, Option.getD_some]; exact List.getElem_mem _
      have hLB : Hid ((basF (fs.getD k 0) fs [1]).length = n) := by show _ = _; rw [basF_len HFN.out HMEM.out, HFL.out]
      generalize lagF fs (fl.take k) (List.replicate n 0) = acc at *
      generalize hpl : fs.getD k 0 = pl at *
      clear hLL hpl
      have hone : (Y.alloc (.cells #[.int .i64 1] 3)).ownsRow Y.heap.size 3 1 (.slice (some ⟨Y.heap.size, 0, none⟩) 1 1) 1 (cellsI (vIs (basF pl (fs.take 0) [1]))) := by
        refine ⟨rfl, .inr ⟨Y.heap.size, 1, _, rfl, Nat.le_refl _, World.alloc_heap_new Y _, Nat.le_refl _, by unfold maxLen; omega, rfl, rfl⟩⟩
      have HP0 : Hid (Own (Y.alloc (.cells #[.int .i64 1] 3)) Y.heap.size (.slice (some ⟨Y.heap.size, 0, none⟩) 1 1) (vIs (basF pl (fs.take 0) [1]))) := hone
      clear hone
      go_wp2
      go_loopw [9, 10, 39] (fun v d i wr => ∃ (g q cp j : Nat) (D : F), v = .slice (some ⟨g, 0, none⟩) q cp ∧ d = .int .i64 (vI D) ∧ i = .int .i64 j ∧ j ≤ n ∧ q ≤ j + 1 ∧ Hid ((basF pl (fs.take j) [1]).length = q) ∧ Hid (D = upF pl pl 1 (fs.take j)) ∧ Hid (Own wr Y.heap.size v (vIs (basF pl (fs.take j) [1]))) ∧ Hid (Below Y.heap.size Y wr)) (fun _ _ i _ => n - (intOf i).toNat)
      case atStart => exact ⟨Y.heap.size, 1, 1, 0, 1, rfl, rfl, rfl, Nat.zero_le _, by omega, rfl, rfl, HP0, balloc _ _⟩
      case round =>
        clear HP0
        obtain ⟨g, q, cp, j, D, rfl, rfl, rfl, hj, hqj, hql, hD, hP, hBY⟩ := hrel
        by_cases hlj : j < n
        · have g2 : wr.cell? ⟨b1, o1 + j, none⟩ = some (.int .i64 (vI (fs.getD j 0))) := by
            have hb : b1 < Y.heap.size := Nat.lt_trans HL1.out hsY
            rw [hBY.out.cell (p := ⟨b1, o1 + j, none⟩) hb]; exact HCY.out j hlj
          have hjk := HPL.out j hlj
          have HBT : Hid (basF pl (fs.take (j + 1)) [1] = if fs.getD j 0 = pl then basF pl (fs.take j) [1] else mulF (fs.getD j 0) (basF pl (fs.take j) [1])) := basF_take (by rw [HFL.out]; exact hlj)
          have HDT : Hid (upF pl pl 1 (fs.take (j + 1)) = if fs.getD j 0 = pl then D else D * (fs.getD j 0 - pl)) := by show _ = _; rw [upF_step (by rw [HFL.out]; exact hlj), ← hD.out]
          generalize fs.getD j 0 = t at *
          by_cases he : t = pl
          · have hjk' : j = k := hjk.1 he
            subst hjk'
            have hqq : ((j : Int) == (j : Int)) = true := by simp
            have hPN : Hid (Own wr Y.heap.size (.slice (some ⟨g, 0, none⟩) q cp) (vIs (basF pl (fs.take (j + 1)) [1]))) := by show Own _ _ _ _; rw [HBT.out, if_pos he]; exact hP.out
            have hqN : Hid ((basF pl (fs.take (j + 1)) [1]).length = q) := by show _ = _; rw [HBT.out, if_pos he]; exact hql.out
            have hDN : Hid (D = upF pl pl 1 (fs.take (j + 1))) := by show _ = _; rw [HDT.out, if_pos he]
            clear he hjk HBT HDT hP hql hD
            go_wp2
            go_roundw
            case rel => exact ⟨g, q, cp, j + 1, D, rfl, rfl, by go_num, by omega, by omega, hqN, hDN, hPN, hBY⟩
            case measure => simp [intOf]; omega
          · have hqq : ((j : Int) == (k : Int)) = false := by rw [beq_eq_false_iff_ne]; intro e; exact he (hjk.2 (by omega))
            rw [if_neg he] at HBT HDT
            obtain ⟨Z, rfl⟩ : ∃ Z, Z = wr := ⟨_, rfl⟩
            have HPP : Hid (Own Z Y.heap.size (.slice (some ⟨g, 0, none⟩) q cp) (vIs (basF pl (fs.take j) [1]))) := hP
            generalize basF pl (fs.take j) [1] = P at *
            have HCP : Hid (∀ i, i < q → Z.cell? ⟨g, i, none⟩ = some (.int .i64 (vI (P.getD i 0)))) := fun i hi' => (HPP.out.at0 hql.out i hi').1
            have HGL : Hid (q ≠ 0 → g < Z.heap.size) := fun h0 => World.block_lt_of_cell? Z _ (HCP.out 0 (by omega))
            have hq9 : q ≤ 9 := by omega
            clear he hjk hP hD
            go_wp2_with (at_make; refine wpList_make_full _ rfl _ _ 23 rfl Z.heap.size 3 i0 (.int .i64 0) 1 Try.underlying23 hi hz0 hz1 _ _ _ _ (q + 1) rfl rfl (by omega) (by omega) (by rw [hz2]; omega) (by unfold maxLen; omega) (Nat.le_refl _) ?_; intro w0 hown0 hgrow0; have HN0 : Hid (Own w0 Z.heap.size (.slice (some ⟨Z.heap.size, 0, none⟩) (q + 1) (q + 1)) (vIs (nxt t P 0))) := (by show Own _ _ _ _; rw [nxt_zero, hql.out]; exact own_made hown0); have HBZ : Hid (Below Z.heap.size Z w0) := (Below.refl _ _).grown hgrow0 (Nat.le_refl _) (fun k h => by cases h); clear hown0 hgrow0)
            have hPL : P.length = q := hql.out
            have HPL2 : Hid (P.length = q) := hPL
            clear hPL hql
            go_loopw [53] (fun i wr => ∃ (m : Nat), m ≤ q ∧ i = .int .i64 m ∧ Hid (Own wr Z.heap.size (.slice (some ⟨Z.heap.size, 0, none⟩) (q + 1) (q + 1)) (vIs (nxt t P m))) ∧ Hid (Below Z.heap.size Z wr)) (fun i _ => q - (intOf i).toNat)
            case atStart => exact ⟨0, Nat.zero_le _, rfl, HN0, HBZ⟩
            case round =>
              clear HN0 HBZ
              obtain ⟨m, hm, rfl, hN, hBZ⟩ := hrel
              by_cases hlm : m < q
              · have hgz : g < Z.heap.size := HGL.out (by omega)
                have g3 : wr.cell? ⟨g, m, none⟩ = some (.int .i64 (vI (P.getD m 0))) := by rw [hBZ.out.cell (p := ⟨g, m, none⟩) hgz]; exact HCP.out m hlm
                have hnl : (nxt t P m).length = q + 1 := by rw [nxt_length, HPL2.out]
                obtain ⟨g4, g5⟩ := hN.out.at0 hnl m (by omega)
                obtain ⟨g6, g7⟩ := hN.out.at0 hnl (m + 1) (by omega)
                have HST : Hid (Own ((wr.setCell ⟨Z.heap.size, m, none⟩ (.int .i64 (vI ((nxt t P m).getD m 0 + P.getD m 0 * t)))).setCell ⟨Z.heap.size, m + 1, none⟩ (.int .i64 (vI ((nxt t P m).getD (m + 1) 0 - P.getD m 0)))) Z.heap.size (.slice (some ⟨Z.heap.size, 0, none⟩) (q + 1) (q + 1)) (vIs (nxt t P (m + 1)))) := by
                  show Own _ _ _ _
                  rw [← nxt_step t P (by rw [HPL2.out]; exact hlm)]
                  exact (hN.out.set0 hnl m _).set0 (by rw [List.length_set]; exact hnl) (m + 1) _
                have c1 := l5Mod_c (vI ((nxt t P m).getD m 0) + vI (P.getD m 0) * vI t)
                rw [toF_fma] at c1
                have c2' := l5Mod_c (vI ((nxt t P m).getD (m + 1) 0) - vI (P.getD m 0))
                rw [toF_sub] at c2'
                have hpr := pr_lt (vI_mem (P.getD m 0)) (vI_mem t)
                have hA := vI_mem ((nxt t P m).getD m 0)
                have hBb := vI_mem ((nxt t P m).getD (m + 1) 0)
                have hC := vI_mem (P.getD m 0)
                generalize vI ((nxt t P m).getD m 0 + P.getD m 0 * t) = r1 at *
                generalize vI ((nxt t P m).getD (m + 1) 0 - P.getD m 0) = r2 at *
                generalize vI ((nxt t P m).getD m 0) = A at *
                generalize vI ((nxt t P m).getD (m + 1) 0) = Bb at *
                generalize vI (P.getD m 0) = C at *
                have m0 : (0 : Int) ≤ (m : Int) := by omega
                have m1 : (m : Int) < ((q + 1 : Nat) : Int) := by omega
                have m2 : (0 : Int) ≤ (m : Int) + 1 := by omega
                have m3 : (m : Int) + 1 < ((q + 1 : Nat) : Int) := by omega
                clear hnl hN
                go_wp2_with fail
                refine (c1 _ (by omega) (by omega)).mono ?_
                clear c1
                rintro e w' ⟨rfl, hw⟩
                subst w'
                go_wp2_with fail
                refine (c2' _ (by omega) (by omega)).mono ?_
                clear c2'
                rintro e w' ⟨rfl, hw⟩
                subst w'
                go_wp2
                go_roundw
                case rel => exact ⟨m + 1, by omega, by go_num, HST, (hBZ.out.setCell (Nat.le_refl _) _).setCell (Nat.le_refl _) _⟩
                case measure => simp [intOf]; omega
              · obtain rfl : m = q := by omega
                have HNN : Hid (Own wr Z.heap.size (.slice (some ⟨Z.heap.size, 0, none⟩) (m + 1) (m + 1)) (vIs (basF pl (fs.take (j + 1)) [1]))) := by
                  show Own _ _ _ _
                  have h := hN.out
                  rw [show nxt t P m = mulF t P by rw [← nxt_all, HPL2.out], ← HBT.out] at h
                  exact h
                have hqN : Hid ((basF pl (fs.take (j + 1)) [1]).length = m + 1) := by show _ = _; rw [HBT.out, mulF_length, HPL2.out]
                have hDN : Hid (D * (t - pl) = upF pl pl 1 (fs.take (j + 1))) := HDT.out.symm
                have HBN : Hid (Below Y.heap.size Y wr) := hBY.out.trans (hBZ.out.mono hBY.out.size)
                have c1 := l5Mod_c (vI t - vI pl)
                rw [toF_sub] at c1
                have ht := vI_mem t
                have hp' := vI_mem pl
                have hmul := vI_mul D (t - pl)
                have hpr := pr_lt (vI_mem D) (vI_mem (t - pl))
                have HM : Hid (vI D * vI (t - pl) % 1499 = vI (D * (t - pl))) := hmul
                clear hmul hN hlm
                generalize vI (t - pl) = r1 at *
                go_wp2_with fail
                refine (c1 _ (by omega) (by omega)).mono ?_
                clear c1
                rintro e w' ⟨rfl, hw⟩
                subst w'
                go_wp2
                go_roundw
                case rel => exact ⟨Z.heap.size, m + 1, m + 1, j + 1, D * (t - pl), rfl, by rw [← HM.out], by go_num, by omega, by omega, hqN, hDN, HNN.out.mono hBY.out.size, HBN⟩
                case measure => simp [intOf]; omega
        · obtain rfl : j = n := by omega
          have hta : fs.take j = fs := List.take_of_length_le (by rw [HFL.out]; exact Nat.le_refl _)
          rw [hta] at hql hD hP
          have hqn : q = j := by have h := hql.out; rw [hLB.out] at h; exact h.symm
          subst hqn
          obtain ⟨Z, rfl⟩ : ∃ Z, Z = wr := ⟨_, rfl⟩
          have HDD : Hid (D = prF pl pl fs) := by show _ = _; rw [hD.out, upF_all]
          generalize hPP : basF pl fs [1] = P at *
          have HPB : Hid (basF pl fs [1] = P) := hPP
          clear hPP hta
          have HOZ : Hid (Own Z W.heap.size (.slice (some ⟨W.heap.size, 0, none⟩) q q) (vIs acc)) := hO.out.later hBY.out
          have HBZ : Hid (Below W.heap.size W Z) := hB.out.trans (hBY.out.mono (Nat.le_of_lt hsY))
          obtain ⟨y, hy⟩ : ∃ y, y = (fl.getD k (0, 0)).2 := ⟨_, rfl⟩
          have HYY : Hid (y = (fl.getD k (0, 0)).2) := hy
          have HCY2 : Hid (W.cell? ⟨b2, o2 + k, none⟩ = some (.int .i64 (vI y))) := by show _ = _; rw [hy]; exact HC2.out k hlt
          obtain ⟨Q, hQ⟩ : ∃ Q, Q = P.map (fun c => c * y * finv D) := ⟨_, rfl⟩
          have HQA : Hid (∀ m, m < q → Q.getD m 0 = P.getD m 0 * y * finv D) := fun m hm => by
            have : m < P.length := by rw [hql.out]; exact hm
            rw [hQ]; simp [List.getD, this]
          have HQQ : Hid (Q = P.map (fun c => c * y * finv D)) := hQ
          have HOA : Hid (Own Z W.heap.size (.slice (some ⟨W.heap.size, 0, none⟩) q q) (vIs (accF acc Q 0))) := by show Own _ _ _ _; rw [accF_zero]; exact HOZ.out
          have hgY : Y.heap.size ≤ g := by
            rcases hP.out.form with ⟨h1, _⟩ | ⟨g', c', h1, h2, _⟩
            · simp at h1
            · simp only [Value.slice.injEq, Option.some.injEq, Addr.mk.injEq, and_true] at h1
              rw [h1.1]; exact h2
          clear hy hQ hlj hD hO hB HOZ
          go_wp2
          go_loopw [94] (fun i wr => ∃ (m : Nat), m ≤ q ∧ i = .int .i64 m ∧ Hid (Own wr W.heap.size (.slice (some ⟨W.heap.size, 0, none⟩) q q) (vIs (accF acc Q m))) ∧ Hid (Own wr Y.heap.size (.slice (some ⟨g, 0, none⟩) q cp) (vIs P)) ∧ Hid (Below W.heap.size W wr)) (fun i _ => q - (intOf i).toNat)
          case atStart => exact ⟨0, Nat.zero_le _, rfl, HOA, hP, HBZ⟩
          case round =>
            clear HOA hP HBZ
            obtain ⟨m, hm, rfl, hA, hP, hBW⟩ := hrel
            by_cases hlm : m < q
            · obtain ⟨g3, _⟩ := hP.out.at0 hql.out m hlm
              have hacl : (accF acc Q m).length = q := by rw [accF_length, HLL.out]
              obtain ⟨g4, g5⟩ := hA.out.at0 hacl m hlm
              rw [accF_at acc Q (by rw [HLL.out]; exact hlm)] at g4
              have g6 : wr.cell? ⟨b2, o2 + k, none⟩ = some (.int .i64 (vI y)) := by rw [hBW.out.cell (p := ⟨b2, o2 + k, none⟩) HL2.out]; exact HCY2.out
              have HSET : Hid (∀ (X : World), Own X W.heap.size (.slice (some ⟨W.heap.size, 0, none⟩) q q) (vIs (accF acc Q m)) → Own (X.setCell ⟨W.heap.size, m, none⟩ (.int .i64 (vI (acc.getD m 0 + P.getD m 0 * y * finv D)))) W.heap.size (.slice (some ⟨W.heap.size, 0, none⟩) q q) (vIs (accF acc Q (m + 1)))) := fun X hX => by
                rw [← accF_step acc Q (by rw [HLL.out]; exact hlm), HQA.out m hlm]
                exact hX.set0 hacl m _
              have haw := acc_wrap (acc.getD m 0) (P.getD m 0) y (finv D)
              have c3 := l5Inverse_c D
              have HK : Hid (∀ (X : World) (u : Value), X.cell? ⟨b2, o2 + k, none⟩ = some (.int .i64 (vI y)) → (X.setCell ⟨W.heap.size, m, none⟩ u).cell? ⟨b2, o2 + k, none⟩ = some (.int .i64 (vI y))) := fun X u h => by
                have hne : W.heap.size ≠ b2 := by have := HL2.out; omega
                rw [World.cell?_setCell_other _ _ _ _ (by simp [hne])]; exact h
              have HPK : Hid (∀ (X : World) (u : Value), Own X Y.heap.size (.slice (some ⟨g, 0, none⟩) q cp) (vIs P) → Own (X.setCell ⟨W.heap.size, m, none⟩ u) Y.heap.size (.slice (some ⟨g, 0, none⟩) q cp) (vIs P)) := fun X u h =>
                Own.kept h (grown_set X W.heap.size m u) (Or.inr fun e => by have e' : g = W.heap.size := Option.some.inj e; omega)
              generalize vI (acc.getD m 0 + P.getD m 0 * y * finv D) = r at *
              generalize vI (acc.getD m 0) = A at *
              generalize vI (P.getD m 0) = C at *
              generalize vI (finv D) = fd at *
              generalize vI y = yy at *
              have HAW : Hid ((wrap64 (A + wrap64 ((wrap64 (C * yy)).tmod 1499 * fd))).tmod 1499 = r) := by show _ = _; rw [← haw]; simp only [IntKind.wrap_i64, wrap64]
              have m0 : (0 : Int) ≤ (m : Int) := by omega
              have m1 : (m : Int) < (q : Int) := by omega
              have k0 : (0 : Int) ≤ (k : Int) := by omega
              have k1 : (k : Int) < (q : Int) := by omega
              clear haw hacl
              go_wp2_with fail
              refine wp_region_held_drew (S := (fun w' => w'.cell? ⟨b2, o2 + k, none⟩ = some (.int .i64 yy))) (by kernel_rfl) ?_ (fun hHeld => ?_)
              · exact g6
              refine takeK5 (i := 0) (oi := _) (v := ?_) (d := some 99) rfl (by kernel_rfl) (by kernel_rfl) (by kernel_rfl) (by kernel_rfl) (fun _ _ _ h => h) (Or.inl ⟨by rfl, ?_⟩) (by assumption) ?_
              rotate_left
              · (intro w hSw; (try dsimp only at hSw); go_simp <;> with_reducible rfl)
              try simp only [Act.put, List.setIfInBounds_toArray, List.set_cons_zero, List.set_cons_succ]
              refine takeK5 (i := 1) (oi := _) (v := ?_) (d := some 100) rfl (by kernel_rfl) (by kernel_rfl) (by kernel_rfl) (by kernel_rfl) (fun _ _ _ h => h) (Or.inl ⟨by rfl, ?_⟩) (by assumption) ?_
              rotate_left
              · (intro w hSw; (try dsimp only at hSw); go_simp <;> with_reducible rfl)
              try simp only [Act.put, List.setIfInBounds_toArray, List.set_cons_zero, List.set_cons_succ]
              refine takeK5 (i := 2) (oi := _) (v := ?_) (d := some 101) rfl (by kernel_rfl) (by kernel_rfl) (by kernel_rfl) (by kernel_rfl) (fun _ _ _ h => h) (Or.inl ⟨by rfl, ?_⟩) (by assumption) ?_
              rotate_left
              · (intro w hSw; (try dsimp only at hSw); go_simp <;> with_reducible rfl)
              try simp only [Act.put, List.setIfInBounds_toArray, List.set_cons_zero, List.set_cons_succ]
              refine takeK5 (i := 3) (oi := _) (v := ?_) (d := some 102) rfl (by kernel_rfl) (by kernel_rfl) (by kernel_rfl) (by kernel_rfl) (fun _ _ _ h => h) (Or.inl ⟨by rfl, ?_⟩) (by assumption) ?_
              rotate_left
              · (intro w hSw; (try dsimp only at hSw); go_simp <;> with_reducible rfl)
              try simp only [Act.put, List.setIfInBounds_toArray, List.set_cons_zero, List.set_cons_succ]
              refine takeK5 (i := 4) (oi := _) (v := ?_) (d := some 103) rfl (by kernel_rfl) (by kernel_rfl) (by kernel_rfl) (by kernel_rfl) (fun _ _ _ h => h) (Or.inl ⟨by rfl, ?_⟩) (by assumption) ?_
              rotate_left
              · (intro w hSw; (try dsimp only at hSw); go_simp <;> with_reducible rfl)
              try simp only [Act.put, List.setIfInBounds_toArray, List.set_cons_zero, List.set_cons_succ]
              refine takeK5 (i := 6) (oi := _) (v := ?_) (d := some 105) rfl (by kernel_rfl) (by kernel_rfl) (by kernel_rfl) (by kernel_rfl) (fun _ _ _ h => h) (Or.inl ⟨by rfl, ?_⟩) (by assumption) ?_
              rotate_left
              · (intro w hSw; (try dsimp only at hSw); go_simp <;> with_reducible rfl)
              try simp only [Act.put, List.setIfInBounds_toArray, List.set_cons_zero, List.set_cons_succ]
              refine takeK5 (i := 7) (oi := _) (v := ?_) (d := some 106) rfl (by kernel_rfl) (by kernel_rfl) (by kernel_rfl) (by kernel_rfl) (fun _ _ _ h => h) (Or.inl ⟨by rfl, ?_⟩) (by assumption) ?_
              rotate_left
              · (intro w hSw; (try dsimp only at hSw); go_simp <;> with_reducible rfl)
              try simp only [Act.put, List.setIfInBounds_toArray, List.set_cons_zero, List.set_cons_succ]
              refine takeK5 (i := 8) (oi := _) (v := ?_) (d := some 107) rfl (by kernel_rfl) (by kernel_rfl) (by kernel_rfl) (by kernel_rfl) (fun _ _ _ h => h) (Or.inl ⟨by rfl, ?_⟩) (by assumption) ?_
              rotate_left
              · (intro w hSw; (try dsimp only at hSw); go_simp <;> with_reducible rfl)
              try simp only [Act.put, List.setIfInBounds_toArray, List.set_cons_zero, List.set_cons_succ]
              refine takeK5 (i := 9) (oi := _) (v := ?_) (d := some 108) rfl (by kernel_rfl) (by kernel_rfl) (by kernel_rfl) (by kernel_rfl) (fun _ _ _ h => h) (Or.inl ⟨by rfl, ?_⟩) (by assumption) ?_
              rotate_left
              · (intro w hSw; (try dsimp only at hSw); go_simp <;> with_reducible rfl)
              try simp only [Act.put, List.setIfInBounds_toArray, List.set_cons_zero, List.set_cons_succ]
              refine takeK5 (i := 10) (oi := _) (v := ?_) (d := some 109) rfl (by kernel_rfl) (by kernel_rfl) (by kernel_rfl) (by kernel_rfl) (fun _ _ _ h => h) (Or.inl ⟨by rfl, ?_⟩) (by assumption) ?_
              rotate_left
              · (intro w hSw; (try dsimp only at hSw); go_simp <;> with_reducible rfl)
              try simp only [Act.put, List.setIfInBounds_toArray, List.set_cons_zero, List.set_cons_succ]
              refine takeK5 (i := 11) (oi := _) (v := ?_) (d := some 110) rfl (by kernel_rfl) (by kernel_rfl) (by kernel_rfl) (by kernel_rfl) (fun _ _ _ h => h) (Or.inl ⟨by rfl, ?_⟩) (by assumption) ?_
              rotate_left
              · (intro w hSw; (try dsimp only at hSw); go_simp <;> with_reducible rfl)
              try simp only [Act.put, List.setIfInBounds_toArray, List.set_cons_zero, List.set_cons_succ]
              refine takeK5 (i := 12) (oi := _) (v := ?_) (d := some 111) rfl (by kernel_rfl) (by kernel_rfl) (by kernel_rfl) (by kernel_rfl) (fun _ _ _ h => h) (Or.inl ⟨by rfl, ?_⟩) (by assumption) ?_
              rotate_left
              · (intro w hSw; (try dsimp only at hSw); go_simp <;> with_reducible rfl)
              try simp only [Act.put, List.setIfInBounds_toArray, List.set_cons_zero, List.set_cons_succ]
              refine takeK5 (i := 13) (oi := _) (v := ?_) (d := some 112) rfl (by kernel_rfl) (by kernel_rfl) (by kernel_rfl) (by kernel_rfl) (fun _ _ _ h => h) (Or.inl ⟨by rfl, ?_⟩) (by assumption) ?_
              rotate_left
              · (intro w hSw; (try dsimp only at hSw); go_simp <;> with_reducible rfl)
              try simp only [Act.put, List.setIfInBounds_toArray, List.set_cons_zero, List.set_cons_succ]
              refine wpAnyH_ready (rs := [5, 14]) (by kernel_rfl) (by simp) ?_
              refine AllReadyH.cons (o := _) rfl (fun K hK => ?_) (AllReadyH.cons (o := _) rfl (fun K hK => ?_) AllReadyH.nil)
              · skip
                go_simp
                refine hK.out _ _ ?_ (fun hHeld => ?_)
                · exact hHeld
                clear hK K
                try simp only [Act.put, List.setIfInBounds_toArray, List.set_cons_zero, List.set_cons_succ]
                refine wpAnyH_ready (rs := [14]) (by kernel_rfl) (by simp) ?_
                refine AllReadyH.cons (o := _) rfl (fun K hK => ?_) AllReadyH.nil
                go_simp
                refine (c3 _).mono ?_
                rintro e w' ⟨rfl, hw⟩
                subst w'
                refine hK.out _ _ ?_ (fun hHeld => ?_)
                · exact hHeld
                clear hK K
                try simp only [Act.put, List.setIfInBounds_toArray, List.set_cons_zero, List.set_cons_succ]
                refine takeK5 (i := 15) (oi := _) (v := ?_) (d := some 114) rfl (by kernel_rfl) (by kernel_rfl) (by kernel_rfl) (by kernel_rfl) (fun _ _ _ h => h) (Or.inl ⟨by rfl, ?_⟩) (by assumption) ?_
                rotate_left
                · (intro w hSw; (try dsimp only at hSw); go_simp <;> with_reducible rfl)
                try simp only [Act.put, List.setIfInBounds_toArray, List.set_cons_zero, List.set_cons_succ]
                refine takeK5 (i := 16) (oi := _) (v := ?_) (d := some 115) rfl (by kernel_rfl) (by kernel_rfl) (by kernel_rfl) (by kernel_rfl) (fun _ _ _ h => h) (Or.inl ⟨by rfl, ?_⟩) (by assumption) ?_
                rotate_left
                · (intro w hSw; (try dsimp only at hSw); go_simp <;> with_reducible rfl)
                try simp only [Act.put, List.setIfInBounds_toArray, List.set_cons_zero, List.set_cons_succ]
                refine takeK5 (i := 17) (oi := _) (v := ?_) (d := some 116) rfl (by kernel_rfl) (by kernel_rfl) (by kernel_rfl) (by kernel_rfl) (fun _ _ _ h => h) (Or.inl ⟨by rfl, ?_⟩) (by assumption) ?_
                rotate_left
                · (intro w hSw; (try dsimp only at hSw); go_simp <;> with_reducible rfl)
                try simp only [Act.put, List.setIfInBounds_toArray, List.set_cons_zero, List.set_cons_succ]
                refine takeK5 (i := 18) (oi := _) (v := ?_) (d := some 117) rfl (by kernel_rfl) (by kernel_rfl) (by kernel_rfl) (by kernel_rfl) (fun _ _ _ h => h) (Or.inl ⟨by rfl, ?_⟩) (by assumption) ?_
                rotate_left
                · (intro w hSw; (try dsimp only at hSw); go_simp <;> with_reducible rfl)
                try simp only [Act.put, List.setIfInBounds_toArray, List.set_cons_zero, List.set_cons_succ]
                refine wpAnyH_ready (rs := [19]) (by kernel_rfl) (by simp) ?_
                refine AllReadyH.cons (o := _) rfl (fun K hK => ?_) AllReadyH.nil
                go_simp
                refine hK.out _ _ ?_ (fun hHeld => ?_)
                · exact HK.out wr _ g6
                clear hK K
                try simp only [Act.put, List.setIfInBounds_toArray, List.set_cons_zero, List.set_cons_succ]
                refine wpAnyH_done (by kernel_rfl) ?_ _
                go_wp2
                go_roundw
                case rel =>
                  refine ⟨m + 1, by omega, by go_num, ?_, ?_, ?_⟩
                  · show Own (wr.setCell ⟨W.heap.size, m, none⟩ (.int .i64 ((wrap64 (A + wrap64 ((wrap64 (C * yy)).tmod 1499 * fd))).tmod 1499))) _ _ _
                    rw [HAW.out]
                    exact HSET.out wr hA.out
                  · exact HPK.out wr _ hP.out
                  · exact (hBW.out.setCell (p := ⟨W.heap.size, m, none⟩) (Nat.le_refl _) _).drew
                case measure => simp [intOf]; omega
              · skip
                go_simp
                refine (c3 _).mono ?_
                rintro e w' ⟨rfl, hw⟩
                subst w'
                refine hK.out _ _ ?_ (fun hHeld => ?_)
                · exact hHeld
                clear hK K
                try simp only [Act.put, List.setIfInBounds_toArray, List.set_cons_zero, List.set_cons_succ]
                refine takeK5 (i := 15) (oi := _) (v := ?_) (d := some 114) rfl (by kernel_rfl) (by kernel_rfl) (by kernel_rfl) (by kernel_rfl) (fun _ _ _ h => h) (Or.inl ⟨by rfl, ?_⟩) (by assumption) ?_
                rotate_left
                · (intro w hSw; (try dsimp only at hSw); go_simp <;> with_reducible rfl)
                try simp only [Act.put, List.setIfInBounds_toArray, List.set_cons_zero, List.set_cons_succ]
                refine wpAnyH_ready (rs := [5]) (by kernel_rfl) (by simp) ?_
                refine AllReadyH.cons (o := _) rfl (fun K hK => ?_) AllReadyH.nil
                go_simp
                refine hK.out _ _ ?_ (fun hHeld => ?_)
                · exact hHeld
                clear hK K
                try simp only [Act.put, List.setIfInBounds_toArray, List.set_cons_zero, List.set_cons_succ]
                refine takeK5 (i := 16) (oi := _) (v := ?_) (d := some 115) rfl (by kernel_rfl) (by kernel_rfl) (by kernel_rfl) (by kernel_rfl) (fun _ _ _ h => h) (Or.inl ⟨by rfl, ?_⟩) (by assumption) ?_
                rotate_left
                · (intro w hSw; (try dsimp only at hSw); go_simp <;> with_reducible rfl)
                try simp only [Act.put, List.setIfInBounds_toArray, List.set_cons_zero, List.set_cons_succ]
                refine takeK5 (i := 17) (oi := _) (v := ?_) (d := some 116) rfl (by kernel_rfl) (by kernel_rfl) (by kernel_rfl) (by kernel_rfl) (fun _ _ _ h => h) (Or.inl ⟨by rfl, ?_⟩) (by assumption) ?_
                rotate_left
                · (intro w hSw; (try dsimp only at hSw); go_simp <;> with_reducible rfl)
                try simp only [Act.put, List.setIfInBounds_toArray, List.set_cons_zero, List.set_cons_succ]
                refine takeK5 (i := 18) (oi := _) (v := ?_) (d := some 117) rfl (by kernel_rfl) (by kernel_rfl) (by kernel_rfl) (by kernel_rfl) (fun _ _ _ h => h) (Or.inl ⟨by rfl, ?_⟩) (by assumption) ?_
                rotate_left
                · (intro w hSw; (try dsimp only at hSw); go_simp <;> with_reducible rfl)
                try simp only [Act.put, List.setIfInBounds_toArray, List.set_cons_zero, List.set_cons_succ]
                refine wpAnyH_ready (rs := [19]) (by kernel_rfl) (by simp) ?_
                refine AllReadyH.cons (o := _) rfl (fun K hK => ?_) AllReadyH.nil
                go_simp
                refine hK.out _ _ ?_ (fun hHeld => ?_)
                · exact HK.out wr _ g6
                clear hK K
                try simp only [Act.put, List.setIfInBounds_toArray, List.set_cons_zero, List.set_cons_succ]
                refine wpAnyH_done (by kernel_rfl) ?_ _
                go_wp2
                go_roundw
                case rel =>
                  refine ⟨m + 1, by omega, by go_num, ?_, ?_, ?_⟩
                  · show Own (wr.setCell ⟨W.heap.size, m, none⟩ (.int .i64 ((wrap64 (A + wrap64 ((wrap64 (C * yy)).tmod 1499 * fd))).tmod 1499))) _ _ _
                    rw [HAW.out]
                    exact HSET.out wr hA.out
                  · exact HPK.out wr _ hP.out
                  · exact (hBW.out.setCell (p := ⟨W.heap.size, m, none⟩) (Nat.le_refl _) _).drew
                case measure => simp [intOf]; omega
            · obtain rfl : m = q := by omega
              have HLG : Hid (accF acc Q m = lagF fs (fl.take (k + 1)) (List.replicate m 0)) := by
                show _ = _
                have hqa : acc.length = Q.length := by rw [HLL.out, HQQ.out, List.length_map, hql.out]
                have e : accF acc Q m = addF acc Q := by rw [← accF_all acc Q hqa, HLL.out]
                rw [e, HLT.out, lagStep, ← HFK.out, HPB.out, HQQ.out, HYY.out, HDD.out]
              clear hlm
              go_wp2
              go_roundw
              case rel => exact ⟨k + 1, by omega, by go_num, by show Own _ _ _ _; rw [← HLG.out]; exact hA.out, hBW⟩
              case measure => simp [intOf]; omega
    · obtain rfl : k = n := by omega
      have HE : Hid (lagF fs (fl.take k) (List.replicate k 0) = polyF fl) := by
        show _ = _
        rw [List.take_of_length_le (by rw [HX.out]; exact Nat.le_refl _), polyF, ← HFS.out, HX.out]
      clear hlt
      go_wp2
      refine bodyPost_ret (v := .tuple #[.slice (some ⟨W.heap.size, 0, none⟩) k k, .bool true]) (by simp [results, Try.results36, go_sem]; try rfl) rfl ?_
      exact ⟨_, _, rfl, by rw [← HE.out]; exact hO.out.mono HBW.out.size, HBW.out.trans (hB.out.mono HBW.out.size)⟩

end Go.Proofs.Ytamppekadobagaa
