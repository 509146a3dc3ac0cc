/- Chapter 9: the cycles of an order, of the specification. -/
import Derived.Test.YtlepejafednlfaaAQ9
namespace Go.Proofs.Ytlepejafednlfaa
set_option linter.unusedVariables false
set_option maxRecDepth 1000000
set_option linter.unusedSimpArgs false
open Go.RowKit

theorem OwnIP.ge {W : World} {lo : Nat} {v : Value} {pre : List (Value × List Int)} (h : OwnIP W lo v pre) : ∀ k, v.ownBlock = some k → lo ≤ k := fun k e => (World.ownsRow.lt h.1 k e).1

set_option maxHeartbeats 4000000 in
theorem l9Cycles_c (ao : Option Addr) (m cap : Nat) (xs : List Int) (w : World) (hx : xs.length = m) (hox : ordB xs = true) (hr : Rd w ao xs) :
    Calls Try.prog 87 #[.slice ao m cap] w fun e w' => ∃ v, e = .returned v ∧ OwnII w' w.heap.size v (cycL xs) ∧ Below w.heap.size w w' := by
  have hm : m ≤ 9 := by rw [← hx]; exact ord_len hox
  obtain ⟨ib, hib, hb0, hb1, hb2⟩ := info_parts Try.infoBool
  obtain ⟨i0, hi, hz0, hz1, hz2⟩ := info_parts Try.infoInt
  obtain ⟨i2, hi2, hy0, hy1, hy2⟩ := info_parts Try.infoInts9
  obtain ⟨V, hmk, hOV, hGV⟩ := run_make_full (P := Try.prog) w w.heap.size 25 4 ib (.bool false) 1 Try.underlying25 hib hb0 hb1 .i64 .i64 m (by rw [hb2]; omega) (by unfold maxLen; omega) (Nat.le_refl _)
  have hBV : Below w.heap.size w V := (Below.refl _ _).grown hGV (Nat.le_refl _) (fun k h => by cases h)
  have hO0 : OwnB V w.heap.size (.slice (some ⟨w.heap.size, 0, none⟩) m m) (cycs xs 0).2 := by
    have e : (madeCells (Value.bool false).cells (m * 1)).toList = cellsB (cycs xs 0).2 := by
      rw [Nat.mul_one, cycs, hx]
      exact (toList_madeCells_one _ _).trans (by simp [cellsB])
    unfold OwnB
    rw [cycs_length, hx, ← e]
    exact hOV
  have hTV : w.heap.size < V.heap.size := by
    rcases hO0.form with ⟨h, _⟩ | ⟨g, c, h, _, hg, _⟩
    · simp at h
    · simp only [Value.slice.injEq, Option.some.injEq, Addr.mk.injEq] at h
      rw [h.1.1]; exact hg
  have HX : Hid (xs.length = m) := hx
  have HR : Hid (Rd w ao xs) := hr
  have HIN : Hid (∀ k, k < m → 0 ≤ xs.getD k 0 ∧ xs.getD k 0 < (m : Int)) := fun k hk => by rw [← hx]; exact ord_in hox (by rw [hx]; exact hk)
  have HST : Hid (∃ pre : List (Value × List Int), pre.map (·.2) = (cycs xs 0).1 ∧ OwnIP V (w.heap.size + 1) (.slice none 0 0) pre ∧ OwnB V w.heap.size (.slice (some ⟨w.heap.size, 0, none⟩) m m) (cycs xs 0).2 ∧ (∀ y ∈ pre, ∀ g, y.1.ownBlock = some g → g < V.heap.size) ∧ Below w.heap.size w V ∧ w.heap.size < V.heap.size) :=
    ⟨[], rfl, ⟨World.ownsRow_nil _ _ _ _, (fun y hy => by cases hy), List.Pairwise.nil⟩, hO0, (fun y hy => by cases hy), hBV, hTV⟩
  clear hx hr hGV hOV hO0 hBV hTV hox hib hb0 hb1 hb2
  go_enter Try.func87, Try.ntmps87
  go_wp2
  clear hmk
  go_loopw [4, 13] (fun ov iv wr => ∃ k : Nat, k ≤ m ∧ iv = .int .i64 k ∧ Hid (∃ pre : List (Value × List Int), pre.map (·.2) = (cycs xs k).1 ∧ OwnIP wr (w.heap.size + 1) ov pre ∧ OwnB wr w.heap.size (.slice (some ⟨w.heap.size, 0, none⟩) m m) (cycs xs k).2 ∧ (∀ y ∈ pre, ∀ g, y.1.ownBlock = some g → g < wr.heap.size) ∧ Below w.heap.size w wr ∧ w.heap.size < wr.heap.size)) (fun _ iv _ => m - (intOf iv).toNat)
  case atStart => exact ⟨0, Nat.zero_le _, rfl, HST⟩
  case round =>
    clear HST
    obtain ⟨k, hk, rfl, hS⟩ := hrel
    by_cases hlt : k < m
    · obtain ⟨pre, hpm, hOp, hOs, hlo, hB, hT⟩ := hS.out
      clear hS
      have hsl0 : (cycs xs k).2.length = m := by rw [cycs_length, HX.out]
      have hoo0 : wr.ownsRow w.heap.size 4 1 (.slice (some ⟨w.heap.size, 0, none⟩) m m) m (cellsB (cycs xs k).2) := by have h := hOs; unfold OwnB at h; rw [hsl0] at h; exact h
      have g0 : wr.cell? ⟨w.heap.size, k, none⟩ = some (.bool ((cycs xs k).2.getD k false)) := by
        rw [World.ownsRow.cellAt hoo0 k (by omega)]; exact getD_map_bool _ k (by omega)
      have k0 : (0 : Int) ≤ (k : Int) := by omega
      have k1 : (k : Int) < (m : Int) := by omega
      cases hsk : (cycs xs k).2.getD k false with
      | true =>
        rw [hsk] at g0
        have hend : cyc xs xs.length (cycs xs k).2 k = ([], (cycs xs k).2) := cyc_end (by rw [getD_tf (by omega)]; exact hsk)
        have HF : Hid (∃ pre : List (Value × List Int), pre.map (·.2) = (cycs xs (k + 1)).1 ∧ OwnIP wr (w.heap.size + 1) u4 pre ∧ OwnB wr w.heap.size (.slice (some ⟨w.heap.size, 0, none⟩) m m) (cycs xs (k + 1)).2 ∧ (∀ y ∈ pre, ∀ g, y.1.ownBlock = some g → g < wr.heap.size) ∧ Below w.heap.size w wr ∧ w.heap.size < wr.heap.size) :=
          ⟨pre, by rw [cycs, hend, if_pos rfl]; exact hpm, hOp, by rw [cycs, hend]; exact hOs, hlo, hB, hT⟩
        clear hpm hOp hOs hlo hB hT hsl0 hoo0 hsk hend
        go_wp2
        go_roundw
        case rel => exact ⟨k + 1, by omega, by go_num, HF⟩
        case measure => simp [intOf]; omega
      | false =>
        rw [hsk] at g0
        obtain ⟨W0, hW0⟩ : ∃ W0, W0 = wr := ⟨_, rfl⟩
        obtain ⟨S0, hS0⟩ : ∃ S0, S0 = (cycs xs k).2 := ⟨_, rfl⟩
        obtain ⟨C, hC⟩ : ∃ C, C = (cyc xs xs.length S0 k).1 := ⟨_, rfl⟩
        obtain ⟨S1, hS1⟩ : ∃ S1, S1 = (cyc xs xs.length S0 k).2 := ⟨_, rfl⟩
        have HNE : Hid (C ≠ []) := by
          show C ≠ []
          have h := hsk
          rw [← getD_tf (by omega), ← hS0] at h
          obtain ⟨f, hf⟩ : ∃ f, xs.length = f + 1 := ⟨xs.length - 1, by rw [HX.out]; omega⟩
          rw [hC, hf, cyc_step h]
          simp
        have HNX : Hid ((cycs xs (k + 1)).1 = (cycs xs k).1 ++ [C] ∧ (cycs xs (k + 1)).2 = S1) := by
          have h := HNE.out
          rw [cycs, hS1]
          rw [hC, hS0] at h ⊢
          exact ⟨if_neg h, rfl⟩
        have HA0 : Hid (At xs m C S1 [] S0 k) := by
          show At xs m C S1 [] S0 k
          rw [hC, hS1]
          exact At.start HX.out (by rw [hS0, cycs_length]) (by rw [hS0, ← HX.out]; exact cycs_unseen xs k)
        rw [← hS0] at hOs
        rw [← hW0] at hOp hOs hlo hB hT g0 ⊢
        have hpl : pre.length ≤ 9 := by
          have h3 : pre.length = (cycs xs k).1.length := by rw [← hpm]; simp
          have := cycs_few2 xs k
          omega
        have HPM : Hid (pre.map (·.2) = (cycs xs k).1) := hpm
        have HOP : Hid (OwnIP W0 (w.heap.size + 1) u4 pre) := hOp
        have HLO : Hid (∀ y ∈ pre, ∀ g, y.1.ownBlock = some g → g < W0.heap.size) := hlo
        have HB0 : Hid (Below w.heap.size w W0) := hB
        have HT : Hid (w.heap.size < W0.heap.size) := hT
        have HOS : Hid (OwnB W0 w.heap.size (.slice (some ⟨w.heap.size, 0, none⟩) m m) S0) := hOs
        clear hpm hOp hlo hB hT hOs hS0 hC hS1 hsk hoo0 hsl0 hW0
        go_wp2
        go_loopw [6, 7] (fun cv av wi => ∃ (c : List Int) (s : List Bool) (q : Nat), av = .int .i64 q ∧ q < m ∧ lenOf9 cv = c.length ∧ Hid (At xs m C S1 c s q) ∧ Hid (Own wi W0.heap.size cv c) ∧ Hid (OwnB wi w.heap.size (.slice (some ⟨w.heap.size, 0, none⟩) m m) s) ∧ Hid (W0.grownBy wi (some w.heap.size))) (fun cv _ _ => m - lenOf9 cv)
        case atStart => exact ⟨[], S0, k, rfl, hlt, rfl, HA0, World.ownsRow_nil _ _ _ _, HOS, World.grownBy.refl _ _⟩
        case round =>
          clear HA0 HOS g0
          obtain ⟨c, s, q, rfl, hq, hlc, hA, hOc, hOs, hG⟩ := hrel
          have hsl : s.length = m := by rw [← HX.out]; exact hA.out.len.1
          have hoo : wr.ownsRow w.heap.size 4 1 (.slice (some ⟨w.heap.size, 0, none⟩) m m) m (cellsB s) := by have h := hOs.out; unfold OwnB at h; rw [hsl] at h; exact h
          have g1 : wr.cell? ⟨w.heap.size, q, none⟩ = some (.bool (s.getD q false)) := by
            have h := World.ownsRow.cellAt hoo q (by omega)
            rw [h]; exact getD_map_bool s q (by omega)
          have g2 : wr.frozen? ⟨w.heap.size, q, none⟩ = false := World.ownsRow.frozenAt hoo q
          have q0 : (0 : Int) ≤ (q : Int) := by omega
          have q1 : (q : Int) < (m : Int) := by omega
          cases hsq : s.getD q false with
          | false =>
            rw [hsq] at g1
            have hst := World.ownsRow.stored hoo q (.bool true)
            rw [cellsB_set] at hst
            have hstep := hA.out.step (by rw [HX.out]; exact hq) (by rw [getD_tf (by omega)]; exact hsq)
            have HA' : Hid (At xs m C S1 (c ++ [(q : Int)]) (s.set q true) (xs.getD q 0).toNat) := hstep.1
            have hcl : c.length < m := hstep.2
            have hsep := row_sepT (show (3 : TypeId) ≠ 4 by decide) hOc.out hOs.out
            have hin := HIN.out q hq
            obtain ⟨V1, hV1⟩ : ∃ V1, wr.setCell ⟨w.heap.size, q, none⟩ (.bool true) = V1 := ⟨_, rfl⟩
            rw [hV1] at hst
            have hOs1 : Hid (OwnB V1 w.heap.size (.slice (some ⟨w.heap.size, 0, none⟩) m m) (s.set q true)) := by
              show OwnB _ _ _ _
              unfold OwnB
              rw [List.length_set, hsl]
              exact hst.1
            have hgs : wr.grownBy V1 (some w.heap.size) := hst.2
            have hOc1 : Own V1 W0.heap.size u6 c := hOc.out.kept hgs hsep
            have hG1 : W0.grownBy V1 (some w.heap.size) := grownT hG.out hgs (fun g e => Or.inr (by cases e; rfl))
            have hob : ∀ k', u6.ownBlock = some k' → W0.heap.size ≤ k' := own_block_ge hOc1
            have hown : V1.ownsRow W0.heap.size 3 1 u6 c.length (cellsI c) := hOc1
            have HG1 : Hid (W0.grownBy V1 (some w.heap.size)) := hG1
            have hsz1 : W0.heap.size ≤ V1.heap.size := hG1.size
            have HRX : Hid (∀ wx, W0.grownBy wx (some w.heap.size) → ∃ b o, ao = some ⟨b, o, none⟩ ∧ wx.cell? ⟨b, o + q, none⟩ = some (.int .i64 (xs.getD q 0))) := fun wx hg =>
              (HR.out.later (HB0.out.trans (grown_below hg (Nat.le_refl _) HB0.out.size))).get9 (by rw [HX.out]; exact hq)
            obtain ⟨y, hy⟩ : ∃ y : Nat, xs.getD q 0 = (y : Int) := ⟨(xs.getD q 0).toNat, by omega⟩
            rw [hy] at HA' HRX hin
            rw [Int.toNat_natCast] at HA'
            have hym : y < m := by omega
            clear hst hgs hG1 hOc1 hsep hstep hA hOs hOc hG hin hy hsq hsl hoo
            go_wp2_with (at_builtin; refine wpList_append_own _ rfl _ _ 23 rfl W0.heap.size 3 i0 (.int .i64 0) 1 8 Try.underlying23 hi hz0 hz1 hz2 rfl (by decide) _ _ _ rfl (hown.alloc _) ⟨V1.heap.size, 0, none⟩ 1 1 [.int .i64 (q : Int)] rfl rfl (cell_new1 _ _ _) (ints_oneCell _ [(q : Int)]) (by unfold maxLen; omega) (by omega) (by simp; omega) ?_; intro v' w2 hown' hgrow _; have HO' : Hid (Own w2 W0.heap.size v' (c ++ [(q : Int)])) := own_push (w := V1) (v := u6) (by simpa using hown'); have HG' : Hid (W0.grownBy w2 (some w.heap.size)) := grownT (grownT HG1.out (World.grownBy_alloc V1 _ none) (fun g e => by cases e)) hgrow (fun g e => Or.inl (hob g e)); have HOs' : Hid (OwnB w2 w.heap.size (.slice (some ⟨w.heap.size, 0, none⟩) m m) (s.set q true)) := (hOs1.out.later (balloc V1 _)).kept hgrow (row_sepT (show (4 : TypeId) ≠ 3 by decide) hOs1.out hown); obtain ⟨b, o, rfl, g6⟩ := HRX.out w2 HG'.out; clear HRX hown' hgrow)
            obtain ⟨a9, c9, hv9⟩ := HO'.out.shape
            go_roundw
            case rel => exact ⟨c ++ [(q : Int)], s.set q true, y, rfl, hym, by rw [hv9]; rfl, HA', HO', HOs', HG'⟩
            case measure => rw [hv9, hlc]; simp [lenOf9]; omega
          | true =>
            rw [hsq] at g1
            have hst := hA.out.stop (by rw [getD_tf (by omega)]; exact hsq)
            obtain ⟨rfl, rfl⟩ := hst
            obtain ⟨a9, c9, hv9⟩ := hOc.out.shape
            have hOPw : OwnIP wr (w.heap.size + 1) u4 pre := HOP.out.kept hG.out (by omega)
            have hszw : W0.heap.size ≤ wr.heap.size := hG.out.size
            have hBw : Below w.heap.size w wr := HB0.out.trans (grown_below hG.out (Nat.le_refl _) HB0.out.size)
            have HFIN : Hid (∀ (w2 : World) (v' : Value) (lit : Obj), w2.ownsRow (w.heap.size + 1) 23 1 v' (pre.length + 1) (pre.map (·.1) ++ [u6]) → (wr.alloc lit).grownBy w2 u4.ownBlock → ∃ pre : List (Value × List Int), pre.map (·.2) = (cycs xs (k + 1)).1 ∧ OwnIP w2 (w.heap.size + 1) v' pre ∧ OwnB w2 w.heap.size (.slice (some ⟨w.heap.size, 0, none⟩) m m) (cycs xs (k + 1)).2 ∧ (∀ y ∈ pre, ∀ g, y.1.ownBlock = some g → g < w2.heap.size) ∧ Below w.heap.size w w2 ∧ w.heap.size < w2.heap.size) := fun w2 v' lit hown' hgrow => by
              have hsz2 : wr.heap.size + 1 ≤ w2.heap.size := by have := hgrow.size; simpa using this
              have hge := hOPw.ge
              refine ⟨pre ++ [(u6, c)], by rw [HNX.out.1, ← HPM.out]; simp, ⟨by simpa using hown', fun y hy => ?_, ?_⟩, ?_, fun y hy g e => ?_, (hBw.alloc hBw.size lit).grown hgrow (by have := hBw.size; simp; omega) (fun g e => by have := hge g e; omega), by have := HT.out; omega⟩
              · have hy2 : Own wr (w.heap.size + 1) y.1 y.2 := by
                  rcases List.mem_append.1 hy with h | h
                  · exact hOPw.2.1 y h
                  · simp at h; subst h; exact hOc.out.mono (by have := HT.out; omega)
                exact (hy2.later (balloc wr lit)).kept hgrow (row_sep hy2 hOPw.1)
              · refine List.pairwise_append.2 ⟨hOPw.2.2, List.pairwise_singleton _ _, fun a ha b hb => ?_⟩
                simp at hb
                subst hb
                cases hyb : a.1.ownBlock with
                | none => exact Or.inl hyb
                | some g =>
                  refine Or.inr fun e => ?_
                  have h1 := HLO.out a ha g hyb
                  have h2 := own_block_ge hOc.out g (e.symm.trans hyb)
                  omega
              · rw [HNX.out.2]
                exact (hOs.out.later (balloc wr lit)).kept hgrow (row_sepT (show (4 : TypeId) ≠ 23 by decide) hOs.out hOPw.1)
              · rcases List.mem_append.1 hy with h | h
                · have := HLO.out y h g e; omega
                · simp at h
                  subst h
                  have := (World.ownsRow.lt hOc.out g e).2
                  omega
            have hone : ∀ u ∈ [Value.slice a9 c.length c9], u.oneCell' = true := fun u hu => by simp at hu; rw [hu]; rfl
            have hrow : wr.ownsRow (w.heap.size + 1) 23 1 u4 pre.length (pre.map (·.1)) := hOPw.1
            have hszr : w.heap.size + 1 ≤ wr.heap.size := by have := HT.out; omega
            clear hOPw hBw hA hOs hOc hG hoo hsq hlc hsl
            subst hv9
            go_wp2_with (at_builtin; refine wpList_append_own _ rfl _ _ 47 rfl (w.heap.size + 1) 23 i2 (.slice none 0 0) 1 24 Try.underlying47 hi2 hy0 hy1 hy2 rfl (by decide) _ _ _ rfl (hrow.alloc _) ⟨wr.heap.size, 0, none⟩ 1 1 [.slice a9 c.length c9] rfl rfl (cell_new1 _ _ _) hone (by unfold maxLen; omega) (by omega) (by simp; omega) ?_; intro v' w2 hown' hgrow _; have HFI : Hid (∃ pre : List (Value × List Int), pre.map (·.2) = (cycs xs (k + 1)).1 ∧ OwnIP w2 (w.heap.size + 1) v' pre ∧ OwnB w2 w.heap.size (.slice (some ⟨w.heap.size, 0, none⟩) m m) (cycs xs (k + 1)).2 ∧ (∀ y ∈ pre, ∀ g, y.1.ownBlock = some g → g < w2.heap.size) ∧ Below w.heap.size w w2 ∧ w.heap.size < w2.heap.size) := HFIN.out w2 v' _ hown' hgrow; clear HFIN hown' hgrow)
            go_roundw
            case rel => exact ⟨k + 1, by omega, by go_num, HFI⟩
            case measure => simp [intOf]; omega
    · obtain ⟨pre, hpm, hOp, _, _, hB, _⟩ := hS.out
      obtain rfl : k = m := by omega
      have HF : Hid (OwnII wr w.heap.size u4 (cycL xs) ∧ Below w.heap.size w wr) := ⟨hOp.toII (by rw [hpm, cycL, HX.out]) (by omega), hB⟩
      clear hS hpm hOp hB
      go_wp2
      go_ret
      exact ⟨_, rfl, HF.out⟩

end Go.Proofs.Ytlepejafednlfaa
