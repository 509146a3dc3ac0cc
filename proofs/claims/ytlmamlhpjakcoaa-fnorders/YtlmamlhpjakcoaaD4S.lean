/- What chapter 4 draws for its shuffles. -/
import Derived.Test.YtlmamlhpjakcoaaD4O
namespace Go.Proofs.Ytlmamlhpjakcoaa
set_option linter.unusedVariables false
set_option linter.unusedSimpArgs false
open Go.RowKit

/-- Draws and texts, as many of each. -/
def DrawnSh (B : Nat) (e : Ending) (w' : World) : Prop := ∃ a1 q c1 ds a2 c2 ls, e = .returned (.tuple #[.slice a1 q c1, .slice a2 q c2]) ∧ q ≤ 10 ∧ ds.length = q ∧ ls.length = q ∧ Own w' B (.slice a1 q c1) ds ∧ OwnS w' B (.slice a2 q c2) ls

set_option maxHeartbeats 4000000 in
set_option maxRecDepth 1000000 in
theorem drawShuffle_c (ao : Option Addr) (n c : Nat) (w : World) (hn : n ≤ 9223372036854775807) (h : CodeOk w w.heap.size ao n) :
    Calls Try.prog 35 #[.slice ao n c] w fun e w' => (DrawnSh w.heap.size e w') ∧ Below w.heap.size w w' := by
  obtain ⟨i0, hi, ii0, ii1, ii2⟩ := info_parts Try.infoInt
  obtain ⟨j0, hj, jj0, jj1, jj2⟩ := info_parts Try.infoStr
  have HOld : Hid (Old ao n (w.heap.size + 1)) := old_mono (CodeOk.old h) (by omega)
  have C0 : Hid (Cur (w.alloc (.cells #[.slice ao n c, .int .i64 0, .int .u64 0] 62)) w.heap.size ao n c 0) := cur_new _ hn h
  have G0 : Hid (GB w.heap.size w (w.alloc (.cells #[.slice ao n c, .int .i64 0, .int .u64 0] 62))) := (GB.refl _ _).alloc _
  have hz0 : w.heap.size + 1 ≤ (w.alloc (.cells #[.slice ao n c, .int .i64 0, .int .u64 0] 62)).heap.size := by simp
  clear h
  go_enter Try.func35, Try.ntmps35
  go_wp2_with fail
  refine (pick_c w.heap.size ao n c (0) 8 _ (by omega) (by omega) C0.out).mono ?_
  rintro e w1 ⟨z, rfl, hz0, hz1, hc1, hg1⟩
  have C1 : Hid (Cur w1 w.heap.size ao n c (0 + 2)) := hc1
  have G1 : Hid (GB w.heap.size w w1) := G0.out.trans hg1
  clear hc1 hg1 C0 G0
  obtain ⟨m, rfl⟩ : ∃ m : Nat, z = m := ⟨z.toNat, by omega⟩
  have hs1 : w.heap.size + 1 ≤ w1.heap.size := C1.out.lt
  go_wp2_with fail
  refine (one_c w.heap.size ao n c (2) 20 _ (by omega) (by omega) C1.out).mono ?_
  rintro e w2 ⟨b, rfl, hc1, hg1⟩
  have C2 : Hid (Cur w2 w.heap.size ao n c (2 + 2)) := hc1
  have G2 : Hid (GB w.heap.size w w2) := G1.out.trans hg1
  have hs2 : w.heap.size + 1 ≤ w2.heap.size := Nat.le_trans hs1 hg1.size
  clear hc1 hg1 C1 G1
  cases b
  · skip
    have HC : Hid (Cur w2 w.heap.size ao n c 10) := C2.out.mono (by omega)
    clear C2
    go_wp2
    go_loopw [5, 6, 7] (fun dv lv nv wr => ∃ (k : Nat) (ds : List Int) (ls : List ByteArray), nv = .int .i64 k ∧ ds.length = ls.length ∧ ds.length + k ≤ 10 ∧ Hid (Own wr (w.heap.size + 1) dv ds) ∧ Hid (OwnS wr (w.heap.size + 1) lv ls) ∧ Hid (Cur wr w.heap.size ao n c (10 + 4 * ds.length)) ∧ Hid (GB w.heap.size w wr) ∧ w.heap.size + 1 ≤ wr.heap.size) (fun _ _ nv _ => (intOf nv).toNat)
    case atStart => exact ⟨m, [], [], rfl, rfl, by simp; omega, World.ownsRow_nil _ _ _ _, World.ownsRow_nil _ _ _ _, HC.out.mono (by simp), G2, by omega⟩
    case round =>
      clear HC G2
      obtain ⟨k, ds, ls, rfl, hdl, hk, hD, hT, hC, hG, hsz⟩ := hrel
      by_cases hlt : 0 < k
      · have k1 : (0 : Int) < (k : Int) := by omega
        obtain ⟨p, hp⟩ : ∃ p, ds.length = p := ⟨_, rfl⟩
        have hp2 : ls.length = p := by omega
        have HP : Hid (ds.length = p) := hp
        have HP2 : Hid (ls.length = p) := hp2
        have hpk : p + k ≤ 10 := by omega
        have HM : Hid (Cur wr w.heap.size ao n c (10 + 4 * p)) := by show Cur _ _ _ _ _ _; rw [← hp]; exact hC.out
        clear hC hp hp2 hdl hk
        go_wp2_with fail
        refine (pick_c w.heap.size ao n c (10 + 4 * p) 200 _ (by omega) (by omega) HM.out).mono ?_
        rintro e wa ⟨x, rfl, hx0, hx1, hc1, hg1⟩
        have CA : Hid (Cur wa w.heap.size ao n c (10 + 4 * p + 2)) := hc1
        have GA : Hid (GB w.heap.size w wa) := hG.out.trans hg1
        have OD : Hid (Own wa (w.heap.size + 1) u5 ds) := hD.out.kept hg1 (sep_own hD.out (by omega))
        have OT : Hid (OwnS wa (w.heap.size + 1) u6 ls) := hT.out.kept hg1 (sep_ownS hT.out (by omega))
        have hsa : w.heap.size + 1 ≤ wa.heap.size := Nat.le_trans hsz hg1.size
        clear hD hT
        clear hc1 hg1 HM hG
        have hown : wa.ownsRow (w.heap.size + 1) 3 1 u5 p (cellsI ds) := by have h := OD.out; unfold Own at h; rw [HP.out] at h; exact h
        have hob : ∀ k', u5.ownBlock = some k' → w.heap.size + 1 ≤ k' := own_block_ge OD.out
        have hone : ∀ u ∈ [Value.int .i64 x], u.oneCell' = true := ints_oneCell _ [x]
        have HST : Hid (u6.ownBlock = none ∨ u6.ownBlock ≠ u5.ownBlock) := sep_types' OD.out OT.out
        go_wp2_with ((at_builtin; refine wpList_append_own _ rfl _ _ 23 rfl (w.heap.size + 1) 3 i0 (.int .i64 0) 1 8 Try.underlying23 hi ii0 ii1 ii2 rfl (by decide) _ _ _ rfl (hown.alloc _) ⟨wa.heap.size, 0, none⟩ 1 1 [.int .i64 x] rfl rfl (cell_new1 _ _ _) hone (by unfold maxLen; omega) (by omega) (by simp; omega) ?_; intro v1 wb hown' hgrow _; have OD2 : Hid (Own wb (w.heap.size + 1) v1 (ds ++ [x])) := own_push (w := wa) (v := u5) (by simpa [HP.out] using hown'); have CB : Hid (Cur wb w.heap.size ao n c (10 + 4 * p + 2)) := (CA.out.alloc _).grown (B := w.heap.size + 1) hgrow hob (by omega) HOld.out; have GB2 : Hid (GB w.heap.size w wb) := (GA.out.alloc _).grown hgrow (fun k' e => by have := hob k' e; omega); have OT2 : Hid (OwnS wb (w.heap.size + 1) u6 ls) := (OT.out.later (balloc _ _)).kept hgrow HST.out; have hsb : w.heap.size + 1 ≤ wb.heap.size := Nat.le_trans (Nat.le_trans hsa (by simp)) hgrow.size; clear hown' hgrow hown hob CA GA OT OD HST))
        have hlit := litS_cells wb #[.string (ByteArray.mk #[97]), .string (ByteArray.mk #[98]), .string (ByteArray.mk #[99]), .string (ByteArray.mk #[100])] 9 4 rfl ⟨by decide, by decide, by decide, by decide, trivial⟩
        have hgb : w.heap.size < wb.heap.size := CB.out.lt
        refine (of_c w.heap.size ao n c _ wb.heap.size 4 _ (by omega) (by omega) hlit (by omega) (CB.out.alloc _)).mono ?_
        rintro e wc ⟨s, rfl, hss, hc1, hg1⟩
        have CC : Hid (Cur wc w.heap.size ao n c (10 + 4 * p + 2 + 2)) := hc1
        have GC : Hid (GB w.heap.size w wc) := (GB2.out.alloc _).trans hg1
        have OD3 : Hid (Own wc (w.heap.size + 1) v1 (ds ++ [x])) := (OD2.out.later (balloc _ _)).kept hg1 (sep_own (OD2.out.later (balloc wb (.cells #[.string (ByteArray.mk #[97]), .string (ByteArray.mk #[98]), .string (ByteArray.mk #[99]), .string (ByteArray.mk #[100])] 9))) (by omega))
        have OT3 : Hid (OwnS wc (w.heap.size + 1) u6 ls) := (OT2.out.later (balloc _ _)).kept hg1 (sep_ownS (OT2.out.later (balloc wb (.cells #[.string (ByteArray.mk #[97]), .string (ByteArray.mk #[98]), .string (ByteArray.mk #[99]), .string (ByteArray.mk #[100])] 9))) (by omega))
        have hsc : w.heap.size + 1 ≤ wc.heap.size := CC.out.lt
        clear hc1 hg1 CB GB2 OD2 OT2 hlit hgb
        have hown : wc.ownsRow (w.heap.size + 1) 9 1 u6 p (cellsS ls) := by have h := OT3.out; unfold OwnS at h; rw [HP2.out] at h; exact h
        have hob : ∀ k', u6.ownBlock = some k' → w.heap.size + 1 ≤ k' := own_block_geS OT3.out
        have hone2 : ∀ u ∈ [Value.string s], u.oneCell' = true := strs_oneCell [s]
        have HST : Hid (v1.ownBlock = none ∨ v1.ownBlock ≠ u6.ownBlock) := sep_types OD3.out OT3.out
        go_wp2_with ((at_builtin; refine wpList_append_own _ rfl _ _ 42 rfl (w.heap.size + 1) 9 j0 (.string ByteArray.empty) 1 16 Try.underlying42 hj jj0 jj1 jj2 rfl (by decide) _ _ _ rfl (hown.alloc _) ⟨wc.heap.size, 0, none⟩ 1 1 [.string s] rfl rfl (cell_new1 _ _ _) hone2 (by unfold maxLen; omega) (by omega) (by simp; omega) ?_; intro v2 wd hown' hgrow _; have OT4 : Hid (OwnS wd (w.heap.size + 1) v2 (ls ++ [s])) := own_pushS (w := wc) (v := u6) (by simpa [HP2.out] using hown'); have CD : Hid (Cur wd w.heap.size ao n c (10 + 4 * p + 2 + 2)) := (CC.out.alloc _).grown (B := w.heap.size + 1) hgrow hob (by omega) HOld.out; have GD : Hid (GB w.heap.size w wd) := (GC.out.alloc _).grown hgrow (fun k' e => by have := hob k' e; omega); have OD4 : Hid (Own wd (w.heap.size + 1) v1 (ds ++ [x])) := (OD3.out.later (balloc _ _)).kept hgrow HST.out; have hsd : w.heap.size + 1 ≤ wd.heap.size := Nat.le_trans (Nat.le_trans hsc (by simp)) hgrow.size; clear hown' hgrow hown hob CC GC OT3 OD3 HST))
        go_roundw
        case rel => exact ⟨k - 1, ds ++ [x], ls ++ [s], by go_num, by simp [HP.out, HP2.out], by rw [List.length_append, HP.out]; simp; omega, OD4, OT4, CD.out.mono (by rw [List.length_append, HP.out]; simp; omega), GD, hsd⟩
        case measure => simp [intOf]; omega
      · have k1 : (k : Int) ≤ 0 := by omega
        obtain ⟨a1, c1, hv1⟩ := hD.out.shape
        obtain ⟨a2, c2, hv2⟩ := hT.out.shape
        obtain ⟨p, hp⟩ : ∃ p, ds.length = p := ⟨_, rfl⟩
        rw [hp] at hv1
        rw [show ls.length = p by omega] at hv2
        subst hv1
        subst hv2
        have HP : Hid (ds.length = p) := hp
        have HP2 : Hid (ls.length = p) := by show _ = _; omega
        have hp10 : p ≤ 10 := by omega
        have HM : Hid (Cur wr w.heap.size ao n c 60) := hC.out.mono (by omega)
        clear hp hdl hk hC
        by_cases hp0 : p = 0
        · have hp1 : ¬ (0 : Int) < (p : Int) := by omega
          clear hp0
          go_wp2
          refine bodyPost_ret (v := .tuple #[.slice a1 p c1, .slice a2 p c2]) (by simp [results, Try.results35, go_sem]) rfl ⟨⟨a1, p, c1, ds, a2, c2, ls, rfl, hp10, HP.out, HP2.out, hD.out.mono (by omega), hT.out.mono (by omega)⟩, hG.out.below (Nat.le_refl _) (Nat.le_refl _)⟩
        · have hp1 : (0 : Int) < (p : Int) := by omega
          obtain ⟨gg, hgg, hgb⟩ := own_some hD.out (by omega)
          subst hgg
          clear hp0
          go_wp2_with fail
          refine (one_c w.heap.size ao n c (60) 20 _ (by omega) (by omega) HM.out).mono ?_
          rintro e we ⟨b2, rfl, hc1, hg1⟩
          have CE : Hid (Cur we w.heap.size ao n c (60 + 2)) := hc1
          have GE : Hid (GB w.heap.size w we) := hG.out.trans hg1
          have OE : Hid (Own we (w.heap.size + 1) (.slice (some ⟨gg, 0, none⟩) p c1) ds) := hD.out.kept hg1 (sep_own hD.out (by omega))
          have TE : Hid (OwnS we (w.heap.size + 1) (.slice a2 p c2) ls) := hT.out.kept hg1 (sep_ownS hT.out (by omega))
          clear hD hT
          clear hc1 hg1 HM hG
          cases b2
          · go_wp2
            refine bodyPost_ret (v := .tuple #[.slice (some ⟨gg, 0, none⟩) p c1, .slice a2 p c2]) (by simp [results, Try.results35, go_sem]) rfl ⟨⟨(some ⟨gg, 0, none⟩), p, c1, ds, a2, c2, ls, rfl, hp10, HP.out, HP2.out, OE.out.mono (by omega), TE.out.mono (by omega)⟩, GE.out.below (Nat.le_refl _) (Nat.le_refl _)⟩
          · have gc : we.cell? ⟨gg, 0, none⟩ = some (.int .i64 (ds.getD 0 0)) := by
              have h := OE.out
              rw [← HP.out] at h
              exact h.cell 0 (by rw [HP.out]; omega)
            have gf : we.frozen? ⟨gg, 0, none⟩ = false := by
              have h := OE.out
              rw [← HP.out] at h
              exact h.free 0
            have O6 : Hid (Own (we.setCell ⟨gg, 0, none⟩ (.int .i64 (-1))) (w.heap.size + 1) (.slice (some ⟨gg, 0, none⟩) p c1) (ds.set 0 (-1))) := own_set OE.out 0 _
            have T6 : Hid (OwnS (we.setCell ⟨gg, 0, none⟩ (.int .i64 (-1))) (w.heap.size + 1) (.slice a2 p c2) ls) := TE.out.kept ((GB.refl gg we).setCell _ _) (sep_types' OE.out TE.out)
            have B6 : Hid (Below w.heap.size w (we.setCell ⟨gg, 0, none⟩ (.int .i64 (-1)))) := (GE.out.below (Nat.le_refl _) (Nat.le_refl _)).setCell (by show w.heap.size ≤ gg; omega) _
            generalize ds.getD 0 0 = y0 at gc
            clear OE TE GE CE
            go_wp2
            refine bodyPost_ret (v := .tuple #[.slice (some ⟨gg, 0, none⟩) p c1, .slice a2 p c2]) (by simp [results, Try.results35, go_sem]) rfl ⟨⟨(some ⟨gg, 0, none⟩), p, c1, ds.set 0 (-1), a2, c2, ls, rfl, hp10, by rw [List.length_set]; exact HP.out, HP2.out, O6.out.mono (by omega), T6.out.mono (by omega)⟩, B6.out⟩
  · skip
    go_wp2_with fail
    refine (pick_c w.heap.size ao n c (2 + 2) 2 _ (by omega) (by omega) C2.out).mono ?_
    rintro e w3 ⟨y0, rfl, hy00, hy01, hc1, hg1⟩
    have C3 : Hid (Cur w3 w.heap.size ao n c (2 + 2 + 2)) := hc1
    have G3 : Hid (GB w.heap.size w w3) := G2.out.trans hg1
    have hs3 : w.heap.size + 1 ≤ w3.heap.size := Nat.le_trans hs2 hg1.size
    clear hc1 hg1 C2 G2
    obtain ⟨m2, hm2⟩ : ∃ m2 : Nat, 9 + y0 = m2 := ⟨(9 + y0).toNat, by omega⟩
    have hm3 : m2 ≤ 10 := by omega
    have HC : Hid (Cur w3 w.heap.size ao n c 10) := C3.out.mono (by omega)
    clear C3
    go_wp2
    go_loopw [5, 6, 7] (fun dv lv nv wr => ∃ (k : Nat) (ds : List Int) (ls : List ByteArray), nv = .int .i64 k ∧ ds.length = ls.length ∧ ds.length + k ≤ 10 ∧ Hid (Own wr (w.heap.size + 1) dv ds) ∧ Hid (OwnS wr (w.heap.size + 1) lv ls) ∧ Hid (Cur wr w.heap.size ao n c (10 + 4 * ds.length)) ∧ Hid (GB w.heap.size w wr) ∧ w.heap.size + 1 ≤ wr.heap.size) (fun _ _ nv _ => (intOf nv).toNat)
    case atStart => exact ⟨m2, [], [], rfl, rfl, by simp; omega, World.ownsRow_nil _ _ _ _, World.ownsRow_nil _ _ _ _, HC.out.mono (by simp), G3, by omega⟩
    case round =>
      clear HC G3
      obtain ⟨k, ds, ls, rfl, hdl, hk, hD, hT, hC, hG, hsz⟩ := hrel
      by_cases hlt : 0 < k
      · have k1 : (0 : Int) < (k : Int) := by omega
        obtain ⟨p, hp⟩ : ∃ p, ds.length = p := ⟨_, rfl⟩
        have hp2 : ls.length = p := by omega
        have HP : Hid (ds.length = p) := hp
        have HP2 : Hid (ls.length = p) := hp2
        have hpk : p + k ≤ 10 := by omega
        have HM : Hid (Cur wr w.heap.size ao n c (10 + 4 * p)) := by show Cur _ _ _ _ _ _; rw [← hp]; exact hC.out
        clear hC hp hp2 hdl hk
        go_wp2_with fail
        refine (pick_c w.heap.size ao n c (10 + 4 * p) 200 _ (by omega) (by omega) HM.out).mono ?_
        rintro e wa ⟨x, rfl, hx0, hx1, hc1, hg1⟩
        have CA : Hid (Cur wa w.heap.size ao n c (10 + 4 * p + 2)) := hc1
        have GA : Hid (GB w.heap.size w wa) := hG.out.trans hg1
        have OD : Hid (Own wa (w.heap.size + 1) u5 ds) := hD.out.kept hg1 (sep_own hD.out (by omega))
        have OT : Hid (OwnS wa (w.heap.size + 1) u6 ls) := hT.out.kept hg1 (sep_ownS hT.out (by omega))
        have hsa : w.heap.size + 1 ≤ wa.heap.size := Nat.le_trans hsz hg1.size
        clear hD hT
        clear hc1 hg1 HM hG
        have hown : wa.ownsRow (w.heap.size + 1) 3 1 u5 p (cellsI ds) := by have h := OD.out; unfold Own at h; rw [HP.out] at h; exact h
        have hob : ∀ k', u5.ownBlock = some k' → w.heap.size + 1 ≤ k' := own_block_ge OD.out
        have hone : ∀ u ∈ [Value.int .i64 x], u.oneCell' = true := ints_oneCell _ [x]
        have HST : Hid (u6.ownBlock = none ∨ u6.ownBlock ≠ u5.ownBlock) := sep_types' OD.out OT.out
        go_wp2_with ((at_builtin; refine wpList_append_own _ rfl _ _ 23 rfl (w.heap.size + 1) 3 i0 (.int .i64 0) 1 8 Try.underlying23 hi ii0 ii1 ii2 rfl (by decide) _ _ _ rfl (hown.alloc _) ⟨wa.heap.size, 0, none⟩ 1 1 [.int .i64 x] rfl rfl (cell_new1 _ _ _) hone (by unfold maxLen; omega) (by omega) (by simp; omega) ?_; intro v1 wb hown' hgrow _; have OD2 : Hid (Own wb (w.heap.size + 1) v1 (ds ++ [x])) := own_push (w := wa) (v := u5) (by simpa [HP.out] using hown'); have CB : Hid (Cur wb w.heap.size ao n c (10 + 4 * p + 2)) := (CA.out.alloc _).grown (B := w.heap.size + 1) hgrow hob (by omega) HOld.out; have GB2 : Hid (GB w.heap.size w wb) := (GA.out.alloc _).grown hgrow (fun k' e => by have := hob k' e; omega); have OT2 : Hid (OwnS wb (w.heap.size + 1) u6 ls) := (OT.out.later (balloc _ _)).kept hgrow HST.out; have hsb : w.heap.size + 1 ≤ wb.heap.size := Nat.le_trans (Nat.le_trans hsa (by simp)) hgrow.size; clear hown' hgrow hown hob CA GA OT OD HST))
        have hlit := litS_cells wb #[.string (ByteArray.mk #[97]), .string (ByteArray.mk #[98]), .string (ByteArray.mk #[99]), .string (ByteArray.mk #[100])] 9 4 rfl ⟨by decide, by decide, by decide, by decide, trivial⟩
        have hgb : w.heap.size < wb.heap.size := CB.out.lt
        refine (of_c w.heap.size ao n c _ wb.heap.size 4 _ (by omega) (by omega) hlit (by omega) (CB.out.alloc _)).mono ?_
        rintro e wc ⟨s, rfl, hss, hc1, hg1⟩
        have CC : Hid (Cur wc w.heap.size ao n c (10 + 4 * p + 2 + 2)) := hc1
        have GC : Hid (GB w.heap.size w wc) := (GB2.out.alloc _).trans hg1
        have OD3 : Hid (Own wc (w.heap.size + 1) v1 (ds ++ [x])) := (OD2.out.later (balloc _ _)).kept hg1 (sep_own (OD2.out.later (balloc wb (.cells #[.string (ByteArray.mk #[97]), .string (ByteArray.mk #[98]), .string (ByteArray.mk #[99]), .string (ByteArray.mk #[100])] 9))) (by omega))
        have OT3 : Hid (OwnS wc (w.heap.size + 1) u6 ls) := (OT2.out.later (balloc _ _)).kept hg1 (sep_ownS (OT2.out.later (balloc wb (.cells #[.string (ByteArray.mk #[97]), .string (ByteArray.mk #[98]), .string (ByteArray.mk #[99]), .string (ByteArray.mk #[100])] 9))) (by omega))
        have hsc : w.heap.size + 1 ≤ wc.heap.size := CC.out.lt
        clear hc1 hg1 CB GB2 OD2 OT2 hlit hgb
        have hown : wc.ownsRow (w.heap.size + 1) 9 1 u6 p (cellsS ls) := by have h := OT3.out; unfold OwnS at h; rw [HP2.out] at h; exact h
        have hob : ∀ k', u6.ownBlock = some k' → w.heap.size + 1 ≤ k' := own_block_geS OT3.out
        have hone2 : ∀ u ∈ [Value.string s], u.oneCell' = true := strs_oneCell [s]
        have HST : Hid (v1.ownBlock = none ∨ v1.ownBlock ≠ u6.ownBlock) := sep_types OD3.out OT3.out
        go_wp2_with ((at_builtin; refine wpList_append_own _ rfl _ _ 42 rfl (w.heap.size + 1) 9 j0 (.string ByteArray.empty) 1 16 Try.underlying42 hj jj0 jj1 jj2 rfl (by decide) _ _ _ rfl (hown.alloc _) ⟨wc.heap.size, 0, none⟩ 1 1 [.string s] rfl rfl (cell_new1 _ _ _) hone2 (by unfold maxLen; omega) (by omega) (by simp; omega) ?_; intro v2 wd hown' hgrow _; have OT4 : Hid (OwnS wd (w.heap.size + 1) v2 (ls ++ [s])) := own_pushS (w := wc) (v := u6) (by simpa [HP2.out] using hown'); have CD : Hid (Cur wd w.heap.size ao n c (10 + 4 * p + 2 + 2)) := (CC.out.alloc _).grown (B := w.heap.size + 1) hgrow hob (by omega) HOld.out; have GD : Hid (GB w.heap.size w wd) := (GC.out.alloc _).grown hgrow (fun k' e => by have := hob k' e; omega); have OD4 : Hid (Own wd (w.heap.size + 1) v1 (ds ++ [x])) := (OD3.out.later (balloc _ _)).kept hgrow HST.out; have hsd : w.heap.size + 1 ≤ wd.heap.size := Nat.le_trans (Nat.le_trans hsc (by simp)) hgrow.size; clear hown' hgrow hown hob CC GC OT3 OD3 HST))
        go_roundw
        case rel => exact ⟨k - 1, ds ++ [x], ls ++ [s], by go_num, by simp [HP.out, HP2.out], by rw [List.length_append, HP.out]; simp; omega, OD4, OT4, CD.out.mono (by rw [List.length_append, HP.out]; simp; omega), GD, hsd⟩
        case measure => simp [intOf]; omega
      · have k1 : (k : Int) ≤ 0 := by omega
        obtain ⟨a1, c1, hv1⟩ := hD.out.shape
        obtain ⟨a2, c2, hv2⟩ := hT.out.shape
        obtain ⟨p, hp⟩ : ∃ p, ds.length = p := ⟨_, rfl⟩
        rw [hp] at hv1
        rw [show ls.length = p by omega] at hv2
        subst hv1
        subst hv2
        have HP : Hid (ds.length = p) := hp
        have HP2 : Hid (ls.length = p) := by show _ = _; omega
        have hp10 : p ≤ 10 := by omega
        have HM : Hid (Cur wr w.heap.size ao n c 60) := hC.out.mono (by omega)
        clear hp hdl hk hC
        by_cases hp0 : p = 0
        · have hp1 : ¬ (0 : Int) < (p : Int) := by omega
          clear hp0
          go_wp2
          refine bodyPost_ret (v := .tuple #[.slice a1 p c1, .slice a2 p c2]) (by simp [results, Try.results35, go_sem]) rfl ⟨⟨a1, p, c1, ds, a2, c2, ls, rfl, hp10, HP.out, HP2.out, hD.out.mono (by omega), hT.out.mono (by omega)⟩, hG.out.below (Nat.le_refl _) (Nat.le_refl _)⟩
        · have hp1 : (0 : Int) < (p : Int) := by omega
          obtain ⟨gg, hgg, hgb⟩ := own_some hD.out (by omega)
          subst hgg
          clear hp0
          go_wp2_with fail
          refine (one_c w.heap.size ao n c (60) 20 _ (by omega) (by omega) HM.out).mono ?_
          rintro e we ⟨b2, rfl, hc1, hg1⟩
          have CE : Hid (Cur we w.heap.size ao n c (60 + 2)) := hc1
          have GE : Hid (GB w.heap.size w we) := hG.out.trans hg1
          have OE : Hid (Own we (w.heap.size + 1) (.slice (some ⟨gg, 0, none⟩) p c1) ds) := hD.out.kept hg1 (sep_own hD.out (by omega))
          have TE : Hid (OwnS we (w.heap.size + 1) (.slice a2 p c2) ls) := hT.out.kept hg1 (sep_ownS hT.out (by omega))
          clear hD hT
          clear hc1 hg1 HM hG
          cases b2
          · go_wp2
            refine bodyPost_ret (v := .tuple #[.slice (some ⟨gg, 0, none⟩) p c1, .slice a2 p c2]) (by simp [results, Try.results35, go_sem]) rfl ⟨⟨(some ⟨gg, 0, none⟩), p, c1, ds, a2, c2, ls, rfl, hp10, HP.out, HP2.out, OE.out.mono (by omega), TE.out.mono (by omega)⟩, GE.out.below (Nat.le_refl _) (Nat.le_refl _)⟩
          · have gc : we.cell? ⟨gg, 0, none⟩ = some (.int .i64 (ds.getD 0 0)) := by
              have h := OE.out
              rw [← HP.out] at h
              exact h.cell 0 (by rw [HP.out]; omega)
            have gf : we.frozen? ⟨gg, 0, none⟩ = false := by
              have h := OE.out
              rw [← HP.out] at h
              exact h.free 0
            have O6 : Hid (Own (we.setCell ⟨gg, 0, none⟩ (.int .i64 (-1))) (w.heap.size + 1) (.slice (some ⟨gg, 0, none⟩) p c1) (ds.set 0 (-1))) := own_set OE.out 0 _
            have T6 : Hid (OwnS (we.setCell ⟨gg, 0, none⟩ (.int .i64 (-1))) (w.heap.size + 1) (.slice a2 p c2) ls) := TE.out.kept ((GB.refl gg we).setCell _ _) (sep_types' OE.out TE.out)
            have B6 : Hid (Below w.heap.size w (we.setCell ⟨gg, 0, none⟩ (.int .i64 (-1)))) := (GE.out.below (Nat.le_refl _) (Nat.le_refl _)).setCell (by show w.heap.size ≤ gg; omega) _
            generalize ds.getD 0 0 = y0 at gc
            clear OE TE GE CE
            go_wp2
            refine bodyPost_ret (v := .tuple #[.slice (some ⟨gg, 0, none⟩) p c1, .slice a2 p c2]) (by simp [results, Try.results35, go_sem]) rfl ⟨⟨(some ⟨gg, 0, none⟩), p, c1, ds.set 0 (-1), a2, c2, ls, rfl, hp10, by rw [List.length_set]; exact HP.out, HP2.out, O6.out.mono (by omega), T6.out.mono (by omega)⟩, B6.out⟩

end Go.Proofs.Ytlmamlhpjakcoaa
