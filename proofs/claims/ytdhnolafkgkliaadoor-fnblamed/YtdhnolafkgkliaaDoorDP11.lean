/- Chapter 11: DrawProofFor. -/
import Derived.Test.YtdhnolafkgkliaaDoorD11
namespace Go.Proofs.YtdhnolafkgkliaaDoor
set_option linter.unusedVariables false
set_option maxRecDepth 1000000
set_option linter.unusedSimpArgs false
open Go.RowKit

theorem trip_len (xs : List Int) (l lo : Int) : (tripV xs l lo).hands.length ≤ 6 ∧ (tripV xs l lo).recs.length ≤ 6 := by
  unfold tripV
  split
  · rename_i h
    have h1 := trip_parts h
    have h2 := secsH_len h1.1
    simp only [handsL_length, recsL_length]
    unfold atI
    split <;> omega
  · simp

set_option maxHeartbeats 800000 in
theorem drawProofFor_c (ao : Option Addr) (n c : Nat) (w : World) (hn : n ≤ 9223372036854775807) (h : CodeOk w w.heap.size ao n) :
    Calls Tryd.prog 30 #[.slice ao n c] w fun e w' => ∃ (zs : List Int) (l lo : Int) (ha : Option Addr) (nh hc : Nat) (ra : Option Addr) (nr rc : Nat) (vl va vo hand : Int) (lh : List Int) (lr : List Rc), e = .returned (.tuple #[.agg #[.slice ha nh hc, .int .i64 vl, .int .i64 va, .slice ra nr rc, .int .i64 vo], .int .i64 hand]) ∧ (tripV zs l lo).hands = lh ∧ (tripV zs l lo).recs = lr ∧ lh.length = nh ∧ lr.length = nr ∧ zs.length ≤ 6 ∧ Own w' w.heap.size (.slice ha nh hc) lh ∧ OwnR w' w.heap.size (.slice ra nr rc) lr ∧ Below w.heap.size w w' := by
  have HN : Hid (CodeOk w w.heap.size ao n) := h
  clear h
  have HB_0 : Hid (Below w.heap.size w w) := Below.refl _ _
  have hHB := HB_0.out.alloc HB_0.out.size (.cells #[.slice none 0 0, .int .i64 0, .int .i64 0, .slice none 0 0, .int .i64 0] 28)
  have hZ := x5_new w (.slice none 0 0) (.int .i64 0) (.int .i64 0) (.slice none 0 0) (.int .i64 0) 28 w.heap.size rfl
  have hz : (w.alloc (.cells #[.slice none 0 0, .int .i64 0, .int .i64 0, .slice none 0 0, .int .i64 0] 28)).heap.size = w.heap.size + 1 := by simp
  obtain ⟨w1, hV1⟩ : ∃ V, w.alloc (.cells #[.slice none 0 0, .int .i64 0, .int .i64 0, .slice none 0 0, .int .i64 0] 28) = V := ⟨_, rfl⟩
  rw [hV1] at hHB hZ hz
  have HB_1 : Hid (Below w.heap.size w w1) := hHB
  have Z_1 : Hid (X5 w1 w.heap.size (.slice none 0 0) (.int .i64 0) (.int .i64 0) (.slice none 0 0) (.int .i64 0)) := hZ
  have z1 : w.heap.size + 1 ≤ w1.heap.size := by omega
  clear HB_0 hHB hZ hz
  go_enter Tryd.func30, Tryd.ntmps30
  go_wp2_with fail
  clear hV1
  refine (drawRunTrip_c ao n c _ hn (HN.out.later HB_1.out HB_1.out.size)).mono ?_
  rintro e w2 ⟨pa, pq, pc, zs, l, lo, rfl, hq1, hq5, hlen0, ho, hb⟩
  have hB : Below w1.heap.size w1 w2 := hb
  have HB_2 : Hid (Below w.heap.size w w2) := HB_1.out.trans (hB.mono HB_1.out.size)
  have Z_2 : Hid (X5 w2 w.heap.size (.slice none 0 0) (.int .i64 0) (.int .i64 0) (.slice none 0 0) (.int .i64 0)) := Z_1.out.later hB
  have z2 : w1.heap.size ≤ w2.heap.size := hB.size
  have P_2 : Hid (Own w2 w1.heap.size (Value.slice pa pq pc) (zs)) := ho
  have I_P : Hid (∀ k, (Value.slice pa pq pc).ownBlock = some k → w1.heap.size ≤ k ∧ k < w2.heap.size) := World.ownsRow.lt P_2.out
  clear hb hB HB_1 Z_1 ho
  have HLn : Hid (zs.length = pq) := hlen0
  clear hlen0
  have hHB := HB_2.out.alloc HB_2.out.size (.cells #[.slice ao n c, .int .i64 0, .int .u64 0] 70)
  have hZ := Z_2.out.later (balloc w2 (.cells #[.slice ao n c, .int .i64 0, .int .u64 0] 70))
  have hP := P_2.out.later (balloc w2 (.cells #[.slice ao n c, .int .i64 0, .int .u64 0] 70))
  have hCU := cur_new (c := c) 70 hn (HN.out.later HB_2.out HB_2.out.size)
  have hz : (w2.alloc (.cells #[.slice ao n c, .int .i64 0, .int .u64 0] 70)).heap.size = w2.heap.size + 1 := by simp
  obtain ⟨w3, hV3⟩ : ∃ V, w2.alloc (.cells #[.slice ao n c, .int .i64 0, .int .u64 0] 70) = V := ⟨_, rfl⟩
  rw [hV3] at hHB hZ hP hCU hz
  have HB_3 : Hid (Below w.heap.size w w3) := hHB
  have Z_3 : Hid (X5 w3 w.heap.size (.slice none 0 0) (.int .i64 0) (.int .i64 0) (.slice none 0 0) (.int .i64 0)) := hZ
  have P_3 : Hid (Own w3 w1.heap.size (Value.slice pa pq pc) (zs)) := hP
  have CU_3 : Hid (Cur w3 w2.heap.size ao n c 0) := hCU
  have z3 : w2.heap.size + 1 ≤ w3.heap.size := by omega
  clear HB_2 Z_2 P_2 hHB hZ hP hCU hz
  have hlen := trip_len zs l lo
  have qs := fun wx h => specTrip_c pa pq pc zs l lo wx HLn.out (by omega) h
  obtain ⟨lh, h1⟩ : ∃ z, (tripV zs l lo).hands = z := ⟨_, rfl⟩
  obtain ⟨lr, h2⟩ : ∃ z, (tripV zs l lo).recs = z := ⟨_, rfl⟩
  rw [h1, h2] at hlen
  simp only [h1, h2] at qs
  obtain ⟨nh, h3⟩ : ∃ z, lh.length = z := ⟨_, rfl⟩
  obtain ⟨nr, h4⟩ : ∃ z, lr.length = z := ⟨_, rfl⟩
  rw [h3, h4] at hlen
  simp only [h3, h4] at qs
  generalize (tripV zs l lo).letter = vl at qs
  generalize (tripV zs l lo).at = va at qs
  generalize (tripV zs l lo).lost = vo at qs
  generalize tripOk zs l lo = fb at qs
  have HT : Hid ((tripV zs l lo).hands = lh ∧ (tripV zs l lo).recs = lr ∧ lh.length = nh ∧ lr.length = nr) := ⟨h1, h2, h3, h4⟩
  have HQ : Hid (∀ wx, Rd wx pa zs → Calls Tryd.prog 11 #[.slice pa pq pc, .int .i64 l, .int .i64 lo] wx fun e w' => ∃ ha hc ra rc, e = .returned (.tuple #[.agg #[.slice ha nh hc, .int .i64 vl, .int .i64 va, .slice ra nr rc, .int .i64 vo], .bool fb]) ∧ Own w' wx.heap.size (.slice ha nh hc) lh ∧ OwnR w' wx.heap.size (.slice ra nr rc) lr ∧ Below wx.heap.size wx w') := qs
  clear qs h1 h2 h3 h4
  go_wp2_with fail
  clear hV3
  refine (HQ.out _ P_3.out.rd'.2).mono ?_
  rintro e w4 ⟨ha, hc, ra, rc, rfl, hoh, hor, hb⟩
  have hB : Below w3.heap.size w3 w4 := hb
  have HB_4 : Hid (Below w.heap.size w w4) := HB_3.out.trans (hB.mono HB_3.out.size)
  have Z_4 : Hid (X5 w4 w.heap.size (.slice none 0 0) (.int .i64 0) (.int .i64 0) (.slice none 0 0) (.int .i64 0)) := Z_3.out.later hB
  have CU_4 : Hid (Cur w4 w2.heap.size ao n c 0) := CU_3.out.later hB
  have z4 : w3.heap.size ≤ w4.heap.size := hB.size
  have Th_4 : Hid (Own w4 w3.heap.size (Value.slice ha nh hc) (lh)) := hoh
  have I_Th : Hid (∀ k, (Value.slice ha nh hc).ownBlock = some k → w3.heap.size ≤ k ∧ k < w4.heap.size) := World.ownsRow.lt Th_4.out
  have Tr_4 : Hid (OwnR w4 w3.heap.size (Value.slice ra nr rc) (lr)) := hor
  have I_Tr : Hid (∀ k, (Value.slice ra nr rc).ownBlock = some k → w3.heap.size ≤ k ∧ k < w4.heap.size) := World.ownsRow.lt Tr_4.out
  clear hb hB HB_3 Z_3 P_3 CU_3 hoh hor
  have hHB := HB_4.out.alloc HB_4.out.size (.cells #[.slice ha nh hc, .int .i64 vl, .int .i64 va, .slice ra nr rc, .int .i64 vo] 28)
  have hZ := Z_4.out.later (balloc w4 (.cells #[.slice ha nh hc, .int .i64 vl, .int .i64 va, .slice ra nr rc, .int .i64 vo] 28))
  have hCU := CU_4.out.later (balloc w4 (.cells #[.slice ha nh hc, .int .i64 vl, .int .i64 va, .slice ra nr rc, .int .i64 vo] 28))
  have hTh := Th_4.out.later (balloc w4 (.cells #[.slice ha nh hc, .int .i64 vl, .int .i64 va, .slice ra nr rc, .int .i64 vo] 28))
  have hTr := Tr_4.out.later (balloc w4 (.cells #[.slice ha nh hc, .int .i64 vl, .int .i64 va, .slice ra nr rc, .int .i64 vo] 28))
  have hT := x5_new w4 (.slice ha nh hc) (.int .i64 vl) (.int .i64 va) (.slice ra nr rc) (.int .i64 vo) 28 w4.heap.size rfl
  have hz : (w4.alloc (.cells #[.slice ha nh hc, .int .i64 vl, .int .i64 va, .slice ra nr rc, .int .i64 vo] 28)).heap.size = w4.heap.size + 1 := by simp
  obtain ⟨w5, hV5⟩ : ∃ V, w4.alloc (.cells #[.slice ha nh hc, .int .i64 vl, .int .i64 va, .slice ra nr rc, .int .i64 vo] 28) = V := ⟨_, rfl⟩
  rw [hV5] at hHB hZ hCU hTh hTr hT hz
  have HB_5 : Hid (Below w.heap.size w w5) := hHB
  have Z_5 : Hid (X5 w5 w.heap.size (.slice none 0 0) (.int .i64 0) (.int .i64 0) (.slice none 0 0) (.int .i64 0)) := hZ
  have CU_5 : Hid (Cur w5 w2.heap.size ao n c 0) := hCU
  have Th_5 : Hid (Own w5 w3.heap.size (Value.slice ha nh hc) (lh)) := hTh
  have Tr_5 : Hid (OwnR w5 w3.heap.size (Value.slice ra nr rc) (lr)) := hTr
  have T_5 : Hid (X5 w5 w4.heap.size (.slice ha nh hc) (.int .i64 vl) (.int .i64 va) (.slice ra nr rc) (.int .i64 vo)) := hT
  have z5 : w4.heap.size + 1 ≤ w5.heap.size := by omega
  clear HB_4 Z_4 CU_4 Th_4 Tr_4 hHB hZ hCU hTh hTr hT hz
  obtain ⟨⟨Tq0, Tq1, Tq2, Tq3, Tq4⟩, Tf⟩ := id (T_5.out)
  clear Tf
  go_wp2_with fail
  clear hV5
  have HWr : Hid (IntKind.i64.wrap ((nh : Int) + 2) = (nh : Int) + 2) := by show _ = _; rw [IntKind.wrap_i64]; omega
  go_region_with ((try rw [HWr.out]); go_at_call 42; refine (pick_c (w2.heap.size) ao n c 0 ((nh : Int) + 2) _ (by omega) (by omega) (by first | exact CU_5.out | exact CU_5.out.later (Below.refl _ _).drew)).mono ?_; rintro e w6 ⟨x, rfl, hx0, hx1, hc9, hg⟩; have hwx : IntKind.i64.wrap (x - 1) = x - 1 := (by rw [IntKind.wrap_i64]; omega); have hg9 : GB (w2.heap.size) w5 w6 := (by first | exact hg | exact (GB.of_below (Below.refl _ w5).drew (Nat.le_refl _)).trans hg); have HB_6 : Hid (Below w.heap.size w w6) := HB_5.out.trans (hg9.below HB_5.out.size (by have := HB_5.out.size; omega)); have Z_6 : Hid (X5 w6 w.heap.size (.slice none 0 0) (.int .i64 0) (.int .i64 0) (.slice none 0 0) (.int .i64 0)) := Z_5.out.grown hg9 (fun e => by have e2 := Option.some.inj e; omega); have Th_6 : Hid (Own w6 w3.heap.size (Value.slice ha nh hc) (lh)) := Th_5.out.kept hg9 (sep_lt (own_block_ge Th_5.out) (by omega)); have Tr_6 : Hid (OwnR w6 w3.heap.size (Value.slice ra nr rc) (lr)) := Tr_5.out.kept hg9 (sep_lt (own_block_geR Tr_5.out) (by omega)); have T_6 : Hid (X5 w6 w4.heap.size (.slice ha nh hc) (.int .i64 vl) (.int .i64 va) (.slice ra nr rc) (.int .i64 vo)) := T_5.out.grown hg9 (fun e => by have e2 := Option.some.inj e; omega); obtain ⟨⟨t0, t1, t2, t3, t4⟩, _⟩ := id (T_6.out); obtain ⟨⟨q0, q1, q2, q3, q4⟩, qf⟩ := id (Z_6.out); have qf0 := qf 0; have qf1 := qf 1; have qf2 := qf 2; have qf3 := qf 3; have qf4 := qf 4; have hZ9 := ((((Z_6.out.set0 (.slice ha nh hc)).set1 (.int .i64 vl)).set2 (.int .i64 va)).set3 (.slice ra nr rc)).set4 (.int .i64 vo); obtain ⟨⟨y0, y1, y2, y3, y4⟩, _⟩ := hZ9; clear qf hc9 hg hg9)
  all_goals go_wp2
  all_goals refine bodyPost_ret (v := .tuple #[.agg #[.slice ha nh hc, .int .i64 vl, .int .i64 va, .slice ra nr rc, .int .i64 vo], .int .i64 (x - 1)]) (by simp [results, Tryd.results30, go_sem, y0, y1, y2, y3, y4]; try rfl) rfl ?_
  all_goals have hgr : w6.grownBy _ (some w.heap.size) := grown_trans' (grown_trans' (grown_trans' (grown_trans' (grown_setCell w6 w.heap.size 0 (.slice ha nh hc)) (grown_setCell _ w.heap.size 1 (.int .i64 vl))) (grown_setCell _ w.heap.size 2 (.int .i64 va))) (grown_setCell _ w.heap.size 3 (.slice ra nr rc))) (grown_setCell _ w.heap.size 4 (.int .i64 vo))
  all_goals exact ⟨zs, l, lo, ha, nh, hc, ra, nr, rc, vl, va, vo, x - 1, lh, lr, rfl, HT.out.1, HT.out.2.1, HT.out.2.2.1, HT.out.2.2.2, by rw [HLn.out]; omega, (Th_6.out.kept hgr (sep_lt (own_block_ge Th_6.out) (by omega))).mono (by omega), (Tr_6.out.kept hgr (sep_lt (own_block_geR Tr_6.out) (by omega))).mono (by omega), (((((HB_6.out.setCell (Nat.le_refl _) _).setCell (Nat.le_refl _) _).setCell (Nat.le_refl _) _).setCell (Nat.le_refl _) _).setCell (Nat.le_refl _) _)⟩

end Go.Proofs.YtdhnolafkgkliaaDoor
