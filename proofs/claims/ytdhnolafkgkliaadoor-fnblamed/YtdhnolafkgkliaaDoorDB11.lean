/- Chapter 11: DrawBlameOf. -/
import Derived.Test.YtdhnolafkgkliaaDoorFB11P
import Derived.Test.YtdhnolafkgkliaaDoorL11
namespace Go.Proofs.YtdhnolafkgkliaaDoor
set_option linter.unusedVariables false
set_option maxRecDepth 1000000
set_option linter.unusedSimpArgs false
open Go.RowKit

def DrawnBlame (w : World) (e : Ending) (w' : World) : Prop := ∃ (qa : Option Addr) (np qc : Nat) (ps : List Int) (l : Int) (ra : Option Addr) (nr rc : Nat) (rs : List Rc), e = .returned (.tuple #[.slice qa np qc, .int .i64 l, .slice ra nr rc]) ∧ ps.length = np ∧ np ≤ 6 ∧ rs.length = nr ∧ nr ≤ 12 ∧ Rd w' qa ps ∧ RdR w' ra rs ∧ Below w.heap.size w w'

theorem trip_signs (xs : List Int) (l lo : Int) : ∀ r ∈ (tripV xs l lo).recs, 0 ≤ r.2.2.2 ∧ r.2.2.2 < 1499 := by
  unfold tripV
  split
  · intro r hr
    obtain ⟨j, _, rfl⟩ := recsL_mem hr
    exact signN_bd
  · intro r hr; simp at hr

theorem ownR_some {w : World} {base n c : Nat} {ao : Option Addr} {l : List Rc} (h : OwnR w base (.slice ao n c) l) (h0 : 0 < n) : ∃ g, ao = some ⟨g, 0, none⟩ ∧ base ≤ g := by
  rcases h.form with ⟨h1, _⟩ | ⟨g, cap, h1, hb, _⟩
  · simp only [Value.slice.injEq] at h1; omega
  · simp only [Value.slice.injEq] at h1; exact ⟨g, h1.1, hb⟩

theorem ownR_cap {w : World} {base n c : Nat} {ao : Option Addr} {l : List Rc} (h : OwnR w base (.slice ao n c) l) : n ≤ c ∧ c ≤ maxLen := by
  have hl := h.rd'.1
  rcases h.form with ⟨h1, _⟩ | ⟨g, cap, h1, _, _, hc, hm⟩
  · simp only [Value.slice.injEq] at h1; unfold maxLen; omega
  · simp only [Value.slice.injEq] at h1; omega

theorem emptyR (w : World) : OwnR (w.alloc (.cells #[] 43)) w.heap.size (.slice (some ⟨w.heap.size, 0, none⟩) 0 0) [] :=
  ⟨rfl, .inr ⟨w.heap.size, 0, #[], rfl, Nat.le_refl _, (by show (w.heap.push _)[w.heap.size]? = _; simp), Nat.le_refl _, Nat.zero_le _, rfl, rfl⟩⟩

theorem rdR_take {w : World} {ao : Option Addr} {l : List Rc} (h : RdR w ao l) (k : Nat) : RdR w ao (l.take k) := by
  rcases h with rfl | ⟨b, off, rfl, hc⟩
  · exact Or.inl (by simp)
  · refine Or.inr ⟨b, off, rfl, fun j hj => ?_⟩
    rw [List.length_take] at hj
    have e : (l.take k).getD j (0, 0, 0, 0) = l.getD j (0, 0, 0, 0) := by simp [List.getD, List.getElem?_take, show j < k by omega]
    rw [e]
    exact hc j (by omega)

theorem rdR_drop {w : World} {g : Nat} {l : List Rc} (h : RdR w (some ⟨g, 0, none⟩) l) (m : Nat) : RdR w (some ⟨g, m * 4, none⟩) (l.drop m) := by
  rcases h with rfl | ⟨b, off, hb, hc⟩
  · exact Or.inl (by simp)
  · simp only [Option.some.injEq, Addr.mk.injEq] at hb
    obtain ⟨rfl, rfl, _⟩ := hb
    refine Or.inr ⟨g, m * 4, rfl, fun j hj => ?_⟩
    rw [List.length_drop] at hj
    have e : (l.drop m).getD j (0, 0, 0, 0) = l.getD (m + j) (0, 0, 0, 0) := by simp [List.getD, List.getElem?_drop]
    rw [e]
    have := hc (m + j) (by omega)
    rw [show 0 + (m + j) * 4 = m * 4 + j * 4 by omega] at this
    exact this

theorem row_sepB {w : World} {b1 b2 t1 t2 K1 K2 n m g c : Nat} {v : Value} {cs ds : List Value} (h : w.ownsRow b1 t1 K1 v n cs) (k : w.ownsRow b2 t2 K2 (.slice (some ⟨g, 0, none⟩) m c) m ds) (ht : t1 ≠ t2) : v.ownBlock = none ∨ v.ownBlock ≠ some g := by
  have := row_sepT h k ht
  simpa [Value.ownBlock] using this

theorem rdR_set3 {w : World} {g : Nat} {l : List Rc} (h : RdR w (some ⟨g, 0, none⟩) l) (v : Int) (h0 : 0 < l.length) : RdR (w.setCell ⟨g, 3, none⟩ (.int .i64 v)) (some ⟨g, 0, none⟩) (l.set 0 ((l.getD 0 (0, 0, 0, 0)).1, (l.getD 0 (0, 0, 0, 0)).2.1, (l.getD 0 (0, 0, 0, 0)).2.2.1, v)) := by
  rcases h with rfl | ⟨b, off, hb, hc⟩
  · simp at h0
  · simp only [Option.some.injEq, Addr.mk.injEq] at hb
    obtain ⟨rfl, rfl, _⟩ := hb
    refine Or.inr ⟨g, 0, rfl, fun j hj => ?_⟩
    rw [List.length_set] at hj
    obtain ⟨c0, c1, c2, c3⟩ := hc j hj
    have o : ∀ i, i ≠ 3 → (w.setCell ⟨g, 3, none⟩ (.int .i64 v)).cell? ⟨g, i, none⟩ = w.cell? ⟨g, i, none⟩ := fun i hi => World.cell?_setCell_other _ _ _ _ (by simp; try omega)
    by_cases e : j = 0
    · subst e
      have hg : (l.set 0 ((l.getD 0 (0, 0, 0, 0)).1, (l.getD 0 (0, 0, 0, 0)).2.1, (l.getD 0 (0, 0, 0, 0)).2.2.1, v)).getD 0 (0, 0, 0, 0) = ((l.getD 0 (0, 0, 0, 0)).1, (l.getD 0 (0, 0, 0, 0)).2.1, (l.getD 0 (0, 0, 0, 0)).2.2.1, v) := by simp [List.getD, h0]
      rw [hg]
      refine ⟨?_, ?_, ?_, ?_⟩
      · rw [o _ (by omega)]; exact c0
      · rw [o _ (by omega)]; exact c1
      · rw [o _ (by omega)]; exact c2
      · simp only [Nat.zero_mul, Nat.zero_add] at c3 ⊢; exact World.cell?_setCell_same _ _ _ c3
    · have hg : (l.set 0 ((l.getD 0 (0, 0, 0, 0)).1, (l.getD 0 (0, 0, 0, 0)).2.1, (l.getD 0 (0, 0, 0, 0)).2.2.1, v)).getD j (0, 0, 0, 0) = l.getD j (0, 0, 0, 0) := by simp [List.getD, List.getElem?_set, Ne.symm e]
      rw [hg]
      refine ⟨?_, ?_, ?_, ?_⟩
      · rw [o _ (by omega)]; exact c0
      · rw [o _ (by omega)]; exact c1
      · rw [o _ (by omega)]; exact c2
      · rw [o _ (by omega)]; exact c3

set_option maxHeartbeats 16000000 in
theorem drawBlame_c (ao : Option Addr) (n c : Nat) (w : World) (hn : n ≤ 9223372036854775807) (h : CodeOk w w.heap.size ao n) :
    Calls Tryd.prog 20 #[.slice ao n c] w (DrawnBlame w) := by
  have HN : Hid (CodeOk w w.heap.size ao n) := h
  have HOld : Hid (Old ao n w.heap.size) := h.old
  clear h
  have HB_0 : Hid (Below w.heap.size w w) := Below.refl _ _
  go_enter Tryd.func20, Tryd.ntmps20
  go_wp2_with fail
  refine (drawRunTrip_c ao n c _ hn HN.out).mono ?_
  rintro e w1 ⟨pa, pq, pc, zs, l, lo, rfl, hq1, hq5, hlen0, ho, hb⟩
  have hB : Below w.heap.size w w1 := hb
  have HB_1 : Hid (Below w.heap.size w w1) := HB_0.out.trans (hB.mono HB_0.out.size)
  have z1 : w.heap.size ≤ w1.heap.size := hB.size
  have P_1 : Hid (Own w1 w.heap.size (Value.slice pa pq pc) (zs)) := ho
  have I_P : Hid (∀ k, (Value.slice pa pq pc).ownBlock = some k → w.heap.size ≤ k ∧ k < w1.heap.size) := World.ownsRow.lt P_1.out
  clear hb hB HB_0 ho
  have HLn : Hid (zs.length = pq) := hlen0
  clear hlen0
  have hHB := HB_1.out.alloc HB_1.out.size (.cells #[.slice ao n c, .int .i64 0, .int .u64 0] 70)
  have hP := P_1.out.later (balloc w1 (.cells #[.slice ao n c, .int .i64 0, .int .u64 0] 70))
  have hCU := cur_new (c := c) 70 hn (HN.out.later HB_1.out HB_1.out.size)
  have hz : (w1.alloc (.cells #[.slice ao n c, .int .i64 0, .int .u64 0] 70)).heap.size = w1.heap.size + 1 := by simp
  obtain ⟨w2, hV2⟩ : ∃ V, w1.alloc (.cells #[.slice ao n c, .int .i64 0, .int .u64 0] 70) = V := ⟨_, rfl⟩
  rw [hV2] at hHB hP hCU hz
  have HB_2 : Hid (Below w.heap.size w w2) := hHB
  have P_2 : Hid (Own w2 w.heap.size (Value.slice pa pq pc) (zs)) := hP
  have CU_2 : Hid (Cur w2 w1.heap.size ao n c 0) := hCU
  have z2 : w1.heap.size + 1 ≤ w2.heap.size := by omega
  clear HB_1 P_1 hHB hP hCU hz
  have hlen := trip_len zs l lo
  have hsg := trip_signs zs l lo
  have qs := fun wx h => specTrip_c pa pq pc zs l lo wx HLn.out (by omega) h
  obtain ⟨lh, h1⟩ : ∃ z, (tripV zs l lo).hands = z := ⟨_, rfl⟩
  obtain ⟨lr, h2⟩ : ∃ z, (tripV zs l lo).recs = z := ⟨_, rfl⟩
  rw [h1, h2] at hlen
  rw [h2] at hsg
  simp only [h1, h2] at qs
  obtain ⟨nh, h3⟩ : ∃ z, lh.length = z := ⟨_, rfl⟩
  obtain ⟨nr, h4⟩ : ∃ z, lr.length = z := ⟨_, rfl⟩
  rw [h3, h4] at hlen
  simp only [h3, h4] at qs
  generalize (tripV zs l lo).letter = vl at qs
  generalize (tripV zs l lo).at = va at qs
  generalize (tripV zs l lo).lost = vo at qs
  generalize tripOk zs l lo = fb at qs
  have HLr : Hid (lr.length = nr) := h4
  have HSg : Hid (∀ r ∈ lr, 0 ≤ r.2.2.2 ∧ r.2.2.2 < 1499) := hsg
  have HQ : Hid (∀ wx, Rd wx pa zs → Calls Tryd.prog 11 #[.slice pa pq pc, .int .i64 l, .int .i64 lo] wx fun e w' => ∃ ha hc ra rc, e = .returned (.tuple #[.agg #[.slice ha nh hc, .int .i64 vl, .int .i64 va, .slice ra nr rc, .int .i64 vo], .bool fb]) ∧ Own w' wx.heap.size (.slice ha nh hc) lh ∧ OwnR w' wx.heap.size (.slice ra nr rc) lr ∧ Below wx.heap.size wx w') := qs
  clear qs h1 h2 h3 h4 hsg
  obtain ⟨pl, hpl⟩ : ∃ z, pubsL zs = z := ⟨_, rfl⟩
  obtain ⟨np, hnp⟩ : ∃ z, pl.length = z := ⟨_, rfl⟩
  obtain ⟨fq, hfq⟩ : ∃ z, secsH zs = z := ⟨_, rfl⟩
  have hnp6 : np ≤ 6 := by
    rw [← hnp, ← hpl]
    unfold pubsL
    split
    · simp only [rootL, List.length_map]; rw [HLn.out]; omega
    · simp
  have HNp : Hid (pl.length = np) := hnp
  have HQP : Hid (∀ wx, Rd wx pa zs → Calls Tryd.prog 13 #[.slice pa pq pc] wx fun e w' => ∃ a' c', e = .returned (.tuple #[.slice a' np c', .bool fq]) ∧ Own w' wx.heap.size (.slice a' np c') pl ∧ Below wx.heap.size wx w') := fun wx h => by have := specPublics_c pa pq pc zs wx HLn.out (by omega) h np (by rw [hpl]; exact hnp); rw [hpl, hfq] at this; exact this
  clear hpl hnp hfq
  go_wp2_with fail
  clear hV2
  refine (HQ.out _ P_2.out.rd'.2).mono ?_
  rintro e w3 ⟨ha, hd, ra, rc, rfl, hoh, hor, hb⟩
  have hB : Below w2.heap.size w2 w3 := hb
  have HB_3 : Hid (Below w.heap.size w w3) := HB_2.out.trans (hB.mono HB_2.out.size)
  have P_3 : Hid (Own w3 w.heap.size (Value.slice pa pq pc) (zs)) := P_2.out.later hB
  have CU_3 : Hid (Cur w3 w1.heap.size ao n c 0) := CU_2.out.later hB
  have z3 : w2.heap.size ≤ w3.heap.size := hB.size
  have Tr_3 : Hid (OwnR w3 w2.heap.size (Value.slice ra nr rc) (lr)) := hor
  have I_Tr : Hid (∀ k, (Value.slice ra nr rc).ownBlock = some k → w2.heap.size ≤ k ∧ k < w3.heap.size) := World.ownsRow.lt Tr_3.out
  clear hb hB HB_2 P_2 CU_2 hor
  clear hoh
  have hHB := HB_3.out.alloc HB_3.out.size (.cells #[.slice ha nh hd, .int .i64 vl, .int .i64 va, .slice ra nr rc, .int .i64 vo] 28)
  have hP := P_3.out.later (balloc w3 (.cells #[.slice ha nh hd, .int .i64 vl, .int .i64 va, .slice ra nr rc, .int .i64 vo] 28))
  have hCU := CU_3.out.later (balloc w3 (.cells #[.slice ha nh hd, .int .i64 vl, .int .i64 va, .slice ra nr rc, .int .i64 vo] 28))
  have hTr := Tr_3.out.later (balloc w3 (.cells #[.slice ha nh hd, .int .i64 vl, .int .i64 va, .slice ra nr rc, .int .i64 vo] 28))
  have hT := x5_new w3 (.slice ha nh hd) (.int .i64 vl) (.int .i64 va) (.slice ra nr rc) (.int .i64 vo) 28 w3.heap.size rfl
  have hz : (w3.alloc (.cells #[.slice ha nh hd, .int .i64 vl, .int .i64 va, .slice ra nr rc, .int .i64 vo] 28)).heap.size = w3.heap.size + 1 := by simp
  obtain ⟨w4, hV4⟩ : ∃ V, w3.alloc (.cells #[.slice ha nh hd, .int .i64 vl, .int .i64 va, .slice ra nr rc, .int .i64 vo] 28) = V := ⟨_, rfl⟩
  rw [hV4] at hHB hP hCU hTr hT hz
  have HB_4 : Hid (Below w.heap.size w w4) := hHB
  have P_4 : Hid (Own w4 w.heap.size (Value.slice pa pq pc) (zs)) := hP
  have CU_4 : Hid (Cur w4 w1.heap.size ao n c 0) := hCU
  have Tr_4 : Hid (OwnR w4 w2.heap.size (Value.slice ra nr rc) (lr)) := hTr
  have T_4 : Hid (X5 w4 w3.heap.size (.slice ha nh hd) (.int .i64 vl) (.int .i64 va) (.slice ra nr rc) (.int .i64 vo)) := hT
  have z4 : w3.heap.size + 1 ≤ w4.heap.size := by omega
  clear HB_3 P_3 CU_3 Tr_3 hHB hP hCU hTr hT hz
  go_wp2_with fail
  clear hV4
  refine (HQP.out _ P_4.out.rd'.2).mono ?_
  rintro e w5 ⟨qa, qc, rfl, ho, hb⟩
  have hB : Below w4.heap.size w4 w5 := hb
  have HB_5 : Hid (Below w.heap.size w w5) := HB_4.out.trans (hB.mono HB_4.out.size)
  have CU_5 : Hid (Cur w5 w1.heap.size ao n c 0) := CU_4.out.later hB
  have Tr_5 : Hid (OwnR w5 w2.heap.size (Value.slice ra nr rc) (lr)) := Tr_4.out.later hB
  have T_5 : Hid (X5 w5 w3.heap.size (.slice ha nh hd) (.int .i64 vl) (.int .i64 va) (.slice ra nr rc) (.int .i64 vo)) := T_4.out.later hB
  have z5 : w4.heap.size ≤ w5.heap.size := hB.size
  have Q_5 : Hid (Own w5 w4.heap.size (Value.slice qa np qc) (pl)) := ho
  have I_Q : Hid (∀ k, (Value.slice qa np qc).ownBlock = some k → w4.heap.size ≤ k ∧ k < w5.heap.size) := World.ownsRow.lt Q_5.out
  clear hb hB HB_4 P_4 CU_4 Tr_4 T_4 ho
  obtain ⟨⟨Tq0, Tq1, Tq2, Tq3, Tq4⟩, Tf⟩ := id (T_5.out)
  clear Tf
  by_cases h1n : 1 < nr
  case neg =>
    have h1i : ¬ (1 : Int) < (nr : Int) := by omega
    by_cases h0n : 0 < nr
    case neg =>
      have h0i : ¬ (0 : Int) < (nr : Int) := by omega
      go_wp2
      refine bodyPost_ret (v := .tuple #[.slice qa np qc, .int .i64 l, .slice ra nr rc]) (by simp [results, Tryd.results20, go_sem]; try rfl) rfl ?_
      exact ⟨qa, np, qc, pl, l, ra, nr, rc, lr, rfl, HNp.out, by omega, HLr.out, by omega, Q_5.out.rd'.2, Tr_5.out.rd'.2, HB_5.out⟩
    have h0i : (0 : Int) < (nr : Int) := by omega
    go_wp2_with fail
    refine (one_c (w1.heap.size) ao n c 0 6 _ (by omega) (by omega) CU_5.out).mono ?_
    rintro e w6 ⟨b6, rfl, hc, hg⟩
    have hg9 : GB (w1.heap.size) w5 w6 := hg
    have z6 : w5.heap.size ≤ w6.heap.size := hg9.size
    have HB_6 : Hid (Below w.heap.size w w6) := HB_5.out.trans (hg9.below HB_5.out.size (by have := HB_5.out.size; omega))
    have Tr_6 : Hid (OwnR w6 w2.heap.size (Value.slice ra nr rc) (lr)) := Tr_5.out.kept hg9 (sep_lt (own_block_geR Tr_5.out) (by omega))
    have T_6 : Hid (X5 w6 w3.heap.size (.slice ha nh hd) (.int .i64 vl) (.int .i64 va) (.slice ra nr rc) (.int .i64 vo)) := T_5.out.grown hg9 (fun e => by have e2 := Option.some.inj e; omega)
    have Q_6 : Hid (Own w6 w4.heap.size (Value.slice qa np qc) (pl)) := Q_5.out.kept hg9 (sep_lt (own_block_ge Q_5.out) (by omega))
    have CU_6 : Hid (Cur w6 w1.heap.size ao n c 2) := hc.mono (by omega)
    clear hc hg hg9 HB_5 CU_5 Tr_5 T_5 Q_5
    by_cases hb6 : b6 = true
    case neg =>
      rw [Bool.not_eq_true] at hb6
      subst hb6
      go_wp2
      refine bodyPost_ret (v := .tuple #[.slice qa np qc, .int .i64 l, .slice ra nr rc]) (by simp [results, Tryd.results20, go_sem]; try rfl) rfl ?_
      exact ⟨qa, np, qc, pl, l, ra, nr, rc, lr, rfl, HNp.out, by omega, HLr.out, by omega, Q_6.out.rd'.2, Tr_6.out.rd'.2, HB_6.out⟩
    subst hb6
    obtain ⟨gg, hra, hgb⟩ := ownR_some Tr_6.out h0n
    subst hra
    obtain ⟨bb, oo, hbo, k0, k1, k2, k3⟩ := (Tr_6.out.rd'.2).get (k := 0) (by rw [HLr.out]; exact h0n)
    simp only [Option.some.injEq, Addr.mk.injEq] at hbo
    obtain ⟨rfl, rfl, _⟩ := hbo
    have hsx := HSg.out _ (mem_getD (0, 0, 0, 0) (by rw [HLr.out]; exact h0n : 0 < (lr).length))
    have kf3 : w6.frozen? ⟨gg, 3, none⟩ = false := World.ownsRow.frozenAt (Tr_6.out.raw HLr.out) 3
    have hRs := rdR_set3 (Tr_6.out.rd'.2) (((lr.getD 0 (0, 0, 0, 0)).2.2.2 + 1) % 1499) (by rw [HLr.out]; exact h0n)
    have hgr := grown_setCell w6 gg 3 (.int .i64 (((lr.getD 0 (0, 0, 0, 0)).2.2.2 + 1) % 1499))
    have hQs := (Q_6.out.kept hgr (row_sepB Q_6.out (Tr_6.out.raw HLr.out) (by decide))).rd'.2
    have hBs : Below w.heap.size w (w6.setCell ⟨gg, 3, none⟩ (.int .i64 (((lr.getD 0 (0, 0, 0, 0)).2.2.2 + 1) % 1499))) := HB_6.out.setCell (by show w.heap.size ≤ gg; have := HB_6.out.size; omega) _
    have HRs := (show Hid _ from hRs)
    have HQs := (show Hid _ from hQs)
    have HBs := (show Hid _ from hBs)
    clear hRs hQs hBs hgr
    have hl9 : ∀ y, (lr.set 0 y).length = nr := fun y => by rw [List.length_set]; exact HLr.out
    have HL9 := (show Hid _ from hl9)
    clear hl9
    simp only [Nat.zero_mul, Nat.zero_add] at k0 k1 k2 k3
    generalize (lr.getD 0 (0, 0, 0, 0)).1 = y0 at *
    generalize (lr.getD 0 (0, 0, 0, 0)).2.1 = y1 at *
    generalize (lr.getD 0 (0, 0, 0, 0)).2.2.1 = y2 at *
    generalize (lr.getD 0 (0, 0, 0, 0)).2.2.2 = y3 at *
    go_wp2
    refine bodyPost_ret (v := .tuple #[.slice qa np qc, .int .i64 l, .slice (some ⟨gg, 0, none⟩) nr rc]) (by simp [results, Tryd.results20, go_sem]; try rfl) rfl ?_
    exact ⟨qa, np, qc, pl, l, _, nr, rc, _, rfl, HNp.out, by omega, HL9.out _, by omega, HQs.out, HRs.out, HBs.out⟩
  have h1i : (1 : Int) < (nr : Int) := by omega
  go_wp2_with fail
  refine (one_c (w1.heap.size) ao n c 0 4 _ (by omega) (by omega) CU_5.out).mono ?_
  rintro e w6 ⟨b4, rfl, hc, hg⟩
  have hg9 : GB (w1.heap.size) w5 w6 := hg
  have z6 : w5.heap.size ≤ w6.heap.size := hg9.size
  have HB_6 : Hid (Below w.heap.size w w6) := HB_5.out.trans (hg9.below HB_5.out.size (by have := HB_5.out.size; omega))
  have Tr_6 : Hid (OwnR w6 w2.heap.size (Value.slice ra nr rc) (lr)) := Tr_5.out.kept hg9 (sep_lt (own_block_geR Tr_5.out) (by omega))
  have T_6 : Hid (X5 w6 w3.heap.size (.slice ha nh hd) (.int .i64 vl) (.int .i64 va) (.slice ra nr rc) (.int .i64 vo)) := T_5.out.grown hg9 (fun e => by have e2 := Option.some.inj e; omega)
  have Q_6 : Hid (Own w6 w4.heap.size (Value.slice qa np qc) (pl)) := Q_5.out.kept hg9 (sep_lt (own_block_ge Q_5.out) (by omega))
  have CU_6 : Hid (Cur w6 w1.heap.size ao n c 2) := hc.mono (by omega)
  clear hc hg hg9 HB_5 CU_5 Tr_5 T_5 Q_5
  by_cases hb4 : b4 = true
  case neg =>
    rw [Bool.not_eq_true] at hb4
    subst hb4
    by_cases h0n : 0 < nr
    case neg =>
      have h0i : ¬ (0 : Int) < (nr : Int) := by omega
      go_wp2
      refine bodyPost_ret (v := .tuple #[.slice qa np qc, .int .i64 l, .slice ra nr rc]) (by simp [results, Tryd.results20, go_sem]; try rfl) rfl ?_
      exact ⟨qa, np, qc, pl, l, ra, nr, rc, lr, rfl, HNp.out, by omega, HLr.out, by omega, Q_6.out.rd'.2, Tr_6.out.rd'.2, HB_6.out⟩
    have h0i : (0 : Int) < (nr : Int) := by omega
    go_wp2_with fail
    refine (one_c (w1.heap.size) ao n c 2 6 _ (by omega) (by omega) CU_6.out).mono ?_
    rintro e w7 ⟨b6, rfl, hc, hg⟩
    have hg9 : GB (w1.heap.size) w6 w7 := hg
    have z7 : w6.heap.size ≤ w7.heap.size := hg9.size
    have HB_7 : Hid (Below w.heap.size w w7) := HB_6.out.trans (hg9.below HB_6.out.size (by have := HB_6.out.size; omega))
    have Tr_7 : Hid (OwnR w7 w2.heap.size (Value.slice ra nr rc) (lr)) := Tr_6.out.kept hg9 (sep_lt (own_block_geR Tr_6.out) (by omega))
    have T_7 : Hid (X5 w7 w3.heap.size (.slice ha nh hd) (.int .i64 vl) (.int .i64 va) (.slice ra nr rc) (.int .i64 vo)) := T_6.out.grown hg9 (fun e => by have e2 := Option.some.inj e; omega)
    have Q_7 : Hid (Own w7 w4.heap.size (Value.slice qa np qc) (pl)) := Q_6.out.kept hg9 (sep_lt (own_block_ge Q_6.out) (by omega))
    have CU_7 : Hid (Cur w7 w1.heap.size ao n c 4) := hc.mono (by omega)
    clear hc hg hg9 HB_6 CU_6 Tr_6 T_6 Q_6
    by_cases hb6 : b6 = true
    case neg =>
      rw [Bool.not_eq_true] at hb6
      subst hb6
      go_wp2
      refine bodyPost_ret (v := .tuple #[.slice qa np qc, .int .i64 l, .slice ra nr rc]) (by simp [results, Tryd.results20, go_sem]; try rfl) rfl ?_
      exact ⟨qa, np, qc, pl, l, ra, nr, rc, lr, rfl, HNp.out, by omega, HLr.out, by omega, Q_7.out.rd'.2, Tr_7.out.rd'.2, HB_7.out⟩
    subst hb6
    obtain ⟨gg, hra, hgb⟩ := ownR_some Tr_7.out h0n
    subst hra
    obtain ⟨bb, oo, hbo, k0, k1, k2, k3⟩ := (Tr_7.out.rd'.2).get (k := 0) (by rw [HLr.out]; exact h0n)
    simp only [Option.some.injEq, Addr.mk.injEq] at hbo
    obtain ⟨rfl, rfl, _⟩ := hbo
    have hsx := HSg.out _ (mem_getD (0, 0, 0, 0) (by rw [HLr.out]; exact h0n : 0 < (lr).length))
    have kf3 : w7.frozen? ⟨gg, 3, none⟩ = false := World.ownsRow.frozenAt (Tr_7.out.raw HLr.out) 3
    have hRs := rdR_set3 (Tr_7.out.rd'.2) (((lr.getD 0 (0, 0, 0, 0)).2.2.2 + 1) % 1499) (by rw [HLr.out]; exact h0n)
    have hgr := grown_setCell w7 gg 3 (.int .i64 (((lr.getD 0 (0, 0, 0, 0)).2.2.2 + 1) % 1499))
    have hQs := (Q_7.out.kept hgr (row_sepB Q_7.out (Tr_7.out.raw HLr.out) (by decide))).rd'.2
    have hBs : Below w.heap.size w (w7.setCell ⟨gg, 3, none⟩ (.int .i64 (((lr.getD 0 (0, 0, 0, 0)).2.2.2 + 1) % 1499))) := HB_7.out.setCell (by show w.heap.size ≤ gg; have := HB_7.out.size; omega) _
    have HRs := (show Hid _ from hRs)
    have HQs := (show Hid _ from hQs)
    have HBs := (show Hid _ from hBs)
    clear hRs hQs hBs hgr
    have hl9 : ∀ y, (lr.set 0 y).length = nr := fun y => by rw [List.length_set]; exact HLr.out
    have HL9 := (show Hid _ from hl9)
    clear hl9
    simp only [Nat.zero_mul, Nat.zero_add] at k0 k1 k2 k3
    generalize (lr.getD 0 (0, 0, 0, 0)).1 = y0 at *
    generalize (lr.getD 0 (0, 0, 0, 0)).2.1 = y1 at *
    generalize (lr.getD 0 (0, 0, 0, 0)).2.2.1 = y2 at *
    generalize (lr.getD 0 (0, 0, 0, 0)).2.2.2 = y3 at *
    go_wp2
    refine bodyPost_ret (v := .tuple #[.slice qa np qc, .int .i64 l, .slice (some ⟨gg, 0, none⟩) nr rc]) (by simp [results, Tryd.results20, go_sem]; try rfl) rfl ?_
    exact ⟨qa, np, qc, pl, l, _, nr, rc, _, rfl, HNp.out, by omega, HL9.out _, by omega, HQs.out, HRs.out, HBs.out⟩
  subst hb4
  go_wp2_with fail
  refine (pick_c (w1.heap.size) ao n c 2 (nr : Int) _ (by omega) (by omega) CU_6.out).mono ?_
  rintro e w7 ⟨x, rfl, hx0, hx1, hc, hg⟩
  have hg9 : GB (w1.heap.size) w6 w7 := hg
  have z7 : w6.heap.size ≤ w7.heap.size := hg9.size
  have HB_7 : Hid (Below w.heap.size w w7) := HB_6.out.trans (hg9.below HB_6.out.size (by have := HB_6.out.size; omega))
  have Tr_7 : Hid (OwnR w7 w2.heap.size (Value.slice ra nr rc) (lr)) := Tr_6.out.kept hg9 (sep_lt (own_block_geR Tr_6.out) (by omega))
  have T_7 : Hid (X5 w7 w3.heap.size (.slice ha nh hd) (.int .i64 vl) (.int .i64 va) (.slice ra nr rc) (.int .i64 vo)) := T_6.out.grown hg9 (fun e => by have e2 := Option.some.inj e; omega)
  have Q_7 : Hid (Own w7 w4.heap.size (Value.slice qa np qc) (pl)) := Q_6.out.kept hg9 (sep_lt (own_block_ge Q_6.out) (by omega))
  have CU_7 : Hid (Cur w7 w1.heap.size ao n c 4) := hc.mono (by omega)
  clear hc hg hg9 HB_6 CU_6 Tr_6 T_6 Q_6
  obtain ⟨k, rfl⟩ : ∃ k : Nat, x = k := ⟨x.toNat, by omega⟩
  obtain ⟨gg, hra, hgb⟩ := ownR_some Tr_7.out (by omega)
  subst hra
  have hcap := ownR_cap Tr_7.out
  have hE := emptyR w7
  have ba := balloc w7 (.cells #[] 43)
  have hTr := Tr_7.out
  have hkl : k < lr.length := by rw [HLr.out]; omega
  obtain ⟨v1, w8a, r1, ho1, hg1, hb1⟩ := appendR_run (w7.alloc (.cells #[] 43)).drew w7.heap.size (.slice (some ⟨w7.heap.size, 0, none⟩) 0 0) [] (lr.take k) (some ⟨gg, 0, none⟩) k rc (hE.later (Below.refl _ _).drew) (rdR_take ((hTr.later ba).later (Below.refl _ _).drew).rd'.2 k) (by rw [List.length_take]; omega) (fun h => by cases h) (by simp; omega) (by have := ba.size; exact this)
  rw [List.nil_append] at ho1
  obtain ⟨a1, c1, hv1⟩ := ho1.shape
  rw [show (lr.take k).length = k by rw [List.length_take]; omega] at hv1
  subst hv1
  have hb1k : Below w7.heap.size w7 w8a := (ba.drew).trans hb1
  have hTr1 := hTr.later hb1k
  have hl2 : (lr.take k ++ lr.drop (k + 1)).length = nr - 1 := by rw [List.length_append, List.length_take, List.length_drop, HLr.out]; omega
  have hsg2 : ∀ r ∈ lr.take k ++ lr.drop (k + 1), 0 ≤ r.2.2.2 ∧ r.2.2.2 < 1499 := fun r hr => by rcases List.mem_append.1 hr with h | h; exact HSg.out r (List.mem_of_mem_take h); exact HSg.out r (List.mem_of_mem_drop h)
  obtain ⟨A2, hA2, hRd2⟩ : ∃ A2, (if rc = k + 1 then (some ⟨gg, 0, none⟩ : Option Addr) else some ⟨gg, (k + 1) * 4, none⟩) = some ⟨gg, A2, none⟩ ∧ RdR w8a (some ⟨gg, A2, none⟩) (lr.drop (k + 1)) := by
    by_cases e : rc = k + 1
    · exact ⟨0, by rw [if_pos e], Or.inl (List.drop_eq_nil_of_le (by rw [HLr.out]; omega))⟩
    · exact ⟨(k + 1) * 4, by rw [if_neg e], rdR_drop hTr1.rd'.2 (k + 1)⟩
  obtain ⟨v2, w8b, r2, ho2, hg2, hb2⟩ := appendR_run w8a w7.heap.size (.slice a1 k c1) (lr.take k) (lr.drop (k + 1)) (some ⟨gg, A2, none⟩) (nr - (k + 1)) (rc - (k + 1)) ho1 hRd2 (by rw [List.length_drop, HLr.out]) (fun h => by cases h) (by rw [List.length_take]; omega) hb1k.size
  obtain ⟨a2, c2, hv2⟩ := ho2.shape
  rw [hl2] at hv2
  subst hv2
  obtain ⟨nn, hnn⟩ : ∃ z, nr - 1 = z := ⟨_, rfl⟩
  rw [hnn] at ho2 r2 hl2
  have hnn1 : nn ≤ 6 := by omega
  have hnn2 : 1 ≤ nn := by omega
  generalize lr.take k ++ lr.drop (k + 1) = l2 at ho2 hl2 hsg2
  have HO2 : Hid (OwnR w8b w7.heap.size (.slice a2 nn c2) l2) := ho2
  have HL2 : Hid (l2.length = nn) := hl2
  have HSg2 : Hid (∀ r ∈ l2, 0 ≤ r.2.2.2 ∧ r.2.2.2 < 1499) := hsg2
  clear ho2 hl2 hsg2 hnn
  have hb2k : Below w7.heap.size w7 w8b := hb1k.trans hb2
  clear hE ba hTr hkl ho1 hg1 hb1 hb1k hTr1 hRd2 hg2 hb2
  have hk0 : (0 : Int) ≤ (k : Int) := by omega
  have hk1 : (k : Int) ≤ (nr : Int) := by omega
  have hk2 : (k : Int) + 1 ≤ (nr : Int) := by omega
  have hkw : IntKind.i64.wrap ((k : Int) + 1) = (k : Int) + 1 := by rw [IntKind.wrap_i64]; omega
  have hk3 : (0 : Int) ≤ (k : Int) + 1 := by omega
  have hkr : k ≤ rc := by omega
  have hkr1 : k + 1 ≤ nr := by omega
  have hkr2 : nr ≤ rc := hcap.1
  have hkr3 : k + 1 ≤ rc := by omega
  go_wp2_with fail
  go_region_law (first | (refine step_append_run rfl (.tmp 49) (.tmp 52) 26 26 rfl (.slice (some ⟨w7.heap.size, 0, none⟩) 0 0) (.slice (some ⟨gg, 0, none⟩) k rc) (by simp [Act.eval, Act.put]) (by simp [Act.eval, Act.put]) (r1 _) ?_) | (refine step_append_run rfl (.tmp 53) (.tmp 57) 26 26 rfl (.slice a1 k c1) (.slice (some ⟨gg, A2, none⟩) (nr - (k + 1)) (rc - (k + 1))) (by simp [Act.eval, Act.put]) (by simp [Act.eval, Act.put]) (r2 _) ?_))
  all_goals (
    clear r1 r2 hA2 hkw
    have HB_8 : Hid (Below w.heap.size w w8b) := HB_7.out.trans (hb2k.mono HB_7.out.size)
    have CU_8 : Hid (Cur w8b w1.heap.size ao n c 4) := CU_7.out.later hb2k
    have Q_8 : Hid (Own w8b w4.heap.size (Value.slice qa np qc) (pl)) := Q_7.out.later hb2k
    have z8 : w7.heap.size ≤ w8b.heap.size := hb2k.size
    clear hb2k HB_7 CU_7 Tr_7 T_7 Q_7
    have N_8 : Hid (OwnR w8b w7.heap.size (Value.slice a2 nn c2) (l2)) := HO2
    by_cases h0n : 0 < nn
    case neg =>
      have h0i : ¬ (0 : Int) < (nn : Int) := by omega
      go_wp2
      refine bodyPost_ret (v := .tuple #[.slice qa np qc, .int .i64 l, .slice a2 nn c2]) (by simp [results, Tryd.results20, go_sem]; try rfl) rfl ?_
      exact ⟨qa, np, qc, pl, l, a2, nn, c2, l2, rfl, HNp.out, by omega, HL2.out, by omega, Q_8.out.rd'.2, N_8.out.rd'.2, HB_8.out⟩
    have h0i : (0 : Int) < (nn : Int) := by omega
    go_wp2_with fail
    refine (one_c (w1.heap.size) ao n c 4 6 _ (by omega) (by omega) CU_8.out).mono ?_
    rintro e w9 ⟨b6, rfl, hc, hg⟩
    have hg9 : GB (w1.heap.size) w8b w9 := hg
    have z9 : w8b.heap.size ≤ w9.heap.size := hg9.size
    have HB_9 : Hid (Below w.heap.size w w9) := HB_8.out.trans (hg9.below HB_8.out.size (by have := HB_8.out.size; omega))
    have Q_9 : Hid (Own w9 w4.heap.size (Value.slice qa np qc) (pl)) := Q_8.out.kept hg9 (sep_lt (own_block_ge Q_8.out) (by omega))
    have N_9 : Hid (OwnR w9 w7.heap.size (Value.slice a2 nn c2) (l2)) := N_8.out.kept hg9 (sep_lt (own_block_geR N_8.out) (by omega))
    have CU_9 : Hid (Cur w9 w1.heap.size ao n c 6) := hc.mono (by omega)
    clear hc hg hg9 HB_8 CU_8 Q_8 N_8
    by_cases hb6 : b6 = true
    case neg =>
      rw [Bool.not_eq_true] at hb6
      subst hb6
      go_wp2
      refine bodyPost_ret (v := .tuple #[.slice qa np qc, .int .i64 l, .slice a2 nn c2]) (by simp [results, Tryd.results20, go_sem]; try rfl) rfl ?_
      exact ⟨qa, np, qc, pl, l, a2, nn, c2, l2, rfl, HNp.out, by omega, HL2.out, by omega, Q_9.out.rd'.2, N_9.out.rd'.2, HB_9.out⟩
    subst hb6
    obtain ⟨gg, hra, hgb⟩ := ownR_some N_9.out h0n
    subst hra
    obtain ⟨bb, oo, hbo, k0, k1, k2, k3⟩ := (N_9.out.rd'.2).get (k := 0) (by rw [HL2.out]; exact h0n)
    simp only [Option.some.injEq, Addr.mk.injEq] at hbo
    obtain ⟨rfl, rfl, _⟩ := hbo
    have hsx := HSg2.out _ (mem_getD (0, 0, 0, 0) (by rw [HL2.out]; exact h0n : 0 < (l2).length))
    have kf3 : w9.frozen? ⟨gg, 3, none⟩ = false := World.ownsRow.frozenAt (N_9.out.raw HL2.out) 3
    have hRs := rdR_set3 (N_9.out.rd'.2) (((l2.getD 0 (0, 0, 0, 0)).2.2.2 + 1) % 1499) (by rw [HL2.out]; exact h0n)
    have hgr := grown_setCell w9 gg 3 (.int .i64 (((l2.getD 0 (0, 0, 0, 0)).2.2.2 + 1) % 1499))
    have hQs := (Q_9.out.kept hgr (row_sepB Q_9.out (N_9.out.raw HL2.out) (by decide))).rd'.2
    have hBs : Below w.heap.size w (w9.setCell ⟨gg, 3, none⟩ (.int .i64 (((l2.getD 0 (0, 0, 0, 0)).2.2.2 + 1) % 1499))) := HB_9.out.setCell (by show w.heap.size ≤ gg; have := HB_9.out.size; omega) _
    have HRs := (show Hid _ from hRs)
    have HQs := (show Hid _ from hQs)
    have HBs := (show Hid _ from hBs)
    clear hRs hQs hBs hgr
    have hl9 : ∀ y, (l2.set 0 y).length = nn := fun y => by rw [List.length_set]; exact HL2.out
    have HL9 := (show Hid _ from hl9)
    clear hl9
    simp only [Nat.zero_mul, Nat.zero_add] at k0 k1 k2 k3
    generalize (l2.getD 0 (0, 0, 0, 0)).1 = y0 at *
    generalize (l2.getD 0 (0, 0, 0, 0)).2.1 = y1 at *
    generalize (l2.getD 0 (0, 0, 0, 0)).2.2.1 = y2 at *
    generalize (l2.getD 0 (0, 0, 0, 0)).2.2.2 = y3 at *
    go_wp2
    refine bodyPost_ret (v := .tuple #[.slice qa np qc, .int .i64 l, .slice (some ⟨gg, 0, none⟩) nn c2]) (by simp [results, Tryd.results20, go_sem]; try rfl) rfl ?_
    exact ⟨qa, np, qc, pl, l, _, nn, c2, _, rfl, HNp.out, by omega, HL9.out _, by omega, HQs.out, HRs.out, HBs.out⟩)

end Go.Proofs.YtdhnolafkgkliaaDoor
