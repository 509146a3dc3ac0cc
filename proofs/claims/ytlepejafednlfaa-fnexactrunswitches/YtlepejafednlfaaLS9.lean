/- Chapter 9: the switches run, of the specification: one step. -/
import Derived.Test.YtlepejafednlfaaLR9
namespace Go.Proofs.Ytlepejafednlfaa
set_option linter.unusedVariables false
set_option maxRecDepth 1000000
set_option linter.unusedSimpArgs false
open Go.RowKit

set_option maxHeartbeats 16000000 in
theorem l9Run_step (d H N : Nat) (hH : 2 ^ (d + 1) = H) (hN : cntD (d + 1) = N) (hHN : HN H N) (ih : RunOk H N (d + 1)) : RunOk (2 * H) (2 * H + 2 * N) (d + 2) := by
  intro b o c bo e s l w hb hc1 hc2 hl hr
  obtain ⟨i0, hi, hz0, hz1, hz2⟩ := info_parts Try.infoStr
  unfold HN at hHN
  have HIH : Hid (RunOk H N (d + 1)) := ih
  have HBT : Hid (RdBits w b o (2 * H + 2 * N) s) := hb
  have HRS : Hid (RdS w bo l) := hr
  obtain ⟨M, hM⟩ : ∃ M, M = 2 * H := ⟨_, rfl⟩
  obtain ⟨n, hn⟩ : ∃ n, n = 2 * H + 2 * N := ⟨_, rfl⟩
  obtain ⟨B, hB⟩ : ∃ B, B = w.heap.size := ⟨_, rfl⟩
  have HLL : Hid (l.length = M) := by show _ = _; omega
  rw [← hn] at HBT hc1 ⊢
  rw [← hM]
  have hH8 : H ≤ 4 := by omega
  have hH2 : 2 ≤ H := by omega
  have hN6 : N ≤ 6 ∧ 1 ≤ N := by omega
  have m1 : ((M : Int) == 1) = false := by rw [beq_eq_false_iff_ne]; omega
  have m2 : ((M : Int) == 2) = false := by rw [beq_eq_false_iff_ne]; omega
  have m3 : (M : Int) / 2 = (H : Int) := by omega
  have m4 : Int.tdiv (M : Int) 2 = (H : Int) := by rw [Int.tdiv_eq_ediv_of_nonneg (by omega)]; exact m3
  have hpH : portsB (H : Int) = true := by rcases hHN with h | h <;> (rw [h.1]; rfl)
  have hcH : cntI (H : Int) = (N : Int) := by rcases hHN with h | h <;> (rw [h.1, h.2]; rfl)
  have qC := l9Count_c (H : Int) hpH w
  rw [hcH] at qC
  have HB0 : Hid (Below w.heap.size w w) := Below.refl _ _
  have hBs0 : B ≤ w.heap.size := by omega
  have HBw : Hid (B = w.heap.size) := hB
  have hBge : w.heap.size ≤ B := by omega
  have HRUN : Hid (runL (d + 2) s l = outL H (s.drop (H + 2 * N)) (runL (d + 1) ((s.drop H).take N) (upL H s l)) (runL (d + 1) ((s.drop (H + N)).take N) (lowL H s l))) := by show _ = _; rw [runL, hH, hN]
  unfold maxLen at hc2
  have hMle : M ≤ 2 * H := by omega
  have hMge : 2 * H ≤ M := by omega
  have hnle : n ≤ 2 * H + 2 * N := by omega
  have hnge : 2 * H + 2 * N ≤ n := by omega
  clear hb hr hl ih hH hN hpH hcH hB hM hn
  go_enter Try.func77, Try.ntmps77
  go_wp2_with fail
  refine qC.mono ?_
  clear qC
  rintro e w' ⟨rfl, hw⟩
  subst w'
  go_wp2
  go_loopw [9, 10, 11] (fun uv lv iv wr => ∃ k : Nat, k ≤ H ∧ iv = .int .i64 k ∧ Hid (OwnS wr B uv (upL k s l)) ∧ Hid (OwnS wr B lv (lowL k s l)) ∧ Hid (Sep uv lv) ∧ Hid (Below w.heap.size w wr) ∧ B ≤ wr.heap.size) (fun _ _ iv _ => H - (intOf iv).toNat)
  case atStart => exact ⟨0, Nat.zero_le _, rfl, World.ownsRow_nil _ _ _ _, World.ownsRow_nil _ _ _ _, (fun k h => by cases h), HB0, hBs0⟩
  case round =>
    clear HB0 hBs0
    obtain ⟨k, hk, rfl, hU, hL, hSEP, hB, hBs⟩ := hrel
    by_cases hlt : k < H
    · obtain ⟨p, hp⟩ : ∃ p, p = 2 * k := ⟨_, rfl⟩
      obtain ⟨b1, o1, hbo, t1⟩ := (HRS.out.later hB.out).get9 (k := p) (by rw [HLL.out]; omega)
      obtain ⟨b2, o2, hbo2, t2⟩ := (HRS.out.later hB.out).get9 (k := p + 1) (by rw [HLL.out]; omega)
      rw [hbo] at hbo2
      cases hbo2
      have t3 := (HBT.out.later hB.out).2 k (by omega)
      subst hbo
      have HU1 : Hid (upL (k + 1) s l = upL k s l ++ [crA (s.getD k false) (l.getD p nilS) (l.getD (p + 1) nilS)]) := by show _ = _; rw [upL_succ, hp]
      have HL1 : Hid (lowL (k + 1) s l = lowL k s l ++ [crB (s.getD k false) (l.getD p nilS) (l.getD (p + 1) nilS)]) := by show _ = _; rw [lowL_succ, hp]
      have HLEN_ru : Hid ((upL k s l).length = k) := upL_length _ _ _
      have HLEN_rl : Hid ((lowL k s l).length = k) := lowL_length _ _ _
      have HQ : Hid (∀ wx, Calls Try.prog 102 #[.string (l.getD p nilS), .string (l.getD (p + 1) nilS), .bool (s.getD k false)] wx fun e w' => e = .returned (.tuple #[.string (crA (s.getD k false) (l.getD p nilS) (l.getD (p + 1) nilS)), .string (crB (s.getD k false) (l.getD p nilS) (l.getD (p + 1) nilS))]) ∧ w' = wx) := fun wx => l9Cross_c _ _ _ wx
      rw [show ByteArray.empty = nilS from rfl] at t1 t2
      generalize crA (s.getD k false) (l.getD p nilS) (l.getD (p + 1) nilS) = ca at HU1 HQ
      generalize crB (s.getD k false) (l.getD p nilS) (l.getD (p + 1) nilS) = cb at HL1 HQ
      generalize l.getD p nilS = xa at t1 HQ
      generalize l.getD (p + 1) nilS = xb at t2 HQ
      generalize s.getD k false = sb at t3 HQ
      generalize upL k s l = ru at hU HU1 HLEN_ru
      generalize lowL k s l = rl at hL HL1 HLEN_rl
      have p0 : (0 : Int) ≤ (p : Int) := by omega
      have p1 : (p : Int) < (M : Int) := by omega
      have p2 : (p : Int) + 1 < (M : Int) := by omega
      have e1 : (2 : Int) * (k : Int) = (p : Int) := by omega
      have e2 : ((p : Int) + 1).toNat = p + 1 := by omega
      have e3 : IntKind.i64.wrap (p : Int) = (p : Int) := by rw [IntKind.wrap_i64]; omega
      have e4 : IntKind.i64.wrap ((p : Int) + 1) = (p : Int) + 1 := by rw [IntKind.wrap_i64]; omega
      have k1 : (k : Int) < (H : Int) := by omega
      have hkN : (k : Int) < (n : Int) := by omega
      have k0 : (0 : Int) ≤ (k : Int) := by omega
      have hp30 : p ≤ 30 := by omega
      have HPP : Hid (p = 2 * k) := hp
      clear hp
      go_wp2
      go_quiet ((go_at_call 102; exact Calls.quiet_of_same (HQ.out _)))
      obtain ⟨wq, hwq⟩ : ∃ wq, wr.drewN nq = wq := ⟨_, rfl⟩
      have HBQ : Hid (Below w.heap.size w wq) := by show Below _ _ _; rw [← hwq]; exact below_drewN hB.out _
      have hbq : Below wr.heap.size wr wq := by rw [← hwq]; exact below_drewN (Below.refl _ _) _
      have HO_rl : Hid (OwnS wq B u10 rl) := hL.out.later hbq
      have hUq : OwnS wq B u9 ru := hU.out.later hbq
      have hBsq : B ≤ wq.heap.size := Nat.le_trans hBs hbq.size
      have HSEP : Hid (Sep u9 u10) := hSEP.out
      rw [hwq]
      clear hwq hbq hL hU hSEP hB hBs t1 t2 t3 HQ
      have hob : ∀ q, u9.ownBlock = some q → B ≤ q := own_block_geS hUq
      have hown : wq.ownsRow B 9 1 u9 k (cellsS ru) := by have h := hUq; unfold OwnS at h; rw [HLEN_ru.out] at h; exact h
      have tok1 : True := trivial
      go_wp2_with (first | (at_builtin; clear tok1; refine wpList_append_lies _ rfl _ _ 29 rfl B 9 i0 (.string ByteArray.empty) 1 16 Try.underlying29 hi hz0 hz1 hz2 rfl (by decide) _ _ _ rfl (hown.alloc _) ⟨wq.heap.size, 0, none⟩ 1 1 [.string ca] rfl rfl (cell_new1 _ _ _) (strs_oneCell [ca]) (by decide) (by unfold maxLen; omega) (by omega) (by simp; omega) (wq.heap.size + 1) (by simp) ?_; intro g7 c7 wa hown' hgrow hwhere hltx; have HY_wa : Hid (OwnS wa B (.slice (some ⟨g7, 0, none⟩) (k + 1) c7) (ru ++ [ca])) := own_pushS (w := wq) (v := u9) (by simpa [HLEN_ru.out] using hown'); have HZ_wa : Hid (OwnS wa B u10 rl) := (HO_rl.out.later (balloc wq _)).kept hgrow HSEP.out.symm.or; have HSP_wa : Hid (Sep u10 (.slice (some ⟨g7, 0, none⟩) (k + 1) c7)) := HSEP.out.symm.app hwhere (fun q hq => by have := (World.ownsRow.lt HO_rl.out q hq).2; omega); have HB_wa : Hid (Below w.heap.size w wa) := (HBQ.out.alloc HBQ.out.size _).grown hgrow (by have := HBQ.out.size; simp; omega) (fun q hq => by have := hob q hq; omega); have HBs_wa : B ≤ wa.heap.size := Nat.le_trans (by simp; omega) hgrow.size; clear hown' hgrow hwhere hltx hown hob; clear HSEP HO_rl HBQ hUq; have HBQ : Hid (Below w.heap.size w wa) := HB_wa; have HO_ru : Hid (OwnS wa B (.slice (some ⟨g7, 0, none⟩) (k + 1) c7) (ru ++ [ca])) := HY_wa; have HSEP : Hid (Sep u10 (.slice (some ⟨g7, 0, none⟩) (k + 1) c7)) := HSP_wa; have hob : ∀ q, u10.ownBlock = some q → B ≤ q := own_block_geS HZ_wa.out; have hown : wa.ownsRow B 9 1 u10 k (cellsS rl) := (by have h := HZ_wa.out; unfold OwnS at h; rw [HLEN_rl.out] at h; exact h); clear HB_wa HY_wa HSP_wa) | (at_builtin; refine wpList_append_lies _ rfl _ _ 29 rfl B 9 i0 (.string ByteArray.empty) 1 16 Try.underlying29 hi hz0 hz1 hz2 rfl (by decide) _ _ _ rfl (hown.alloc _) ⟨wa.heap.size, 0, none⟩ 1 1 [.string cb] rfl rfl (cell_new1 _ _ _) (strs_oneCell [cb]) (by decide) (by unfold maxLen; omega) (by omega) (by simp; omega) (wa.heap.size + 1) (by simp) ?_; intro g8 c8 wb hown' hgrow hwhere hltx; have HY_wb : Hid (OwnS wb B (.slice (some ⟨g8, 0, none⟩) (k + 1) c8) (rl ++ [cb])) := own_pushS (w := wa) (v := u10) (by simpa [HLEN_rl.out] using hown'); have HZ_wb : Hid (OwnS wb B (.slice (some ⟨g7, 0, none⟩) (k + 1) c7) (ru ++ [ca])) := (HO_ru.out.later (balloc wa _)).kept hgrow HSEP.out.symm.or; have HSP_wb : Hid (Sep (.slice (some ⟨g7, 0, none⟩) (k + 1) c7) (.slice (some ⟨g8, 0, none⟩) (k + 1) c8)) := HSEP.out.symm.app hwhere (fun q hq => by have := (World.ownsRow.lt HO_ru.out q hq).2; omega); have HB_wb : Hid (Below w.heap.size w wb) := (HBQ.out.alloc HBQ.out.size _).grown hgrow (by have := HBQ.out.size; simp; omega) (fun q hq => by have := hob q hq; omega); have HBs_wb : B ≤ wb.heap.size := Nat.le_trans (by simp; omega) hgrow.size; clear hown' hgrow hwhere hltx hown hob))
      go_roundw
      case rel => exact ⟨k + 1, by omega, by go_num, by show OwnS _ _ _ _; rw [HU1.out]; exact HZ_wb.out, by show OwnS _ _ _ _; rw [HL1.out]; exact HY_wb.out, HSP_wb, HB_wb, HBs_wb⟩
      case measure => simp [intOf]; omega
    · obtain rfl : k = H := by omega
      have HU : Hid (OwnS wr B u9 (upL k s l)) := hU
      have HL : Hid (OwnS wr B u10 (lowL k s l)) := hL
      have HB : Hid (Below w.heap.size w wr) := hB
      have hkk : (k : Int) ≤ (k : Int) := Int.le_refl _
      clear hU hL hB hSEP

      obtain ⟨a9, c9, hv9⟩ := HU.out.shape
      obtain ⟨a8, c8, hv8⟩ := HL.out.shape
      rw [upL_length] at hv9
      rw [lowL_length] at hv8
      subst hv9
      subst hv8
      have hck : ¬ c = k := by omega
      have hck2 : ¬ c = k + N := by omega
      have hck3 : k + N ≤ c := by omega
      have hck4 : k + 2 * N ≤ c := by omega
      have q1 := HIH.out b (o + k) (c - k) a9 c9 ((s.drop k).take N) (upL k s l) wr ((HBT.out.later HB.out).part k N (by omega)) (by omega) (by unfold maxLen; omega) (upL_length _ _ _) HU.out.rd'.2
      go_wp2_with fail
      refine q1.mono ?_
      clear q1
      rintro e w1 ⟨a1, c1, rfl, ho1, hb1⟩
      have HB1 : Hid (Below w.heap.size w w1) := HB.out.trans (hb1.mono HB.out.size)
      have HL1 : Hid (OwnS w1 B (.slice a8 k c8) (lowL k s l)) := HL.out.later hb1
      have HU1 : Hid (OwnS w1 wr.heap.size (.slice a1 k c1) (runL (d + 1) ((s.drop k).take N) (upL k s l))) := ho1
      have hz1' : wr.heap.size ≤ w1.heap.size := hb1.size
      clear ho1 hb1 HL HB HU
      have q2 := HIH.out b (o + (k + N)) (c - (k + N)) a8 c8 ((s.drop (k + N)).take N) (lowL k s l) w1 ((HBT.out.later HB1.out).part (k + N) N (by omega)) (by omega) (by unfold maxLen; omega) (lowL_length _ _ _) HL1.out.rd'.2
      go_wp2_with fail
      rw [show k + 2 * N - (k + N) = N by omega]
      refine q2.mono ?_
      clear q2
      rintro e W9 ⟨a2, c2, rfl, ho2, hb2⟩
      have HB9 : Hid (Below w.heap.size w W9) := HB1.out.trans (hb2.mono HB1.out.size)
      have HU2 : Hid (OwnS W9 wr.heap.size (.slice a1 k c1) (runL (d + 1) ((s.drop k).take N) (upL k s l))) := HU1.out.later hb2
      have HL2 : Hid (OwnS W9 w1.heap.size (.slice a2 k c2) (runL (d + 1) ((s.drop (k + N)).take N) (lowL k s l))) := ho2
      clear ho2 hb2 HL1 HB1 HU1
      generalize runL (d + 1) ((s.drop k).take N) (upL k s l) = UU at HU2 HRUN
      generalize runL (d + 1) ((s.drop (k + N)).take N) (lowL k s l) = LL at HL2 HRUN
      have HRU : Hid (RdS W9 a1 UU) := HU2.out.rd'.2
      have HRL : Hid (RdS W9 a2 LL) := HL2.out.rd'.2
      have HLU : Hid (UU.length = k) := HU2.out.rd'.1
      have HLV : Hid (LL.length = k) := HL2.out.rd'.1
      have HXB : Hid (RdBits W9 b (o + (k + 2 * N)) (n - (k + 2 * N)) (s.drop (k + 2 * N))) := (HBT.out.later HB9.out).tail (k + 2 * N) (by omega)
      generalize s.drop (k + 2 * N) = XX at HXB HRUN
      clear HU2 HL2
      obtain ⟨Q, hQ⟩ : ∃ Q, Q = k + 2 * N := ⟨_, rfl⟩
      rw [← hQ] at HXB
      have HQQ : Hid (Q = k + 2 * N) := hQ
      have hQ2 : (k : Int) + 2 * (N : Int) = (Q : Int) := by omega
      have hQ3 : Q + k = n := by omega
      have hQ4 : Q ≤ 40 := by omega
      clear hQ
      go_wp2
      go_loopw [14, 15] (fun ov iv wr => ∃ j : Nat, j ≤ k ∧ iv = .int .i64 j ∧ Hid (OwnS wr W9.heap.size ov (outL j XX UU LL)) ∧ Hid (Below w.heap.size w wr) ∧ Hid (Below W9.heap.size W9 wr)) (fun _ iv _ => k - (intOf iv).toNat)
      case atStart => exact ⟨0, Nat.zero_le _, rfl, World.ownsRow_nil _ _ _ _, HB9, Below.refl _ _⟩
      case round =>
        have HS9 : Hid (w.heap.size ≤ W9.heap.size) := HB9.out.size
        clear HB9
        obtain ⟨j, hj, rfl, hO, hB, hB9⟩ := hrel
        by_cases hlj : j < k
        · obtain ⟨b1, o1, rfl, t1⟩ := (HRU.out.later hB9.out).get9 (k := j) (by rw [HLU.out]; omega)
          obtain ⟨b2, o2, rfl, t2⟩ := (HRL.out.later hB9.out).get9 (k := j) (by rw [HLV.out]; omega)
          have t3 := (HXB.out.later hB9.out).2 j (by omega)
          have HO1 : Hid (outL (j + 1) XX UU LL = outL j XX UU LL ++ [crA (XX.getD j false) (UU.getD j nilS) (LL.getD j nilS), crB (XX.getD j false) (UU.getD j nilS) (LL.getD j nilS)]) := outL_succ _ _ _ _
          have HLEN : Hid ((outL j XX UU LL).length = 2 * j) := outL_length _ _ _ _
          have HQ : Hid (∀ wx, Calls Try.prog 102 #[.string (UU.getD j nilS), .string (LL.getD j nilS), .bool (XX.getD j false)] wx fun e w' => e = .returned (.tuple #[.string (crA (XX.getD j false) (UU.getD j nilS) (LL.getD j nilS)), .string (crB (XX.getD j false) (UU.getD j nilS) (LL.getD j nilS))]) ∧ w' = wx) := fun wx => l9Cross_c _ _ _ wx
          rw [show ByteArray.empty = nilS from rfl] at t1 t2
          generalize crA (XX.getD j false) (UU.getD j nilS) (LL.getD j nilS) = ca at HO1 HQ
          generalize crB (XX.getD j false) (UU.getD j nilS) (LL.getD j nilS) = cb at HO1 HQ
          generalize UU.getD j nilS = xa at t1 HQ
          generalize LL.getD j nilS = xb at t2 HQ
          generalize XX.getD j false = sb at t3 HQ
          generalize outL j XX UU LL = ro at hO HO1 HLEN
          have j0 : (0 : Int) ≤ (j : Int) := by omega
          have j1 : (j : Int) < (k : Int) := by omega
          have hJ : ((Q : Int) + (j : Int)) = ((Q + j : Nat) : Int) := by omega
          have hJt : ((Q : Int) + (j : Int)).toNat = Q + j := by omega
          have hJ0 : (0 : Int) ≤ (Q : Int) + (j : Int) := by omega
          have hJ1 : (Q : Int) + (j : Int) < (n : Int) := by omega
          have hJw : IntKind.i64.wrap ((Q : Int) + (j : Int)) = (Q : Int) + (j : Int) := by rw [IntKind.wrap_i64]; omega
          have hNw : IntKind.i64.wrap (2 * (N : Int)) = 2 * (N : Int) := by rw [IntKind.wrap_i64]; omega
          have hQw : IntKind.i64.wrap (Q : Int) = (Q : Int) := by rw [IntKind.wrap_i64]; omega
          rw [show o + Q + j = o + (Q + j) by omega] at t3
          clear hJ
          go_wp2
          go_quiet ((go_at_call 102; exact Calls.quiet_of_same (HQ.out _)))
          obtain ⟨wq, hwq⟩ : ∃ wq, wr.drewN nq = wq := ⟨_, rfl⟩
          have HBQ : Hid (Below w.heap.size w wq) := by show Below _ _ _; rw [← hwq]; exact below_drewN hB.out _
          have HBQ9 : Hid (Below W9.heap.size W9 wq) := by show Below _ _ _; rw [← hwq]; exact below_drewN hB9.out _
          have hbq : Below wr.heap.size wr wq := by rw [← hwq]; exact below_drewN (Below.refl _ _) _
          have hOq : OwnS wq W9.heap.size u14 ro := hO.out.later hbq
          rw [hwq]
          clear hwq hbq hO hB hB9 t1 t2 t3 HQ
          have hob : ∀ q, u14.ownBlock = some q → W9.heap.size ≤ q := own_block_geS hOq
          have hsz9 : w.heap.size ≤ W9.heap.size := HS9.out
          have hown : wq.ownsRow W9.heap.size 9 1 u14 (2 * j) (cellsS ro) := by have h := hOq; unfold OwnS at h; rw [HLEN.out] at h; exact h
          go_wp2_with (at_builtin; refine wpList_append_own _ rfl _ _ 29 rfl W9.heap.size 9 i0 (.string ByteArray.empty) 1 16 Try.underlying29 hi hz0 hz1 hz2 rfl (by decide) _ _ _ rfl (hown.alloc _) ⟨wq.heap.size, 0, none⟩ 2 2 [.string ca, .string cb] rfl rfl (cell_new2s _ _ _ _) (strs_oneCell [ca, cb]) (by unfold maxLen; omega) (by omega) (by have := HBQ9.out.size; simp; omega) ?_; intro v' w2 hown' hgrow _; have HO' : Hid (OwnS w2 W9.heap.size v' (ro ++ [ca, cb])) := own_push2S (by simpa [HLEN.out] using hown'); have HB' : Hid (Below w.heap.size w w2) := (HBQ.out.alloc HBQ.out.size _).grown hgrow (by have := HBQ.out.size; simp; omega) (fun q hq => by have := hob q hq; omega); have HB9' : Hid (Below W9.heap.size W9 w2) := (HBQ9.out.alloc HBQ9.out.size _).grown hgrow (by have := HBQ9.out.size; simp; omega) (fun q hq => hob q hq); clear hown' hgrow)
          go_roundw
          case rel => exact ⟨j + 1, by omega, by go_num, by show OwnS _ _ _ _; rw [HO1.out]; exact HO'.out, HB', HB9'⟩
          case measure => simp [intOf]; omega
        · obtain rfl : j = k := by omega
          have HF : Hid (OwnS wr w.heap.size u14 (runL (d + 2) s l)) := by show OwnS _ _ _ _; rw [HRUN.out]; exact hO.out.mono HS9.out
          obtain ⟨a', c', hv⟩ := hO.out.shape
          rw [outL_length] at hv
          have hM2 : 2 * j = M := by omega
          rw [hM2] at hv
          subst hv
          have HB : Hid (Below w.heap.size w wr) := hB
          clear hO hB hB9
          go_wp2
          go_ret
          exact ⟨a', c', rfl, HF.out, HB.out⟩

end Go.Proofs.Ytlepejafednlfaa
