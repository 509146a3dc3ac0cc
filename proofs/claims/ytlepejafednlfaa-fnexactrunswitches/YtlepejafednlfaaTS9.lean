/- Chapter 9: texts through the switches of the program: one step. -/
import Derived.Test.YtlepejafednlfaaTR9
namespace Go.Proofs.Ytlepejafednlfaa
set_option linter.unusedVariables false
set_option maxRecDepth 1000000
set_option linter.unusedSimpArgs false
open Go.RowKit

set_option maxHeartbeats 16000000 in
theorem rows_through (d H N : Nat) (hH : 2 ^ (d + 1) = H) (hN : cntD (d + 1) = N) (hHN : HN H N) (ih : ThOk H N (d + 1)) (b o c : Nat) (s : List Bool) (bo : Option Addr) (e : Nat) (l : List ByteArray) (wz : World) (t1 t2 : TypeId) (x1 x2 : Value)
    (hv1 : swV (d + 1) b (o + H) (c - H) ((s.drop H).take N) = .iface t1 x1) (hv2 : swV (d + 1) b (o + (H + N)) (c - (H + N)) ((s.drop (H + N)).take N) = .iface t2 x2)
    (hb : RdBits wz b o (2 * H + 2 * N) s) (hl : l.length = 2 * H) (hr : RdS wz bo l) :
    Calls Try.prog 100 #[.agg #[.slice (some ⟨b, o, none⟩) H c, .iface t1 x1, .iface t2 x2, .slice (some ⟨b, o + (H + 2 * N), none⟩) H (c - (H + 2 * N))], .slice bo (2 * H) e] wz fun en w' => ∃ a' c', en = .returned (.slice a' (2 * H) c') ∧ OwnS w' wz.heap.size (.slice a' (2 * H) c') (runL (d + 2) s l) ∧ Below wz.heap.size wz w' := by
  obtain ⟨i0, hi, hz0, hz1, hz2⟩ := info_parts Try.infoStr
  unfold HN at hHN
  have HIH : Hid (ThOk H N (d + 1)) := ih
  have HV1 : Hid (swV (d + 1) b (o + H) (c - H) ((s.drop H).take N) = .iface t1 x1) := hv1
  have HV2 : Hid (swV (d + 1) b (o + (H + N)) (c - (H + N)) ((s.drop (H + N)).take N) = .iface t2 x2) := hv2
  obtain ⟨g, hg⟩ : ∃ g, g = wz.heap.size := ⟨_, rfl⟩
  obtain ⟨w, hw⟩ : ∃ w, wz.alloc (.cells #[.slice (some ⟨b, o, none⟩) H c, .iface t1 x1, .iface t2 x2, .slice (some ⟨b, o + (H + 2 * N), none⟩) H (c - (H + 2 * N))] 96) = w := ⟨_, rfl⟩
  have hWZ : Below wz.heap.size wz w := by rw [← hw]; exact balloc wz _
  have HWZ : Hid (Below wz.heap.size wz w) := hWZ
  have x0 : w.cell? ⟨g, 0, none⟩ = some (.slice (some ⟨b, o, none⟩) H c) := by rw [← hw, hg]; simp
  have HX1 : Hid (w.cell? ⟨g, 1, none⟩ = some (.iface t1 x1)) := by show _ = _; rw [← hw, hg]; simp
  have HX2 : Hid (w.cell? ⟨g, 2, none⟩ = some (.iface t2 x2)) := by show _ = _; rw [← hw, hg]; simp
  have HX3 : Hid (w.cell? ⟨g, 3, none⟩ = some (.slice (some ⟨b, o + (H + 2 * N), none⟩) H (c - (H + 2 * N)))) := by show _ = _; rw [← hw, hg]; simp
  have HBT : Hid (RdBits w b o (2 * H + 2 * N) s) := hb.later hWZ
  have HRS : Hid (RdS w bo l) := hr.later hWZ
  obtain ⟨M, hM⟩ : ∃ M, M = 2 * H := ⟨_, rfl⟩
  obtain ⟨n, hn⟩ : ∃ n, n = 2 * H + 2 * N := ⟨_, rfl⟩
  obtain ⟨B, hB⟩ : ∃ B, B = w.heap.size := ⟨_, rfl⟩
  have HLL : Hid (l.length = M) := by show _ = _; omega
  rw [← hn] at HBT
  rw [← hM]
  have hH8 : H ≤ 4 := by omega
  have hH2 : 2 ≤ H := by omega
  have hN6 : N ≤ 6 ∧ 1 ≤ N := by omega
  have HB0 : Hid (Below w.heap.size w w) := Below.refl _ _
  have hBs0 : B ≤ w.heap.size := by omega
  have hBge : w.heap.size ≤ B := by omega
  have HRUN : Hid (runL (d + 2) s l = outL H (s.drop (H + 2 * N)) (runL (d + 1) ((s.drop H).take N) (upL H s l)) (runL (d + 1) ((s.drop (H + N)).take N) (lowL H s l))) := by show _ = _; rw [runL, hH, hN]
  have hMle : M ≤ 2 * H := by omega
  have hMge : 2 * H ≤ M := by omega
  have hnle : n ≤ 2 * H + 2 * N := by omega
  have hnge : 2 * H + 2 * N ≤ n := by omega
  obtain ⟨cx, hcx⟩ : ∃ cx, cx = c - (H + 2 * N) := ⟨_, rfl⟩
  obtain ⟨ox, hox⟩ : ∃ ox, ox = o + (H + 2 * N) := ⟨_, rfl⟩
  rw [← hcx, ← hox] at hw ⊢
  have HCX : Hid (c - (H + 2 * N) = cx ∧ o + (H + 2 * N) = ox) := ⟨hcx.symm, hox.symm⟩
  clear hb hr hl ih hH hN hB hM hn hWZ hv1 hv2 hcx hox
  rw [hg] at x0 HX1 HX2 HX3
  go_enter Try.func100, Try.ntmps100
  go_wp2
  clear hw x0 hg
  go_loopw [5, 6, 19] (fun uv lv iv wr => ∃ k : Nat, k ≤ H ∧ iv = .int .i64 k ∧ Hid (OwnS wr B uv (upL k s l)) ∧ Hid (OwnS wr B lv (lowL k s l)) ∧ Hid (Sep uv lv) ∧ Hid (Below w.heap.size w wr) ∧ B ≤ wr.heap.size) (fun _ _ iv _ => H - (intOf iv).toNat)
  case atStart => exact ⟨0, Nat.zero_le _, rfl, World.ownsRow_nil _ _ _ _, World.ownsRow_nil _ _ _ _, (fun k h => by cases h), HB0, hBs0⟩
  case round =>
    clear HB0 hBs0
    obtain ⟨k, hk, rfl, hU, hL, hSEP, hB, hBs⟩ := hrel
    by_cases hlt : k < H
    · obtain ⟨p, hp⟩ : ∃ p, p = 2 * k := ⟨_, rfl⟩
      obtain ⟨b1, o1, hbo, t1⟩ := (HRS.out.later hB.out).get9 (k := p) (by rw [HLL.out]; omega)
      obtain ⟨b2, o2, hbo2, t2⟩ := (HRS.out.later hB.out).get9 (k := p + 1) (by rw [HLL.out]; omega)
      rw [hbo] at hbo2
      cases hbo2
      have t3 := (HBT.out.later hB.out).2 k (by omega)
      subst hbo
      have HU1 : Hid (upL (k + 1) s l = upL k s l ++ [crA (s.getD k false) (l.getD p nilS) (l.getD (p + 1) nilS)]) := by show _ = _; rw [upL_succ, hp]
      have HL1 : Hid (lowL (k + 1) s l = lowL k s l ++ [crB (s.getD k false) (l.getD p nilS) (l.getD (p + 1) nilS)]) := by show _ = _; rw [lowL_succ, hp]
      have HLEN_ru : Hid ((upL k s l).length = k) := upL_length _ _ _
      have HLEN_rl : Hid ((lowL k s l).length = k) := lowL_length _ _ _
      have HQ : Hid (∀ wx, Calls Try.prog 99 #[.bool (s.getD k false), .string (l.getD p nilS), .string (l.getD (p + 1) nilS)] wx fun e w' => e = .returned (.tuple #[.string (crA (s.getD k false) (l.getD p nilS) (l.getD (p + 1) nilS)), .string (crB (s.getD k false) (l.getD p nilS) (l.getD (p + 1) nilS))]) ∧ w' = wx) := fun wx => passed_c _ _ _ wx
      rw [show ByteArray.empty = nilS from rfl] at t1 t2
      generalize crA (s.getD k false) (l.getD p nilS) (l.getD (p + 1) nilS) = ca at HU1 HQ
      generalize crB (s.getD k false) (l.getD p nilS) (l.getD (p + 1) nilS) = cb at HL1 HQ
      generalize l.getD p nilS = xa at t1 HQ
      generalize l.getD (p + 1) nilS = xb at t2 HQ
      generalize s.getD k false = sb at t3 HQ
      generalize upL k s l = ru at hU HU1 HLEN_ru
      generalize lowL k s l = rl at hL HL1 HLEN_rl
      have p0 : (0 : Int) ≤ (p : Int) := by omega
      have p1 : (p : Int) < (M : Int) := by omega
      have p2 : (p : Int) + 1 < (M : Int) := by omega
      have e1 : (2 : Int) * (k : Int) = (p : Int) := by omega
      have e2 : ((p : Int) + 1).toNat = p + 1 := by omega
      have e3 : IntKind.i64.wrap (p : Int) = (p : Int) := by rw [IntKind.wrap_i64]; omega
      have e4 : IntKind.i64.wrap ((p : Int) + 1) = (p : Int) + 1 := by rw [IntKind.wrap_i64]; omega
      have k1 : (k : Int) < (H : Int) := by omega
      have hkN : (k : Int) < (n : Int) := by omega
      have k0 : (0 : Int) ≤ (k : Int) := by omega
      have hp30 : p ≤ 30 := by omega
      have HPP : Hid (p = 2 * k) := hp
      clear hp
      go_wp2
      go_quiet ((go_at_call 99; exact Calls.quiet_of_same (HQ.out _)))
      obtain ⟨wq, hwq⟩ : ∃ wq, wr.drewN nq = wq := ⟨_, rfl⟩
      have HBQ : Hid (Below w.heap.size w wq) := by show Below _ _ _; rw [← hwq]; exact below_drewN hB.out _
      have hbq : Below wr.heap.size wr wq := by rw [← hwq]; exact below_drewN (Below.refl _ _) _
      have HO_rl : Hid (OwnS wq B u6 rl) := hL.out.later hbq
      have hUq : OwnS wq B u5 ru := hU.out.later hbq
      have hBsq : B ≤ wq.heap.size := Nat.le_trans hBs hbq.size
      have HSEP : Hid (Sep u5 u6) := hSEP.out
      rw [hwq]
      clear hwq hbq hL hU hSEP hB hBs t1 t2 t3 HQ
      have hob : ∀ q, u5.ownBlock = some q → B ≤ q := own_block_geS hUq
      have hown : wq.ownsRow B 9 1 u5 k (cellsS ru) := by have h := hUq; unfold OwnS at h; rw [HLEN_ru.out] at h; exact h
      have tok1 : True := trivial
      go_wp2_with (first | (at_builtin; clear tok1; refine wpList_append_lies _ rfl _ _ 29 rfl B 9 i0 (.string ByteArray.empty) 1 16 Try.underlying29 hi hz0 hz1 hz2 rfl (by decide) _ _ _ rfl (hown.alloc _) ⟨wq.heap.size, 0, none⟩ 1 1 [.string ca] rfl rfl (cell_new1 _ _ _) (strs_oneCell [ca]) (by decide) (by unfold maxLen; omega) (by omega) (by simp; omega) (wq.heap.size + 1) (by simp) ?_; intro g7 c7 wa hown' hgrow hwhere hltx; have HY_wa : Hid (OwnS wa B (.slice (some ⟨g7, 0, none⟩) (k + 1) c7) (ru ++ [ca])) := own_pushS (w := wq) (v := u5) (by simpa [HLEN_ru.out] using hown'); have HZ_wa : Hid (OwnS wa B u6 rl) := (HO_rl.out.later (balloc wq _)).kept hgrow HSEP.out.symm.or; have HSP_wa : Hid (Sep u6 (.slice (some ⟨g7, 0, none⟩) (k + 1) c7)) := HSEP.out.symm.app hwhere (fun q hq => by have := (World.ownsRow.lt HO_rl.out q hq).2; omega); have HB_wa : Hid (Below w.heap.size w wa) := (HBQ.out.alloc HBQ.out.size _).grown hgrow (by have := HBQ.out.size; simp; omega) (fun q hq => by have := hob q hq; omega); have HBs_wa : B ≤ wa.heap.size := Nat.le_trans (by simp; omega) hgrow.size; clear hown' hgrow hwhere hltx hown hob; clear HSEP HO_rl HBQ hUq; have HBQ : Hid (Below w.heap.size w wa) := HB_wa; have HO_ru : Hid (OwnS wa B (.slice (some ⟨g7, 0, none⟩) (k + 1) c7) (ru ++ [ca])) := HY_wa; have HSEP : Hid (Sep u6 (.slice (some ⟨g7, 0, none⟩) (k + 1) c7)) := HSP_wa; have hob : ∀ q, u6.ownBlock = some q → B ≤ q := own_block_geS HZ_wa.out; have hown : wa.ownsRow B 9 1 u6 k (cellsS rl) := (by have h := HZ_wa.out; unfold OwnS at h; rw [HLEN_rl.out] at h; exact h); clear HB_wa HY_wa HSP_wa) | (at_builtin; refine wpList_append_lies _ rfl _ _ 29 rfl B 9 i0 (.string ByteArray.empty) 1 16 Try.underlying29 hi hz0 hz1 hz2 rfl (by decide) _ _ _ rfl (hown.alloc _) ⟨wa.heap.size, 0, none⟩ 1 1 [.string cb] rfl rfl (cell_new1 _ _ _) (strs_oneCell [cb]) (by decide) (by unfold maxLen; omega) (by omega) (by simp; omega) (wa.heap.size + 1) (by simp) ?_; intro g8 c8 wb hown' hgrow hwhere hltx; have HY_wb : Hid (OwnS wb B (.slice (some ⟨g8, 0, none⟩) (k + 1) c8) (rl ++ [cb])) := own_pushS (w := wa) (v := u6) (by simpa [HLEN_rl.out] using hown'); have HZ_wb : Hid (OwnS wb B (.slice (some ⟨g7, 0, none⟩) (k + 1) c7) (ru ++ [ca])) := (HO_ru.out.later (balloc wa _)).kept hgrow HSEP.out.symm.or; have HSP_wb : Hid (Sep (.slice (some ⟨g7, 0, none⟩) (k + 1) c7) (.slice (some ⟨g8, 0, none⟩) (k + 1) c8)) := HSEP.out.symm.app hwhere (fun q hq => by have := (World.ownsRow.lt HO_ru.out q hq).2; omega); have HB_wb : Hid (Below w.heap.size w wb) := (HBQ.out.alloc HBQ.out.size _).grown hgrow (by have := HBQ.out.size; simp; omega) (fun q hq => by have := hob q hq; omega); have HBs_wb : B ≤ wb.heap.size := Nat.le_trans (by simp; omega) hgrow.size; clear hown' hgrow hwhere hltx hown hob))
      go_roundw
      case rel => exact ⟨k + 1, by omega, by go_num, by show OwnS _ _ _ _; rw [HU1.out]; exact HZ_wb.out, by show OwnS _ _ _ _; rw [HL1.out]; exact HY_wb.out, HSP_wb, HB_wb, HBs_wb⟩
      case measure => simp [intOf]; omega
    · obtain rfl : k = H := by omega
      have HU : Hid (OwnS wr B u5 (upL k s l)) := hU
      have HL : Hid (OwnS wr B u6 (lowL k s l)) := hL
      have HB : Hid (Below w.heap.size w wr) := hB
      have hkk : (k : Int) ≤ (k : Int) := Int.le_refl _
      clear hU hL hB hSEP

      obtain ⟨a9, c9, hv9⟩ := HU.out.shape
      obtain ⟨a8, c8, hv8⟩ := HL.out.shape
      rw [upL_length] at hv9
      rw [lowL_length] at hv8
      subst hv9
      subst hv8
      have hBz : Hid (B ≤ wr.heap.size) := hBs
      have HQ1 : Hid (∀ wx, Below w.heap.size w wx → OwnS wx B (.slice a9 k c9) (upL k s l) → Calls Try.prog 69 #[.iface t1 x1, .slice a9 k c9] wx fun en w' => ∃ a' c', en = .returned (.slice a' k c') ∧ OwnS w' wx.heap.size (.slice a' k c') (runL (d + 1) ((s.drop k).take N) (upL k s l)) ∧ Below wx.heap.size wx w') := fun wx hb ho => by
        have h := HIH.out b (o + k) (c - k) ((s.drop k).take N) a9 c9 (upL k s l) wx ((HBT.out.later hb).part k N (by omega)) (upL_length _ _ _) ho.rd'.2
        rw [HV1.out] at h; exact h
      have HQ2 : Hid (∀ wx, Below w.heap.size w wx → OwnS wx B (.slice a8 k c8) (lowL k s l) → Calls Try.prog 69 #[.iface t2 x2, .slice a8 k c8] wx fun en w' => ∃ a' c', en = .returned (.slice a' k c') ∧ OwnS w' wx.heap.size (.slice a' k c') (runL (d + 1) ((s.drop (k + N)).take N) (lowL k s l)) ∧ Below wx.heap.size wx w') := fun wx hb ho => by
        have h := HIH.out b (o + (k + N)) (c - (k + N)) ((s.drop (k + N)).take N) a8 c8 (lowL k s l) wx ((HBT.out.later hb).part (k + N) N (by omega)) (lowL_length _ _ _) ho.rd'.2
        rw [HV2.out] at h; exact h
      go_wp2
      refine wp_region_held_drew (S := (fun V => V.cell? ⟨wz.heap.size, 1, none⟩ = some (.iface t1 x1) ∧ V.cell? ⟨wz.heap.size, 2, none⟩ = some (.iface t2 x2))) (by kernel_rfl) ?_ (fun hHeld => ?_)
      · exact ⟨cell_keep (S := 0) HB.out HX1.out, cell_keep (S := 0) HB.out HX2.out⟩
      have HBd : Hid (Below w.heap.size w wr.drew) := HB.out.drew
      have HUd : Hid (OwnS wr.drew B (.slice a9 k c9) (upL k s l)) := HU.out.later (Below.refl _ _).drew
      have HLd : Hid (OwnS wr.drew B (.slice a8 k c8) (lowL k s l)) := HL.out.later (Below.refl _ _).drew
      have hBd : Hid (B ≤ wr.drew.heap.size) := Nat.le_trans hBs (Below.refl wr.heap.size wr).drew.size
      clear HB HU HL hBz hBs
      generalize wr.drew = DD at HBd HUd HLd hBd hHeld ⊢
      refine takeT9 (i := 0) (oi := _) (v := ?_) (d := some 49) rfl (by kernel_rfl) (by kernel_rfl) (by kernel_rfl) (by kernel_rfl) (fun _ _ _ h => h) (Or.inl ⟨by rfl, ?_⟩) (by assumption) ?_
      rotate_left
      · (intro w hSw; (try dsimp only at hSw); go_simp <;> with_reducible rfl)
      try simp only [Act.put, List.setIfInBounds_toArray, List.set_cons_zero, List.set_cons_succ]
      refine takeT9 (i := 1) (oi := _) (v := ?_) (d := some 50) rfl (by kernel_rfl) (by kernel_rfl) (by kernel_rfl) (by kernel_rfl) (fun _ _ _ h => h) (Or.inl ⟨by rfl, ?_⟩) (by assumption) ?_
      rotate_left
      · (intro w hSw; (try dsimp only at hSw); go_simp <;> with_reducible rfl)
      try simp only [Act.put, List.setIfInBounds_toArray, List.set_cons_zero, List.set_cons_succ]
      refine takeT9 (i := 2) (oi := _) (v := ?_) (d := some 51) rfl (by kernel_rfl) (by kernel_rfl) (by kernel_rfl) (by kernel_rfl) (fun _ _ _ h => h) (Or.inl ⟨by rfl, ?_⟩) (by assumption) ?_
      rotate_left
      · (intro w hSw; (try dsimp only at hSw); go_simp <;> with_reducible rfl)
      try simp only [Act.put, List.setIfInBounds_toArray, List.set_cons_zero, List.set_cons_succ]
      refine takeT9 (i := 4) (oi := _) (v := ?_) (d := some 53) rfl (by kernel_rfl) (by kernel_rfl) (by kernel_rfl) (by kernel_rfl) (fun _ _ _ h => h) (Or.inl ⟨by rfl, ?_⟩) (by assumption) ?_
      rotate_left
      · (intro w hSw; (try dsimp only at hSw); go_simp <;> with_reducible rfl)
      try simp only [Act.put, List.setIfInBounds_toArray, List.set_cons_zero, List.set_cons_succ]
      refine takeT9 (i := 5) (oi := _) (v := ?_) (d := some 54) rfl (by kernel_rfl) (by kernel_rfl) (by kernel_rfl) (by kernel_rfl) (fun _ _ _ h => h) (Or.inl ⟨by rfl, ?_⟩) (by assumption) ?_
      rotate_left
      · (intro w hSw; (try dsimp only at hSw); go_simp <;> with_reducible rfl)
      try simp only [Act.put, List.setIfInBounds_toArray, List.set_cons_zero, List.set_cons_succ]
      refine takeT9 (i := 6) (oi := _) (v := ?_) (d := some 55) rfl (by kernel_rfl) (by kernel_rfl) (by kernel_rfl) (by kernel_rfl) (fun _ _ _ h => h) (Or.inl ⟨by rfl, ?_⟩) (by assumption) ?_
      rotate_left
      · (intro w hSw; (try dsimp only at hSw); go_simp <;> with_reducible rfl)
      try simp only [Act.put, List.setIfInBounds_toArray, List.set_cons_zero, List.set_cons_succ]
      refine wpAnyH_ready (rs := [3]) (by kernel_rfl) (by simp) ?_
      refine AllReadyH.cons (o := _) rfl (fun K hK => ?_) AllReadyH.nil
      go_simp
      refine (HQ1.out _ HBd.out HUd.out).mono ?_
      rintro e w1 ⟨a1, c1, rfl, ho1, hb1⟩
      have HB1 : Hid (Below w.heap.size w w1) := HBd.out.trans (hb1.mono HBd.out.size)
      have HU1 : Hid (OwnS w1 B (.slice a1 k c1) (runL (d + 1) ((s.drop k).take N) (upL k s l))) := ho1.mono hBd.out
      have HL1 : Hid (OwnS w1 B (.slice a8 k c8) (lowL k s l)) := HLd.out.later hb1
      clear ho1 hb1 HBd HUd HLd hBd
      refine hK.out _ _ ?_ (fun hHeld => ?_)
      · exact ⟨cell_keep (S := 0) HB1.out HX1.out, cell_keep (S := 0) HB1.out HX2.out⟩
      clear hK K
      try simp only [Act.put, List.setIfInBounds_toArray, List.set_cons_zero, List.set_cons_succ]
      refine wpAnyH_ready (rs := [7]) (by kernel_rfl) (by simp) ?_
      refine AllReadyH.cons (o := _) rfl (fun K hK => ?_) AllReadyH.nil
      go_simp
      refine (HQ2.out _ HB1.out HL1.out).mono ?_
      rintro e W9 ⟨a2, c2, rfl, ho2, hb2⟩
      have HB9 : Hid (Below w.heap.size w W9) := HB1.out.trans (hb2.mono HB1.out.size)
      have HU2 : Hid (OwnS W9 B (.slice a1 k c1) (runL (d + 1) ((s.drop k).take N) (upL k s l))) := HU1.out.later hb2
      have HL2 : Hid (OwnS W9 w1.heap.size (.slice a2 k c2) (runL (d + 1) ((s.drop (k + N)).take N) (lowL k s l))) := ho2
      clear ho2 hb2 HB1 HU1 HL1
      refine hK.out _ _ ?_ (fun hHeld => ?_)
      · exact ⟨cell_keep (S := 0) HB9.out HX1.out, cell_keep (S := 0) HB9.out HX2.out⟩
      clear hK K
      try simp only [Act.put, List.setIfInBounds_toArray, List.set_cons_zero, List.set_cons_succ]
      refine takeT9 (i := 8) (oi := _) (v := ?_) (d := some 5) rfl (by kernel_rfl) (by kernel_rfl) (by kernel_rfl) (by kernel_rfl) (fun _ _ _ h => h) (Or.inl ⟨by rfl, ?_⟩) (by assumption) ?_
      rotate_left
      · (intro w hSw; (try dsimp only at hSw); go_simp <;> with_reducible rfl)
      try simp only [Act.put, List.setIfInBounds_toArray, List.set_cons_zero, List.set_cons_succ]
      refine takeT9 (i := 9) (oi := _) (v := ?_) (d := some 6) rfl (by kernel_rfl) (by kernel_rfl) (by kernel_rfl) (by kernel_rfl) (fun _ _ _ h => h) (Or.inl ⟨by rfl, ?_⟩) (by assumption) ?_
      rotate_left
      · (intro w hSw; (try dsimp only at hSw); go_simp <;> with_reducible rfl)
      try simp only [Act.put, List.setIfInBounds_toArray, List.set_cons_zero, List.set_cons_succ]
      refine wpAnyH_done (by kernel_rfl) ?_ _

      generalize runL (d + 1) ((s.drop k).take N) (upL k s l) = UU at HU2 HRUN
      generalize runL (d + 1) ((s.drop (k + N)).take N) (lowL k s l) = LL at HL2 HRUN
      have HRU : Hid (RdS W9 a1 UU) := HU2.out.rd'.2
      have HRL : Hid (RdS W9 a2 LL) := HL2.out.rd'.2
      have HLU : Hid (UU.length = k) := HU2.out.rd'.1
      have HLV : Hid (LL.length = k) := HL2.out.rd'.1
      have HXB : Hid (RdBits W9 b (o + (k + 2 * N)) (n - (k + 2 * N)) (s.drop (k + 2 * N))) := (HBT.out.later HB9.out).tail (k + 2 * N) (by omega)
      have x3 : W9.cell? ⟨wz.heap.size, 3, none⟩ = some (.slice (some ⟨b, o + (k + 2 * N), none⟩) k (c - (k + 2 * N))) := cell_keep (S := 0) HB9.out HX3.out
      generalize s.drop (k + 2 * N) = XX at HXB HRUN
      generalize c - (k + 2 * N) = cx at x3
      generalize o + (k + 2 * N) = ox at x3 HXB
      clear HU2 HL2
      go_wp2
      go_loopw [7, 60] (fun ov iv wr => ∃ j : Nat, j ≤ k ∧ iv = .int .i64 j ∧ Hid (OwnS wr W9.heap.size ov (outL j XX UU LL)) ∧ Hid (Below w.heap.size w wr) ∧ Hid (Below W9.heap.size W9 wr)) (fun _ iv _ => k - (intOf iv).toNat)
      case atStart => exact ⟨0, Nat.zero_le _, rfl, World.ownsRow_nil _ _ _ _, HB9, Below.refl _ _⟩
      case round =>
        have HS9 : Hid (w.heap.size ≤ W9.heap.size) := HB9.out.size
        clear HB9
        obtain ⟨j, hj, rfl, hO, hB, hB9⟩ := hrel
        by_cases hlj : j < k
        · obtain ⟨b1, o1, rfl, t1⟩ := (HRU.out.later hB9.out).get9 (k := j) (by rw [HLU.out]; omega)
          obtain ⟨b2, o2, rfl, t2⟩ := (HRL.out.later hB9.out).get9 (k := j) (by rw [HLV.out]; omega)
          have t3 := (HXB.out.later hB9.out).2 j (by omega)
          have HO1 : Hid (outL (j + 1) XX UU LL = outL j XX UU LL ++ [crA (XX.getD j false) (UU.getD j nilS) (LL.getD j nilS), crB (XX.getD j false) (UU.getD j nilS) (LL.getD j nilS)]) := outL_succ _ _ _ _
          have HLEN : Hid ((outL j XX UU LL).length = 2 * j) := outL_length _ _ _ _
          have HQ : Hid (∀ wx, Calls Try.prog 99 #[.bool (XX.getD j false), .string (UU.getD j nilS), .string (LL.getD j nilS)] wx fun e w' => e = .returned (.tuple #[.string (crA (XX.getD j false) (UU.getD j nilS) (LL.getD j nilS)), .string (crB (XX.getD j false) (UU.getD j nilS) (LL.getD j nilS))]) ∧ w' = wx) := fun wx => passed_c _ _ _ wx
          rw [show ByteArray.empty = nilS from rfl] at t1 t2
          generalize crA (XX.getD j false) (UU.getD j nilS) (LL.getD j nilS) = ca at HO1 HQ
          generalize crB (XX.getD j false) (UU.getD j nilS) (LL.getD j nilS) = cb at HO1 HQ
          generalize UU.getD j nilS = xa at t1 HQ
          generalize LL.getD j nilS = xb at t2 HQ
          generalize XX.getD j false = sb at t3 HQ
          generalize outL j XX UU LL = ro at hO HO1 HLEN
          have j0 : (0 : Int) ≤ (j : Int) := by omega
          have j1 : (j : Int) < (k : Int) := by omega
          skip
          go_wp2
          go_quiet ((go_at_call 99; exact Calls.quiet_of_same (HQ.out _)))
          obtain ⟨wq, hwq⟩ : ∃ wq, wr.drewN nq = wq := ⟨_, rfl⟩
          have HBQ : Hid (Below w.heap.size w wq) := by show Below _ _ _; rw [← hwq]; exact below_drewN hB.out _
          have HBQ9 : Hid (Below W9.heap.size W9 wq) := by show Below _ _ _; rw [← hwq]; exact below_drewN hB9.out _
          have hbq : Below wr.heap.size wr wq := by rw [← hwq]; exact below_drewN (Below.refl _ _) _
          have hOq : OwnS wq W9.heap.size u7 ro := hO.out.later hbq
          rw [hwq]
          clear hwq hbq hO hB hB9 t1 t2 t3 HQ
          have hob : ∀ q, u7.ownBlock = some q → W9.heap.size ≤ q := own_block_geS hOq
          have hsz9 : w.heap.size ≤ W9.heap.size := HS9.out
          have hown : wq.ownsRow W9.heap.size 9 1 u7 (2 * j) (cellsS ro) := by have h := hOq; unfold OwnS at h; rw [HLEN.out] at h; exact h
          go_wp2_with (at_builtin; refine wpList_append_own _ rfl _ _ 29 rfl W9.heap.size 9 i0 (.string ByteArray.empty) 1 16 Try.underlying29 hi hz0 hz1 hz2 rfl (by decide) _ _ _ rfl (hown.alloc _) ⟨wq.heap.size, 0, none⟩ 2 2 [.string ca, .string cb] rfl rfl (cell_new2s _ _ _ _) (strs_oneCell [ca, cb]) (by unfold maxLen; omega) (by omega) (by have := HBQ9.out.size; simp; omega) ?_; intro v' w2 hown' hgrow _; have HO' : Hid (OwnS w2 W9.heap.size v' (ro ++ [ca, cb])) := own_push2S (by simpa [HLEN.out] using hown'); have HB' : Hid (Below w.heap.size w w2) := (HBQ.out.alloc HBQ.out.size _).grown hgrow (by have := HBQ.out.size; simp; omega) (fun q hq => by have := hob q hq; omega); have HB9' : Hid (Below W9.heap.size W9 w2) := (HBQ9.out.alloc HBQ9.out.size _).grown hgrow (by have := HBQ9.out.size; simp; omega) (fun q hq => hob q hq); clear hown' hgrow)
          go_roundw
          case rel => exact ⟨j + 1, by omega, by go_num, by show OwnS _ _ _ _; rw [HO1.out]; exact HO'.out, HB', HB9'⟩
          case measure => simp [intOf]; omega
        · obtain rfl : j = k := by omega
          have HF : Hid (OwnS wr wz.heap.size u7 (runL (d + 2) s l)) := by show OwnS _ _ _ _; rw [HRUN.out]; exact hO.out.mono (Nat.le_trans HWZ.out.size HS9.out)
          obtain ⟨a', c', hv⟩ := hO.out.shape
          rw [outL_length] at hv
          have hM2 : 2 * j = M := by omega
          rw [hM2] at hv
          subst hv
          have HB : Hid (Below wz.heap.size wz wr) := HWZ.out.trans (hB.out.mono HWZ.out.size)
          clear hO hB hB9
          go_wp2
          go_ret
          exact ⟨a', c', rfl, HF.out, HB.out⟩

end Go.Proofs.Ytlepejafednlfaa
